/-
  The walk of FnExactWordOfRuns: it returns true at every input.
-/
import Derived.Test.YtlgpleeanmeenaaRuJ
import Derived.Test.YtlgpleeanmeenaaRuS
import Derived.Test.YtlgpleeanmeenaaRuEq
import Derived.Deep.RegionHeld3
namespace Go.Proofs.Ytlgpleeanmeenaa.fnExactWordOfRuns
open Go.RowKit Wd
set_option linter.unusedVariables false

set_option maxRecDepth 100000 in
set_option maxHeartbeats 6400000 in
theorem walk (A : Option Addr) (n0 cap : Nat) (gs : List Ru) (w : World) (hl : n0 ≤ maxLen) (h : InRuns w A n0 gs) :
    Calls Try.prog 7 #[.slice A n0 cap] w fun e w' => e = .returned (.bool true) ∧ Below w.heap.size w w' := by
  have h1 := szRunS_any A n0 cap gs 1048576 w hl h (by omega) (by omega)
  have H1 := Lib.hid h1
  have HI := Lib.hid h
  by_cases hneg : purseU 1048576 gs < 0
  · clear h h1
    go_enter Try.func7, Try.ntmps7
    go_wp2_with fail
    refine H1.out.mono ?_
    rintro e w1 ⟨rfl, hB1⟩
    go_wp2_with fail
    go_ret
    exact ⟨rfl, hB1⟩
  · have hf : FewU gs := purse_fewU hneg
    have hn0 : n0 ≤ 1048576 := by have := hf.len; rw [h.1] at this; exact this
    have HTO := Lib.hid (fun W (hW : InRuns W A n0 gs) => toRunS_any A n0 cap gs W hn0 hW)
    have hn := hf.len
    have HS := Lib.hid (fun v W (hW : Runs W v gs) => specWordOfRuns v gs W hf hW)
    have HP := Lib.hid (fun v W (hW : Runs W v gs) => implWordOfRuns v gs W hf hW)
    clear h h1 hf
    go_enter Try.func7, Try.ntmps7
    go_wp2_with fail
    refine H1.out.mono ?_
    rintro e w1 ⟨rfl, hB1⟩
    have HB1 := Lib.hid hB1
    clear hB1
    go_wp2_with fail
    refine (HTO.out _ (HI.out.kept HB1.out)).mono ?_
    rintro e w2 ⟨v1, rfl, ho1, hB2⟩
    have HB2 := Lib.hid (HB1.out.trans (hB2.mono HB1.out.size))
    have HR1 := Lib.hid (Runs.of_own ho1)
    clear hB2 ho1
    go_wp2_with fail
    refine (HS.out _ _ HR1.out).mono ?_
    rintro e w3 ⟨rfl, hB3⟩
    have HB3 := Lib.hid (HB2.out.trans (hB3.mono HB2.out.size))
    clear hB3
    go_wp2_with fail
    refine (HTO.out _ (HI.out.kept HB3.out)).mono ?_
    rintro e w4 ⟨v2, rfl, ho2, hB4⟩
    have HB4 := Lib.hid (HB3.out.trans (hB4.mono HB3.out.size))
    have HR2 := Lib.hid (Runs.of_own ho2)
    clear hB4 ho2
    go_wp2_with fail
    refine (HP.out _ _ HR2.out).mono ?_
    rintro e w6 ⟨rfl, hB6⟩
    have HR6 := Lib.hid (HR2.out.kept hB6)
    have HB6 := Lib.hid (HB4.out.trans (hB6.mono HB4.out.size))
    clear hB6
    go_wp2_with fail
    refine (HTO.out _ (HI.out.kept HB6.out)).mono ?_
    rintro e w7 ⟨v3, rfl, ho3, hB7⟩
    have HR7 := Lib.hid (Runs.of_own ho3)
    have HB7 := Lib.hid (HB6.out.trans (hB7.mono HB6.out.size))
    have HR67 := Lib.hid (HR6.out.kept hB7)
    clear ho3 hB7
    go_wp2_with fail
    refine (eqRunS_same _ _ gs _ hn HR67.out HR7.out).mono ?_
    rintro e w8 ⟨rfl, hB8⟩
    have HB8 := Lib.hid (HB7.out.trans (hB8.mono HB7.out.size))
    clear hB8
    go_wp2_with fail
    go_ret
    exact ⟨rfl, HB8.out⟩
end Go.Proofs.Ytlgpleeanmeenaa.fnExactWordOfRuns
