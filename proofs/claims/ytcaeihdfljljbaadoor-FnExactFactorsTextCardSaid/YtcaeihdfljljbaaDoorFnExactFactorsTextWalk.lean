/-
  The walk of FnExactFactorsText: it returns true at every input.
-/
import Derived.Test.YtcaeihdfljljbaaDoorFxI
import Derived.Test.YtcaeihdfljljbaaDoorFaEq
import Derived.Deep.RegionHeld3
namespace Go.Proofs.YtcaeihdfljljbaaDoor.fnExactFactorsText
open Go.RowKit Wd
set_option linter.unusedVariables false

set_option maxRecDepth 100000 in
set_option maxHeartbeats 6400000 in
theorem walk (A : Option Addr) (n0 cap : Nat) (gs : List Rl) (w : World) (hl : n0 ≤ maxLen) (h : InRules w A n0 gs) (hw : WfF gs) (ht : Pow10 w) :
    Calls Tryd.prog 4 #[.slice A n0 cap] w fun e w' => e = .returned (.bool true) ∧ Below w.heap.size w w' := by
  have h1 := szFactorS_any A n0 cap gs 1048576 w hl h (by omega) (by omega)
  have H1 := Lib.hid h1
  have HI := Lib.hid h
  by_cases hneg : purse 1048576 gs < 0
  · clear h h1
    go_enter Tryd.func4, Tryd.ntmps4
    go_wp2_with fail
    refine H1.out.mono ?_
    rintro e w1 ⟨rfl, hB1⟩
    go_wp2_with fail
    go_ret
    exact ⟨rfl, hB1⟩
  · have hf : FewR gs := purse_few hneg
    have hn0 : n0 ≤ 1048576 := by have := hf.len; rw [h.1] at this; exact this
    have HTO := Lib.hid (fun W (hW : InRules W A n0 gs) => toFactorS_any A n0 cap gs W hn0 hW)
    have hn := hf.len
    have HS := Lib.hid (fun v W (hW : Rules W v gs) => specFactorsText v gs W hf hW hw)
    have HP := Lib.hid (fun v W (hb : Below w.heap.size w W) (hW : Rules W v gs) => implFactorsText v gs W hf hW hw (ht.kept hb))
    clear h h1 hf hw ht
    generalize (if facOk gs = true then fsT gs else ⟨#[]⟩) = R at *
    have hq : (R.toList == R.toList) = true := by simp
    go_enter Tryd.func4, Tryd.ntmps4
    go_wp2_with fail
    refine H1.out.mono ?_
    rintro e w1 ⟨rfl, hB1⟩
    have HB1 := Lib.hid hB1
    clear hB1
    go_wp2_with fail
    refine (HTO.out _ (HI.out.kept HB1.out)).mono ?_
    rintro e w2 ⟨v1, rfl, ho1, hB2⟩
    have HB2 := Lib.hid (HB1.out.trans (hB2.mono HB1.out.size))
    have HR1 := Lib.hid (Rules.of_own ho1)
    clear hB2 ho1
    go_wp2_with fail
    refine (HS.out _ _ HR1.out).mono ?_
    rintro e w3 ⟨rfl, hB3⟩
    have HB3 := Lib.hid (HB2.out.trans (hB3.mono HB2.out.size))
    clear hB3
    go_wp2_with fail
    refine (HTO.out _ (HI.out.kept HB3.out)).mono ?_
    rintro e w4 ⟨v2, rfl, ho2, hB4⟩
    have HB4 := Lib.hid (HB3.out.trans (hB4.mono HB3.out.size))
    have HR2 := Lib.hid (Rules.of_own ho2)
    clear hB4 ho2
    go_wp2_with fail
    refine (HP.out _ _ HB4.out HR2.out).mono ?_
    rintro e w6 ⟨rfl, hB6⟩
    have HR6 := Lib.hid (HR2.out.kept hB6)
    have HB6 := Lib.hid (HB4.out.trans (hB6.mono HB4.out.size))
    clear hB6
    go_wp2_with fail
    refine (HTO.out _ (HI.out.kept HB6.out)).mono ?_
    rintro e w7 ⟨v3, rfl, ho3, hB7⟩
    have HR7 := Lib.hid (Rules.of_own ho3)
    have HB7 := Lib.hid (HB6.out.trans (hB7.mono HB6.out.size))
    have HR67 := Lib.hid (HR6.out.kept hB7)
    clear ho3 hB7
    go_wp2_with fail
    refine (eqFactorS_same _ _ gs _ hn HR67.out HR7.out).mono ?_
    rintro e w8 ⟨rfl, hB8⟩
    have HB8 := Lib.hid (HB7.out.trans (hB8.mono HB7.out.size))
    clear hB8
    go_wp2_with fail
    go_ret
    exact ⟨rfl, HB8.out⟩
end Go.Proofs.YtcaeihdfljljbaaDoor.fnExactFactorsText
