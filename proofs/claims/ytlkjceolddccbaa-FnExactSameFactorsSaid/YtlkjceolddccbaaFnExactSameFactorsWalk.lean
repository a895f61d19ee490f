/-
  The walk of FnExactSameFactors: it returns true at every input.
-/
import Derived.Test.YtlkjceolddccbaaFaSameS
import Derived.Test.YtlkjceolddccbaaFaEq
import Derived.Test.YtlkjceolddccbaaGramSpec
import Derived.Test.YtlkjceolddccbaaFacM
namespace Go.Proofs.Ytlkjceolddccbaa.fnExactSameFactors
open Go.RowKit Wd
set_option linter.unusedVariables false

theorem purse_few2 {gs : List Rl} {left : Int} (hl : left ≤ 1048576) (h : ¬ purse left gs < 0) : FewR gs ∧ 0 ≤ purse left gs ∧ purse left gs ≤ 1048576 := by
  unfold purse at h ⊢
  unfold FewR
  split at h
  · rename_i h1
    rw [if_pos h1]; omega
  · omega

set_option maxRecDepth 100000 in
set_option maxHeartbeats 6400000 in
theorem walk (A : Option Addr) (n0 cap : Nat) (gs : List Rl) (A' : Option Addr) (n1 cap' : Nat) (hs : List Rl) (w : World) (hl : n0 ≤ maxLen) (h : InRules w A n0 gs) (hw : WfF gs) (hl' : n1 ≤ maxLen) (h' : InRules w A' n1 hs) (hw' : WfF hs) :
    Calls Try.prog 7 #[.slice A n0 cap, .slice A' n1 cap'] w fun e w' => e = .returned (.bool true) ∧ Below w.heap.size w w' := by
  have h1 := szFactorS_any A n0 cap gs 1048576 w hl h (by omega) (by omega)
  have H1 := Lib.hid h1
  have HI := Lib.hid h
  have HI' := Lib.hid h'
  by_cases hneg : purse 1048576 gs < 0
  · clear h h1 h'
    go_enter Try.func7, Try.ntmps7
    go_wp2_with fail
    refine H1.out.mono ?_
    rintro e w1 ⟨rfl, hB1⟩
    go_wp2_with fail
    go_ret
    exact ⟨rfl, hB1⟩
  · obtain ⟨hf, hp0, hp1⟩ := purse_few2 (by omega) hneg
    have HSZ2 := Lib.hid (fun W (hW : InRules W A' n1 hs) => szFactorS_any A' n1 cap' hs (purse 1048576 gs) W hl' hW hp0 hp1)
    have hn0 : n0 ≤ 1048576 := by have := hf.len; rw [h.1] at this; exact this
    have HTO := Lib.hid (fun W (hW : InRules W A n0 gs) => toFactorS_any A n0 cap gs W hn0 hW)
    have hn := hf.len
    by_cases hneg2 : purse (purse 1048576 gs) hs < 0
    · generalize purse 1048576 gs = lf at *
      clear h h1 h' hf HTO
      go_enter Try.func7, Try.ntmps7
      go_wp2_with fail
      refine H1.out.mono ?_
      rintro e w1 ⟨rfl, hB1⟩
      have HB1 := Lib.hid hB1
      clear hB1
      go_wp2_with fail
      refine (HSZ2.out _ (HI'.out.kept HB1.out)).mono ?_
      rintro e w2 ⟨rfl, hB2⟩
      have HB2 := Lib.hid (HB1.out.trans (hB2.mono HB1.out.size))
      clear hB2
      go_wp2_with fail
      go_ret
      exact ⟨rfl, HB2.out⟩
    · obtain ⟨hf', _, _⟩ := purse_few2 hp1 hneg2
      have hn1 : n1 ≤ 1048576 := by have := hf'.len; rw [h'.1] at this; exact this
      have hn' := hf'.len
      have HTO' := Lib.hid (fun W (hW : InRules W A' n1 hs) => toFactorS_any A' n1 cap' hs W hn1 hW)
      generalize purse 1048576 gs = lf at *
      generalize purse lf hs = lf2 at *
      clear h h1 h' hf hf'
      go_enter Try.func7, Try.ntmps7
      go_wp2_with fail
      refine H1.out.mono ?_
      rintro e w1 ⟨rfl, hB1⟩
      have HB1 := Lib.hid hB1
      clear hB1
      go_wp2_with fail
      refine (HSZ2.out _ (HI'.out.kept HB1.out)).mono ?_
      rintro e w2 ⟨rfl, hB2⟩
      have HB2 := Lib.hid (HB1.out.trans (hB2.mono HB1.out.size))
      clear hB2
      go_wp2_with fail
      refine (HTO.out _ (HI.out.kept HB2.out)).mono ?_
      rintro e w3 ⟨v1, rfl, ho, hB3⟩
      have HB3 := Lib.hid (HB2.out.trans (hB3.mono HB2.out.size))
      have R1 := Lib.hid (Rules.of_own ho)
      clear ho hB3
      go_wp2_with fail
      refine (HTO'.out _ (HI'.out.kept HB3.out)).mono ?_
      rintro e w4 ⟨v2, rfl, ho, hB4⟩
      have HB4 := Lib.hid (HB3.out.trans (hB4.mono HB3.out.size))
      have R2 := Lib.hid (Rules.of_own ho)
      have R1_4 := Lib.hid (R1.out.kept hB4)
      clear ho hB4
      go_wp2_with fail
      refine (specSameFactors _ _ gs hs _ hn hn' R1_4.out R2.out).mono ?_
      rintro e w5 ⟨rfl, hB5⟩
      have HB5 := Lib.hid (HB4.out.trans (hB5.mono HB4.out.size))
      clear hB5
      go_wp2_with fail
      refine (HTO.out _ (HI.out.kept HB5.out)).mono ?_
      rintro e w6 ⟨v3, rfl, ho, hB6⟩
      have HB6 := Lib.hid (HB5.out.trans (hB6.mono HB5.out.size))
      have R3 := Lib.hid (Rules.of_own ho)
      clear ho hB6
      go_wp2_with fail
      refine (HTO'.out _ (HI'.out.kept HB6.out)).mono ?_
      rintro e w7 ⟨v4, rfl, ho, hB7⟩
      have HB7 := Lib.hid (HB6.out.trans (hB7.mono HB6.out.size))
      have R4 := Lib.hid (Rules.of_own ho)
      have R3_7 := Lib.hid (R3.out.kept hB7)
      clear ho hB7
      go_wp2_with fail
      refine (implSameFactors _ _ gs hs _ hn hn' R3_7.out R4.out).mono ?_
      rintro e w8 ⟨rfl, hB8⟩
      have HB8 := Lib.hid (HB7.out.trans (hB8.mono HB7.out.size))
      have R3_8 := Lib.hid (R3_7.out.kept hB8)
      have R4_8 := Lib.hid (R4.out.kept hB8)
      clear hB8
      go_wp2_with fail
      refine (HTO.out _ (HI.out.kept HB8.out)).mono ?_
      rintro e w9 ⟨v5, rfl, ho, hB9⟩
      have HB9 := Lib.hid (HB8.out.trans (hB9.mono HB8.out.size))
      have R5 := Lib.hid (Rules.of_own ho)
      have R3_9 := Lib.hid (R3_8.out.kept hB9)
      have R4_9 := Lib.hid (R4_8.out.kept hB9)
      clear ho hB9
      go_wp2_with fail
      refine (eqFactorS_same _ _ gs _ hn R3_9.out R5.out).mono ?_
      rintro e w10 ⟨rfl, hB10⟩
      have HB10 := Lib.hid (HB9.out.trans (hB10.mono HB9.out.size))
      have R4_10 := Lib.hid (R4_9.out.kept hB10)
      clear hB10
      go_wp2_with fail
      refine (HTO'.out _ (HI'.out.kept HB10.out)).mono ?_
      rintro e w11 ⟨v6, rfl, ho, hB11⟩
      have HB11 := Lib.hid (HB10.out.trans (hB11.mono HB10.out.size))
      have R6 := Lib.hid (Rules.of_own ho)
      have R4_11 := Lib.hid (R4_10.out.kept hB11)
      clear ho hB11
      go_wp2_with fail
      refine (eqFactorS_same _ _ hs _ hn' R4_11.out R6.out).mono ?_
      rintro e w12 ⟨rfl, hB12⟩
      have HB12 := Lib.hid (HB11.out.trans (hB12.mono HB11.out.size))
      clear hB12
      go_wp2_with fail
      go_ret
      exact ⟨rfl, HB12.out⟩
end Go.Proofs.Ytlkjceolddccbaa.fnExactSameFactors
