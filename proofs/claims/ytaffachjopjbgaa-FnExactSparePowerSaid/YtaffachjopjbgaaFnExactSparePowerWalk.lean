/-
  The walk of FnExactSparePower: it returns true at every input.
-/
import Derived.Test.YtaffachjopjbgaaZ1
import Derived.Test.YtaffachjopjbgaaZ14
namespace Go.Proofs.Ytaffachjopjbgaa.fnExactSparePower
open Go.RowKit Wd
set_option linter.unusedVariables false

set_option maxRecDepth 100000 in
set_option maxHeartbeats 6400000 in
theorem walk (A : Option Addr) (n0 cap : Nat) (gs : List Rl) (q0 : ByteArray) (w : World) (hl : n0 ≤ maxLen) (h : InRules w A n0 gs) (hq0 : q0.size ≤ maxLen) :
    Calls Try.prog 15 #[.agg #[.slice A n0 cap], .string q0] w fun e w' => e = .returned (.bool true) ∧ Below w.heap.size w w' := by
  have hB0 := (Below.refl _ w).alloc (Nat.le_refl _) (.cells #[.slice A n0 cap] 28)
  have h1 := szGrammar_any A n0 cap gs 1048576 _ hl (h.kept hB0) (by omega) (by omega)
  have hboundq0 := hq0
  unfold maxLen at hboundq0
  by_cases hbigq0 : 1048576 < q0.size
  · have hd : decide ((1048576 : Int) < (q0.size : Int)) = true := decide_eq_true (by omega)
    clear h1 h
    go_enter Try.func15, Try.ntmps15
    go_wp2_with fail
    go_ret
    exact ⟨rfl, hB0⟩
  have hddq0 : decide ((1048576 : Int) < (q0.size : Int)) = false := decide_eq_false (by omega)
  have H1 := Lib.hid h1
  have HI := Lib.hid h
  by_cases hneg : purse 1048576 gs < 0
  · clear h h1 hB0
    go_enter Try.func15, Try.ntmps15
    go_wp2_with fail
    refine H1.out.mono ?_
    rintro e w1 ⟨rfl, hB1⟩
    have HB1 := Lib.hid hB1
    clear hB1
    go_wp2_with fail
    go_ret
    exact ⟨rfl, ((Below.refl _ w).alloc (Nat.le_refl _) _).trans (HB1.out.mono (by simp))⟩
  · have hf : FewR gs := purse_few hneg
    have hn0 : n0 ≤ 1048576 := by have := hf.len; rw [h.1] at this; exact this
    have HTO := Lib.hid (fun W (hW : InRules W A n0 gs) => toGrammar_any A n0 cap gs W hn0 hW)
    have HF := Lib.hid hf
    have HB0 := Lib.hid hB0
    have hn := hf.len
    have HS := Lib.hid (fun v W (hW : Rules W v gs) => specSparePower v gs q0 W hf hW hq0)
    have HP := Lib.hid (fun v W (hW : Rules W v gs) => implSparePower v gs q0 W hf hW hq0)
    clear h h1 hB0 hf
    generalize swA gs q0 = R at *
    obtain ⟨R1, R2⟩ := R
    simp only at HS HP
    go_enter Try.func15, Try.ntmps15
    go_wp2_with fail
    refine H1.out.mono ?_
    rintro e w1 ⟨rfl, hB1⟩
    have HB1 := Lib.hid (HB0.out.trans (hB1.mono (by simp)))
    have hc1 : w1.cell? ⟨w.heap.size, 0, none⟩ = some (.slice A n0 cap) := (hB1.cell (p := ⟨w.heap.size, 0, none⟩) (by simp)).trans (cell_new _ _ _)
    clear hB1
    go_wp2_with fail
    refine (HTO.out _ (HI.out.kept HB1.out)).mono ?_
    rintro e w2 ⟨v1, rfl, ho1, hB2⟩
    have HB2 := Lib.hid (HB1.out.trans (hB2.mono HB1.out.size))
    have HR1 := Lib.hid (Rules.of_own ho1)
    have hc2 := (hB2.cell (p := ⟨w.heap.size, 0, none⟩) (lt_of_cell hc1)).trans hc1
    clear hB2 ho1 hc1
    go_wp2_with fail
    refine (HS.out _ _ HR1.out).mono ?_
    rintro e w3 ⟨rfl, hB3⟩
    have HB3 := Lib.hid (HB2.out.trans (hB3.mono HB2.out.size))
    have hc3 := (hB3.cell (p := ⟨w.heap.size, 0, none⟩) (lt_of_cell hc2)).trans hc2
    clear hB3 hc2
    go_wp2_with fail
    refine (HTO.out _ (HI.out.kept HB3.out)).mono ?_
    rintro e w4 ⟨v2, rfl, ho2, hB4⟩
    have HB4 := Lib.hid (HB3.out.trans (hB4.mono HB3.out.size))
    have HR2 := Lib.hid (Rules.of_own ho2)
    obtain ⟨A2, c2, rfl⟩ := own_slice ho2
    have hc4 := (hB4.cell (p := ⟨w.heap.size, 0, none⟩) (lt_of_cell hc3)).trans hc3
    clear hB4 ho2 hc3
    go_wp2_with fail
    have hB5 := (Below.refl _ w4).alloc (Nat.le_refl _) (.cells #[.slice A2 gs.length c2] 37)
    have HR2' := Lib.hid (HR2.out.kept hB5)
    refine (HP.out _ _ HR2'.out).mono ?_
    rintro e w6 ⟨rfl, hB6⟩
    have hB46 := hB5.trans (hB6.mono (by simp))
    have HR6 := Lib.hid (HR2.out.kept hB46)
    have HB6 := Lib.hid (HB4.out.trans (hB46.mono HB4.out.size))
    have hc6 := (hB46.cell (p := ⟨w.heap.size, 0, none⟩) (lt_of_cell hc4)).trans hc4
    have hx6 : w6.cell? ⟨w4.heap.size, 0, none⟩ = some (.slice A2 gs.length c2) := (hB6.cell (p := ⟨w4.heap.size, 0, none⟩) (by simp)).trans (cell_new _ _ _)
    obtain ⟨X, hX⟩ : ∃ X, X = w4.heap.size := ⟨_, rfl⟩
    rw [← hX] at hx6 ⊢
    have HT6 := Lib.hid (fun m => HTO.out (w6.drewN m) (HI.out.kept (below_drewN HB6.out m)))
    have HC6 := Lib.hid hc6
    have HX6 := Lib.hid hx6
    clear hB5 hB6 hB46 hc4 hX
    go_wp2_with fail
    go_region_held3 (fun w' => w'.cell? ⟨w.heap.size, 0, none⟩ = some (.slice A n0 cap) ∧ w'.cell? ⟨X, 0, none⟩ = some (.slice A2 gs.length c2)) (first | go_keep | exact HS7.out | exact HS8.out)
      (first
        | (go_at_call 21; refine (HT6.out _).mono ?_; rintro e w7 ⟨v3, rfl, ho3, hB7⟩; have HB7 := Lib.hid (below_undrew hB7); have HR7 := Lib.hid (Rules.of_own ho3); have HS7 := Lib.hid (And.intro ((HB7.out.cell (p := ⟨w.heap.size, 0, none⟩) (lt_of_cell HC6.out)).trans HC6.out) ((HB7.out.cell (p := ⟨X, 0, none⟩) (lt_of_cell HX6.out)).trans HX6.out)); clear ho3 hB7)
        | (go_at_call 24; refine (eqGrammar_same _ _ gs _ hn (HR6.out.kept HB7.out) HR7.out).mono ?_; rintro e w8 ⟨rfl, hB8⟩; have HB8 := Lib.hid (HB7.out.trans (hB8.mono HB7.out.size)); have HS8 := Lib.hid (And.intro ((HB8.out.cell (p := ⟨w.heap.size, 0, none⟩) (lt_of_cell HC6.out)).trans HC6.out) ((HB8.out.cell (p := ⟨X, 0, none⟩) (lt_of_cell HX6.out)).trans HX6.out)); clear hB8))
    have HB9 := Lib.hid (HB6.out.trans (HB8.out.mono HB6.out.size))
    clear hc6 hx6
    go_wp2_with fail
    go_ret
    exact ⟨rfl, HB9.out⟩
end Go.Proofs.Ytaffachjopjbgaa.fnExactSparePower
