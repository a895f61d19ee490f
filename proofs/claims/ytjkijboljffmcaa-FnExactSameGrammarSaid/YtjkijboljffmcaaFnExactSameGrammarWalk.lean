/-
  The walk of FnExactSameGrammar: it returns true at every input.
-/
import Derived.Test.YtjkijboljffmcaaGSame
import Derived.Test.YtjkijboljffmcaaGramSpec
import Derived.Deep.RegionHeld3
namespace Go.Proofs.Ytjkijboljffmcaa.fnExactSameGrammar
open Go.RowKit Wd
set_option linter.unusedVariables false

theorem purse_few2 {gs : List Rl} {left : Int} (hl : left ≤ 1048576) (h : ¬ purse left gs < 0) : FewR gs ∧ 0 ≤ purse left gs ∧ purse left gs ≤ 1048576 := by
  unfold purse at h ⊢
  unfold FewR
  split at h
  · rename_i h1
    rw [if_pos h1]; omega
  · omega

set_option maxRecDepth 100000 in
set_option maxHeartbeats 12800000 in
theorem walk (A : Option Addr) (n0 cap : Nat) (gs : List Rl) (A' : Option Addr) (n1 cap' : Nat) (hs : List Rl) (w : World) (hl : n0 ≤ maxLen) (h : InRules w A n0 gs) (hl' : n1 ≤ maxLen) (h' : InRules w A' n1 hs) :
    Calls Try.prog 14 #[.agg #[.slice A n0 cap], .agg #[.slice A' n1 cap']] w fun e w' => e = .returned (.bool true) ∧ Below w.heap.size w w' := by
  have hB0 : Below w.heap.size w ((w.alloc (.cells #[.slice A n0 cap] 60)).alloc (.cells #[.slice A' n1 cap'] 60)) := ((Below.refl _ w).alloc (Nat.le_refl _) _).alloc (by simp) _
  have h1 := szGrammar_any A n0 cap gs 1048576 _ hl (h.kept hB0) (by omega) (by omega)
  have H1 := Lib.hid h1
  have HI := Lib.hid h
  have HI' := Lib.hid h'
  have HB0 := Lib.hid hB0
  have x1 : ((w.alloc (.cells #[.slice A n0 cap] 60)).alloc (.cells #[.slice A' n1 cap'] 60)).cell? ⟨w.heap.size, 0, none⟩ = some (.slice A n0 cap) := by
    rw [((Below.refl _ (w.alloc (.cells #[.slice A n0 cap] 60))).alloc (Nat.le_refl _) _).cell (p := ⟨w.heap.size, 0, none⟩) (by simp)]; exact cell_new _ _ _
  have x2 : ((w.alloc (.cells #[.slice A n0 cap] 60)).alloc (.cells #[.slice A' n1 cap'] 60)).cell? ⟨w.heap.size + 1, 0, none⟩ = some (.slice A' n1 cap') := by
    have := cell_new (w.alloc (.cells #[.slice A n0 cap] 60)) (.slice A' n1 cap') 60
    simp at this ⊢
  have HX := Lib.hid (And.intro x1 x2)
  clear x1 x2
  by_cases hneg : purse 1048576 gs < 0
  · clear h h1 hB0 h'
    go_enter Try.func14, Try.ntmps14
    go_wp2_with fail
    refine H1.out.mono ?_
    rintro e w1 ⟨rfl, hB1⟩
    have HB1 := Lib.hid (HB0.out.trans (hB1.mono (by simp; omega)))
    clear hB1
    go_wp2_with fail
    go_ret
    exact ⟨rfl, HB1.out⟩
  · obtain ⟨hf, hp0, hp1⟩ := purse_few2 (by omega) hneg
    have HSZ2 := Lib.hid (fun W (hW : InRules W A' n1 hs) => szGrammar_any A' n1 cap' hs (purse 1048576 gs) W hl' hW hp0 hp1)
    have hn0 : n0 ≤ 1048576 := by have := hf.len; rw [h.1] at this; exact this
    have HTO := Lib.hid (fun W (hW : InRules W A n0 gs) => toGrammar_any A n0 cap gs W hn0 hW)
    have hn := hf.len
    by_cases hneg2 : purse (purse 1048576 gs) hs < 0
    · generalize purse 1048576 gs = lf at *
      clear h h1 hB0 h' hf HTO
      go_enter Try.func14, Try.ntmps14
      go_wp2_with fail
      refine H1.out.mono ?_
      rintro e w1 ⟨rfl, hB1⟩
      have HB1 := Lib.hid (HB0.out.trans (hB1.mono (by simp; omega)))
      have hc1 := (hB1.cell (p := ⟨w.heap.size + 1, 0, none⟩) (by simp)).trans HX.out.2
      clear hB1
      go_wp2_with fail
      refine (HSZ2.out _ (HI'.out.kept HB1.out)).mono ?_
      rintro e w2 ⟨rfl, hB2⟩
      have HB2 := Lib.hid (HB1.out.trans (hB2.mono HB1.out.size))
      clear hB2
      go_wp2_with fail
      go_ret
      exact ⟨rfl, HB2.out⟩
    · obtain ⟨hf', _, _⟩ := purse_few2 hp1 hneg2
      have hn1 : n1 ≤ 1048576 := by have := hf'.len; rw [h'.1] at this; exact this
      have hn' := hf'.len
      have HTO' := Lib.hid (fun W (hW : InRules W A' n1 hs) => toGrammar_any A' n1 cap' hs W hn1 hW)
      generalize purse 1048576 gs = lf at *
      generalize purse lf hs = lf2 at *
      clear h h1 hB0 h' hf hf'
      go_enter Try.func14, Try.ntmps14
      go_wp2_with fail
      refine H1.out.mono ?_
      rintro e w1 ⟨rfl, hB1⟩
      have HB1 := Lib.hid (HB0.out.trans (hB1.mono (by simp; omega)))
      have hc1 := (hB1.cell (p := ⟨w.heap.size + 1, 0, none⟩) (by simp)).trans HX.out.2
      have HC1 := Lib.hid ((hB1.cell (p := ⟨w.heap.size, 0, none⟩) (by simp; omega)).trans HX.out.1)
      clear hB1
      go_wp2_with fail
      refine (HSZ2.out _ (HI'.out.kept HB1.out)).mono ?_
      rintro e w2 ⟨rfl, hB2⟩
      have HB2 := Lib.hid (HB1.out.trans (hB2.mono HB1.out.size))
      have HC2 := Lib.hid (And.intro ((hB2.cell (p := ⟨w.heap.size, 0, none⟩) (lt_of_cell HC1.out)).trans HC1.out) ((hB2.cell (p := ⟨w.heap.size + 1, 0, none⟩) (lt_of_cell hc1)).trans hc1))
      have HT2 := Lib.hid (fun m => HTO.out (w2.drewN m) (HI.out.kept (below_drewN HB2.out m)))
      clear hB2 hc1
      obtain ⟨hc2, hd2⟩ := HC2.out
      go_wp2_with fail
      go_region_held3 (fun w' => w'.cell? ⟨w.heap.size, 0, none⟩ = some (.slice A n0 cap) ∧ w'.cell? ⟨w.heap.size + 1, 0, none⟩ = some (.slice A' n1 cap')) (first | go_keep | exact HS3.out | exact HS4.out | exact HS5.out)
        (first
          | (go_at_call_of 44 (Value.agg #[.slice A n0 cap]); refine (HT2.out _).mono ?_; rintro e w3 ⟨v1, rfl, ho1, hB3⟩; have HB3 := Lib.hid (below_undrew hB3); have HR1 := Lib.hid (Rules.of_own ho1); have HS3 := Lib.hid (And.intro ((HB3.out.cell (p := ⟨w.heap.size, 0, none⟩) (lt_of_cell HC2.out.1)).trans HC2.out.1) ((HB3.out.cell (p := ⟨w.heap.size + 1, 0, none⟩) (lt_of_cell HC2.out.2)).trans HC2.out.2)); have HBw3 := Lib.hid (HB2.out.trans (HB3.out.mono HB2.out.size)); clear ho1 hB3)
          | (go_at_call_of 44 (Value.agg #[.slice A' n1 cap']); refine (HTO'.out _ (HI'.out.kept HBw3.out)).mono ?_; rintro e w4 ⟨v2, rfl, ho2, hB4⟩; have HB4 := Lib.hid hB4; have HR2 := Lib.hid (Rules.of_own ho2); have HS4 := Lib.hid (And.intro ((HB4.out.cell (p := ⟨w.heap.size, 0, none⟩) (lt_of_cell HS3.out.1)).trans HS3.out.1) ((HB4.out.cell (p := ⟨w.heap.size + 1, 0, none⟩) (lt_of_cell HS3.out.2)).trans HS3.out.2)); have HBw4 := Lib.hid (HBw3.out.trans (HB4.out.mono HBw3.out.size)); clear ho2 hB4)
          | (go_at_call 47; refine (specSame _ _ gs hs _ hn hn' (HR1.out.kept HB4.out) HR2.out).mono ?_; rintro e w5 ⟨rfl, hB5⟩; have HS5 := Lib.hid (And.intro ((hB5.cell (p := ⟨w.heap.size, 0, none⟩) (lt_of_cell HS4.out.1)).trans HS4.out.1) ((hB5.cell (p := ⟨w.heap.size + 1, 0, none⟩) (lt_of_cell HS4.out.2)).trans HS4.out.2)); have HBw5 := Lib.hid (HBw4.out.trans (hB5.mono HBw4.out.size)); clear hB5))
      obtain ⟨hc5, hd5⟩ := HS5.out
      clear hc2 hd2
      go_wp2_with fail
      refine (HTO.out _ (HI.out.kept HBw5.out)).mono ?_
      rintro e w6 ⟨v3, rfl, ho3, hB6⟩
      have HR3 := Lib.hid (Rules.of_own ho3)
      obtain ⟨A3, c3, rfl⟩ := own_slice ho3
      have HBw6 := Lib.hid (HBw5.out.trans (hB6.mono HBw5.out.size))
      have HS6 := Lib.hid (And.intro ((hB6.cell (p := ⟨w.heap.size, 0, none⟩) (lt_of_cell hc5)).trans hc5) ((hB6.cell (p := ⟨w.heap.size + 1, 0, none⟩) (lt_of_cell hd5)).trans hd5))
      have hB7 := (Below.refl _ w6).alloc (Nat.le_refl _) (.cells #[.slice A3 gs.length c3] 65)
      have HR3' := Lib.hid (HR3.out.kept hB7)
      have HS7 := Lib.hid (And.intro ((hB7.cell (p := ⟨w.heap.size, 0, none⟩) (lt_of_cell HS6.out.1)).trans HS6.out.1) ((hB7.cell (p := ⟨w.heap.size + 1, 0, none⟩) (lt_of_cell HS6.out.2)).trans HS6.out.2))
      have HBw7 := Lib.hid (HBw6.out.trans (hB7.mono HBw6.out.size))
      have HX7 := Lib.hid (cell_new w6 (.slice A3 gs.length c3) 65)
      clear ho3 hB6 hc5 hd5 hB7
      have hd7 := HS7.out.2
      have hd6 := HS6.out.2
      have l6 := lt_of_cell HS6.out.2
      simp only at l6
      go_wp2_with fail
      obtain ⟨X, hX⟩ : ∃ X, X = w6.heap.size := ⟨_, rfl⟩
      rw [← hX] at HX7 ⊢
      generalize w6.alloc (.cells #[.slice A3 gs.length c3] 65) = w7 at *
      clear hX hd6 l6
      refine (HTO'.out _ (HI'.out.kept HBw7.out)).mono ?_
      rintro e w8 ⟨v4, rfl, ho4, hB8⟩
      have HR4 := Lib.hid (Rules.of_own ho4)
      obtain ⟨A4, c4, rfl⟩ := own_slice ho4
      have HBw8 := Lib.hid (HBw7.out.trans (hB8.mono HBw7.out.size))
      have HS8 := Lib.hid (And.intro ((hB8.cell (p := ⟨w.heap.size, 0, none⟩) (lt_of_cell HS7.out.1)).trans HS7.out.1) ((hB8.cell (p := ⟨w.heap.size + 1, 0, none⟩) (lt_of_cell HS7.out.2)).trans HS7.out.2))
      have HX8 := Lib.hid ((hB8.cell (p := ⟨X, 0, none⟩) (lt_of_cell HX7.out)).trans HX7.out)
      have HR38 := Lib.hid (HR3'.out.kept hB8)
      have hB9 := (Below.refl _ w8).alloc (Nat.le_refl _) (.cells #[.slice A4 hs.length c4] 65)
      have HR39 := Lib.hid (HR38.out.kept hB9)
      have HR49 := Lib.hid (HR4.out.kept hB9)
      have HS9 := Lib.hid (And.intro ((hB9.cell (p := ⟨w.heap.size, 0, none⟩) (lt_of_cell HS8.out.1)).trans HS8.out.1) ((hB9.cell (p := ⟨w.heap.size + 1, 0, none⟩) (lt_of_cell HS8.out.2)).trans HS8.out.2))
      have HBw9 := Lib.hid (HBw8.out.trans (hB9.mono HBw8.out.size))
      have HX9 := Lib.hid ((hB9.cell (p := ⟨X, 0, none⟩) (lt_of_cell HX8.out)).trans HX8.out)
      have HY9 := Lib.hid (cell_new w8 (.slice A4 hs.length c4) 65)
      have l8 := lt_of_cell HX8.out
      simp only at l8
      have hx8 := HX8.out
      have hx9 := HX9.out
      clear ho4 hB8 hd7 hB9
      go_wp2_with fail
      obtain ⟨Y, hY⟩ : ∃ Y, Y = w8.heap.size := ⟨_, rfl⟩
      rw [← hY] at HY9 ⊢
      generalize w8.alloc (.cells #[.slice A4 hs.length c4] 65) = w9 at *
      clear hY l8 hx8 hx9
      refine (implSame _ _ gs hs _ hn hn' HR39.out HR49.out).mono ?_
      rintro e w10 ⟨rfl, hB10⟩
      have HBw10 := Lib.hid (HBw9.out.trans (hB10.mono HBw9.out.size))
      have HS10 := Lib.hid (And.intro ((hB10.cell (p := ⟨w.heap.size, 0, none⟩) (lt_of_cell HS9.out.1)).trans HS9.out.1) ((hB10.cell (p := ⟨w.heap.size + 1, 0, none⟩) (lt_of_cell HS9.out.2)).trans HS9.out.2))
      have HXY10 := Lib.hid (And.intro ((hB10.cell (p := ⟨X, 0, none⟩) (lt_of_cell HX9.out)).trans HX9.out) ((hB10.cell (p := ⟨Y, 0, none⟩) (lt_of_cell HY9.out)).trans HY9.out))
      have HR310 := Lib.hid (HR39.out.kept hB10)
      have HR410 := Lib.hid (HR49.out.kept hB10)
      have HT10 := Lib.hid (fun m => HTO.out (w10.drewN m) (HI.out.kept (below_drewN HBw10.out m)))
      obtain ⟨hc10, hd10⟩ := HS10.out
      obtain ⟨hx10, hy10⟩ := HXY10.out
      clear hB10
      go_wp2_with fail
      go_region_held3 (fun w' => w'.cell? ⟨w.heap.size, 0, none⟩ = some (.slice A n0 cap) ∧ w'.cell? ⟨X, 0, none⟩ = some (.slice A3 gs.length c3)) (first | go_keep | exact HS11.out | exact HS12.out)
        (first
          | (go_at_call 44; refine (HT10.out _).mono ?_; rintro e w11 ⟨v5, rfl, ho5, hB11⟩; have HB11 := Lib.hid (below_undrew hB11); have HR5 := Lib.hid (Rules.of_own ho5); have HS11 := Lib.hid (And.intro ((HB11.out.cell (p := ⟨w.heap.size, 0, none⟩) (lt_of_cell HS10.out.1)).trans HS10.out.1) ((HB11.out.cell (p := ⟨X, 0, none⟩) (lt_of_cell HXY10.out.1)).trans HXY10.out.1)); clear ho5 hB11)
          | (go_at_call 46; refine (eqGrammar_same _ _ gs _ hn (HR310.out.kept HB11.out) HR5.out).mono ?_; rintro e w12 ⟨rfl, hB12⟩; have HB12 := Lib.hid (HB11.out.trans (hB12.mono HB11.out.size)); have HS12 := Lib.hid (And.intro ((HB12.out.cell (p := ⟨w.heap.size, 0, none⟩) (lt_of_cell HS10.out.1)).trans HS10.out.1) ((HB12.out.cell (p := ⟨X, 0, none⟩) (lt_of_cell HXY10.out.1)).trans HXY10.out.1)); clear hB12))
      have HBw12 := Lib.hid (HBw10.out.trans (HB12.out.mono HBw10.out.size))
      have hd12 := (HB12.out.cell (p := ⟨w.heap.size + 1, 0, none⟩) (lt_of_cell HS10.out.2)).trans HS10.out.2
      have hy12 := (HB12.out.cell (p := ⟨Y, 0, none⟩) (lt_of_cell HXY10.out.2)).trans HXY10.out.2
      have HR412 := Lib.hid (HR410.out.kept HB12.out)
      have HT12 := Lib.hid (fun m => HTO'.out (w12.drewN m) (HI'.out.kept (below_drewN HBw12.out m)))
      have HD12 := Lib.hid hd12
      have HY12 := Lib.hid hy12
      clear hc10 hd10 hx10 hy10
      go_wp2_with fail
      go_region_held3 (fun w' => w'.cell? ⟨w.heap.size + 1, 0, none⟩ = some (.slice A' n1 cap') ∧ w'.cell? ⟨Y, 0, none⟩ = some (.slice A4 hs.length c4)) (first | go_keep | exact HS13.out | exact HS14.out)
        (first
          | (go_at_call 44; refine (HT12.out _).mono ?_; rintro e w13 ⟨v6, rfl, ho6, hB13⟩; have HB13 := Lib.hid (below_undrew hB13); have HR6 := Lib.hid (Rules.of_own ho6); have HS13 := Lib.hid (And.intro ((HB13.out.cell (p := ⟨w.heap.size + 1, 0, none⟩) (lt_of_cell HD12.out)).trans HD12.out) ((HB13.out.cell (p := ⟨Y, 0, none⟩) (lt_of_cell HY12.out)).trans HY12.out)); clear ho6 hB13)
          | (go_at_call 46; refine (eqGrammar_same _ _ hs _ hn' (HR412.out.kept HB13.out) HR6.out).mono ?_; rintro e w14 ⟨rfl, hB14⟩; have HB14 := Lib.hid (HB13.out.trans (hB14.mono HB13.out.size)); have HS14 := Lib.hid (And.intro ((HB14.out.cell (p := ⟨w.heap.size + 1, 0, none⟩) (lt_of_cell HD12.out)).trans HD12.out) ((HB14.out.cell (p := ⟨Y, 0, none⟩) (lt_of_cell HY12.out)).trans HY12.out)); clear hB14))
      have HBw14 := Lib.hid (HBw12.out.trans (HB14.out.mono HBw12.out.size))
      clear hd12 hy12
      go_wp2_with fail
      go_ret
      exact ⟨rfl, HBw14.out⟩
end Go.Proofs.Ytjkijboljffmcaa.fnExactSameGrammar
