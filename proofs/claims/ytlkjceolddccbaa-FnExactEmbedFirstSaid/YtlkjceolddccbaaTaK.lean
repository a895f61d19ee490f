/-
  Walk: impl.placeIn.
-/
import Derived.Test.YtlkjceolddccbaaTaH
namespace Go.Proofs.Ytlkjceolddccbaa
open Go.RowKit
open Wd
set_option linter.unusedVariables false
theorem selK_bd {gs : List Rl} (hok : gOk gs = true) (l : Nat) : ∀ f k c, k < f → k < gs.length → 0 ≤ selF gs l f k c ∧ selF gs l f k c ≤ (lens gs).getD k 0
  | 0, _, _, h, _ => by omega
  | f + 1, k, c, h, hk => by
    have hp := lens_pos hk fun q hq _ => fits_at (gOk_iff.1 hok).2.1 q hq
    by_cases h0 : gs[k].L.size = 0
    · obtain ⟨a, b, ha, hb, hak, hbk, hs, p1, _, p2, _⟩ := pair_parts hok hk h0
      have e1 := selK_bd hok l f a c (by omega) (by omega)
      have e2 := selK_bd hok l f b (c - (taAt gs a).getD l 0) (by omega) (by omega)
      by_cases h3 : c < (taAt gs a).getD l 0
      · rw [sel_left hk h0 ha h3]; omega
      · rw [sel_right hk h0 ha hb h3]; omega
    · rw [sel_letter hk h0]; omega
theorem shortT_bd {gs : List Rl} (hok : gOk gs = true) (l : Nat) (k : Int) (hk : 0 ≤ k) : 0 ≤ shortT gs l k ∧ shortT gs l k ≤ 1000000000000001 := by
  unfold shortT
  split
  · omega
  · next h =>
    rcases Nat.eq_zero_or_pos gs.length with h0 | h0
    · exfalso; apply h; unfold totT; rw [if_pos h0]; exact hk
    · have h1 := selK_bd hok l gs.length (gs.length - 1) k (by omega) (by omega)
      have h2 := small_at (gOk_iff.1 hok).2.2 (gs.length - 1) (by omega)
      omega
set_option maxRecDepth 100000 in
set_option maxHeartbeats 1600000 in
theorem placeIn_any (fv gv : Value) (gs : List Rl) (l : Nat) (k : Int) (lo : Nat) (w : World) (hok : gOk gs = true) (hr : Rules w gv gs) (h : IsTa w lo fv gv gs) (hl : l < 4) (hk : 0 ≤ k ∧ k ≤ 9223372036854775807) :
    Calls Try.prog 118 #[fv, .int .i64 (l : Int), .int .i64 k] w fun e w' => e = .returned (.tuple #[.int .i64 (shortT gs l k - 1), .bool (decide (k < totT gs l))]) ∧ Below w.heap.size w w' := by
  obtain ⟨A1, c1, A2, c2, hfv, _, _⟩ := h.shape
  obtain ⟨A, c, hgv, _⟩ := id hr
  obtain ⟨hF, hL, hK, hb, hs3⟩ := al3 w (.cells (taAll gv (.slice A1 gs.length c1) (.slice A2 gs.length c2)) 108) (.cells #[.int .i64 (l : Int)] 3) (.cells #[.int .i64 k] 2)
  have cl := cell_of_row _ _ 0 _ _ _ hL
  have ck := cell_of_row _ _ 0 _ _ _ hK
  have HSH := Lib.hid (taShort_any fv gv gs l k (w.heap.size + 1) (w.heap.size + 2) lo _ hok (hr.kept hb) (h.kept hb) hl hk cl ck)
  have hbd := shortT_bd hok l k hk.1
  have HB := Lib.hid hb
  obtain ⟨d, hu, hd⟩ := und_taFold
  have HU := Lib.hid (And.intro hu hd)
  subst hfv hgv
  have HSF := Lib.hid (size_taFold (.slice A gs.length c) (.slice A1 gs.length c1) (.slice A2 gs.length c2))
  have HF := Lib.hid hF
  generalize shortT gs l k = R at *
  generalize decide (k < totT gs l) = B at *
  obtain ⟨R1, R2⟩ := hbd
  clear h hr hF hL hK hb hs3 cl ck hu hd
  go_enter Try.func118, Try.ntmps118
  go_upto_region 1 with fail
  change Code.wp _ _ _ _ (((w.alloc (.cells (taAll (.slice A gs.length c) (.slice A1 gs.length c1) (.slice A2 gs.length c2)) 108)).alloc (.cells #[.int .i64 (l : Int)] 3)).alloc (.cells #[.int .i64 k] 2))
  generalize ((w.alloc (.cells (taAll (.slice A gs.length c) (.slice A1 gs.length c1) (.slice A2 gs.length c2)) 108)).alloc (.cells #[.int .i64 (l : Int)] 3)).alloc (.cells #[.int .i64 k] 2) = w3 at *
  go_wp2_with (with_reducible refine wpList_load_rowD HU.out.2 rfl 108 _ rfl w.heap.size rfl 108 _ _ HF.out HU.out.1 HSF.out ?_)
  refine HSH.out.mono ?_
  rintro e w4 ⟨rfl, hB4⟩
  have HB4 := Lib.hid (HB.out.trans (hB4.mono HB.out.size))
  clear hB4
  go_wp2_with fail
  go_ret2
  exact ⟨rfl, HB4.out⟩
end Go.Proofs.Ytlkjceolddccbaa
