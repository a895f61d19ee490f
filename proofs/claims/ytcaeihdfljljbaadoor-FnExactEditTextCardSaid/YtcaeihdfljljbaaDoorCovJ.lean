/-
  Walks: the closure of impl.coverOf at a pair that is cut, and at every rule; impl.coverOf.
-/
import Derived.Test.YtcaeihdfljljbaaDoorCovI
namespace Go.Proofs.YtcaeihdfljljbaaDoor
open Go.RowKit
open Wd
set_option linter.unusedVariables false

set_option maxRecDepth 100000 in
set_option maxHeartbeats 6400000 in
theorem take_cut (B bl bi bj bc br bt : Nat) (i j : Int) (gs : List Rl) (cov cov1 cov2 : List Int) (k x y : Nat) (s E Ex : Int) (W : World) (hk : k < gs.length) (hn : gs.length ≤ 400) (hE : E = (lens gs).getD k 0) (hE0 : 0 ≤ E ∧ E ≤ 1000000000000000) (hs0 : 0 ≤ s ∧ s ≤ 1000000000000000)
    (h0 : gs[k].L.size = 0) (hx : gs[k].l = x) (hy : gs[k].r = y) (hxk : x < k) (hyk : y < k) (hEx : Ex = (lens gs).getD x 0) (hEx0 : 0 ≤ Ex ∧ Ex ≤ 1000000000000000)
    (h : TSt B bl bi bj bc br bt i j gs cov W) (h1 : ¬ (s + E ≤ i ∨ j ≤ s)) (h2 : ¬ (i ≤ s ∧ s + E ≤ j))
    (c1 : ∀ w, TSt B bl bi bj bc br bt i j gs cov w → Calls Tryd.prog 119 (TkArgs bl bi bj bc br bt x s) w (TkPost B bl bi bj bc br bt i j gs cov1 w))
    (c2 : ∀ w, TSt B bl bi bj bc br bt i j gs cov1 w → Calls Tryd.prog 119 (TkArgs bl bi bj bc br bt y (s + Ex)) w (TkPost B bl bi bj bc br bt i j gs cov2 w)) :
    Calls Tryd.prog 119 (TkArgs bl bi bj bc br bt k s) W (TkPost B bl bi bj bc br bt i j gs cov2 W) := by
  obtain ⟨L, c, l1, l2, l3⟩ := h.l
  have l4 := l3 k hk
  rw [← hE] at l4
  have l5 := l3 x (by omega)
  rw [← hEx] at l5
  have ci := h.i
  have cj := h.j
  have hBs := h.hs
  have hbcl : bc < W.heap.size := by obtain ⟨_, v, _⟩ := h.c; exact v.lt
  have ctk := h.t.cell.1
  obtain ⟨v, r1, A, cr, rfl, hr⟩ := h.r
  rcases hr with hr | ⟨g, rfl, hg, hc⟩
  · rw [hr] at hk; simp at hk
  obtain ⟨a0, a1, a2⟩ := rules_cells hc hk
  rw [hx] at a1
  rw [hy] at a2
  have HT := Lib.hid h
  have HC1 := Lib.hid c1
  have HC2 := Lib.hid c2
  have HL1 := Lib.hid l1
  have HL5 := Lib.hid l5
  have d1 : decide (s + E ≤ i) = false := decide_eq_false (by omega)
  have d2 : decide (j ≤ s) = false := decide_eq_false (by omega)
  have he := empty_arr h0
  rw [he] at a0
  have HBA := Lib.hid (fun W' (hb : Below W.heap.size W W') => HT.out.kept hb)
  have hq1 : (0 : Int) ≤ (x : Int) := by omega
  have hq2 : (x : Int) < (gs.length : Int) := by omega
  unfold TkArgs
  have h2' : ¬ i ≤ s ∨ (i ≤ s ∧ ¬ s + E ≤ j) := by
    by_cases h3 : i ≤ s
    · exact .inr ⟨h3, fun h4 => h2 ⟨h3, h4⟩⟩
    · exact .inl h3
  have hb2 : Below W.heap.size W (W.alloc (.cells #[.string ⟨#[]⟩, .int .i64 (x : Int), .int .i64 (y : Int)] 155)) := (Below.refl _ W).alloc (Nat.le_refl _) _
  have HB2 := Lib.hid hb2
  have ct2 := (HT.out.kept hb2).t.cell.1
  have hbt : bt < W.heap.size := HT.out.t.lt
  clear h c1 c2 h0 h1 h2 hE hEx l3 hc hx hy hb2
  rcases h2' with h3 | ⟨h3, h4⟩
  · have d3 : decide (i ≤ s) = false := decide_eq_false h3
    go_enter Tryd.func119, Tryd.ntmps119
    go_wp2_with fail
    have HV := Lib.hid (heap_alloc_new W (.cells #[.string ⟨#[]⟩, .int .i64 (x : Int), .int .i64 (y : Int)] 155))
    have HT2 := Lib.hid (HBA.out _ HB2.out)
    obtain ⟨V, hV⟩ : ∃ V, V = W.heap.size := ⟨_, rfl⟩
    rw [← hV] at HV ⊢
    have hVc : some V ≠ some bc := fun e => by have : V = bc := Option.some.inj e; omega
    generalize W.alloc (.cells #[.string ⟨#[]⟩, .int .i64 (x : Int), .int .i64 (y : Int)] 155) = w2 at *
    clear hV
    refine (HC1.out _ HT2.out).mono ?_
    rintro e w3 ⟨rfl, hT3, hB3, hO3⟩
    have hV3 := hO3 V _ HV.out hVc (fun c fz e => by injection e with _ ht; exact absurd ht (by decide))
    obtain ⟨⟨b0, b1, b2⟩, _⟩ := blk3_cells hV3
    have t3 := hT3.t.cell.1
    have hBW3 := (HB2.out.mono hBs).trans hB3
    have l13 := cell_b hBW3 HT.out.hl HL1.out
    have l53 := cell_b hBW3 l2 HL5.out
    have HT3 := Lib.hid hT3
    have HB3 := Lib.hid hBW3
    have HO3 := Lib.hid ((oth_belowT HB2.out : Oth64 bc W w2).trans hO3)
    clear hT3 hB3 hO3 hV3 hBW3
    go_wp2_with fail
    go_still_tail 10, (by kernel_rfl)
    change wpList _ _ _ _ _ w3.drew
    have hT3d : TSt B bl bi bj bc br bt i j gs cov1 w3.drew := HT3.out.kept (Below.refl _ w3).drew
    have HT3D := Lib.hid hT3d
    clear hT3d
    go_wp2_with fail
    refine (HC2.out _ HT3D.out).mono ?_
    rintro e w4 ⟨rfl, hT4, hB4, hO4⟩
    have HE : Hid (TkPost B bl bi bj bc br bt i j gs cov2 W (.returned (.tuple #[])) w4) := Lib.hid ⟨rfl, hT4, HB3.out.trans ((Below.refl B w3).drew.trans hB4), HO3.out.trans ((Lib.OthersKept.refl _ _ w3).drew.trans hO4)⟩
    clear hT4 hB4 hO4
    go_wp2_with fail
    go_end0
    exact HE.out
  · have d3 : decide (s + E ≤ j) = false := decide_eq_false h4
    go_enter Tryd.func119, Tryd.ntmps119
    go_wp2_with fail
    have HV := Lib.hid (heap_alloc_new W (.cells #[.string ⟨#[]⟩, .int .i64 (x : Int), .int .i64 (y : Int)] 155))
    have HT2 := Lib.hid (HBA.out _ HB2.out)
    obtain ⟨V, hV⟩ : ∃ V, V = W.heap.size := ⟨_, rfl⟩
    rw [← hV] at HV ⊢
    have hVc : some V ≠ some bc := fun e => by have : V = bc := Option.some.inj e; omega
    generalize W.alloc (.cells #[.string ⟨#[]⟩, .int .i64 (x : Int), .int .i64 (y : Int)] 155) = w2 at *
    clear hV
    refine (HC1.out _ HT2.out).mono ?_
    rintro e w3 ⟨rfl, hT3, hB3, hO3⟩
    have hV3 := hO3 V _ HV.out hVc (fun c fz e => by injection e with _ ht; exact absurd ht (by decide))
    obtain ⟨⟨b0, b1, b2⟩, _⟩ := blk3_cells hV3
    have t3 := hT3.t.cell.1
    have hBW3 := (HB2.out.mono hBs).trans hB3
    have l13 := cell_b hBW3 HT.out.hl HL1.out
    have l53 := cell_b hBW3 l2 HL5.out
    have HT3 := Lib.hid hT3
    have HB3 := Lib.hid hBW3
    have HO3 := Lib.hid ((oth_belowT HB2.out : Oth64 bc W w2).trans hO3)
    clear hT3 hB3 hO3 hV3 hBW3
    go_wp2_with fail
    go_still_tail 10, (by kernel_rfl)
    change wpList _ _ _ _ _ w3.drew
    have hT3d : TSt B bl bi bj bc br bt i j gs cov1 w3.drew := HT3.out.kept (Below.refl _ w3).drew
    have HT3D := Lib.hid hT3d
    clear hT3d
    go_wp2_with fail
    refine (HC2.out _ HT3D.out).mono ?_
    rintro e w4 ⟨rfl, hT4, hB4, hO4⟩
    have HE : Hid (TkPost B bl bi bj bc br bt i j gs cov2 W (.returned (.tuple #[])) w4) := Lib.hid ⟨rfl, hT4, HB3.out.trans ((Below.refl B w3).drew.trans hB4), HO3.out.trans ((Lib.OthersKept.refl _ _ w3).drew.trans hO4)⟩
    clear hT4 hB4 hO4
    go_wp2_with fail
    go_end0
    exact HE.out

theorem take_any (B bl bi bj bc br bt : Nat) (i j : Int) (gs : List Rl) (hok : gOk gs = true) : ∀ m k, k < m → k < gs.length → ∀ (s : Int) (cov : List Int) (W : World), 0 ≤ s → s + (lens gs).getD k 0 ≤ 1000000000000000 → (cov.length : Int) + ((coverF gs i j m k s).length : Int) ≤ 1048576 → TSt B bl bi bj bc br bt i j gs cov W →
    Calls Tryd.prog 119 (TkArgs bl bi bj bc br bt k s) W (TkPost B bl bi bj bc br bt i j gs (cov ++ coverF gs i j m k s) W)
  | 0, k, hm, _, _, _, _, _, _, _, _ => by omega
  | m + 1, k, hm, hk, s, cov, W, hs0, hs1, hl, h => by
    have hn := gOk_len hok
    have hp := lens_pos hk fun q hq _ => fits_at (gOk_iff.1 hok).2.1 q hq
    by_cases h1 : s + (lens gs).getD k 0 ≤ i ∨ j ≤ s
    · rw [cover_out h1, List.append_nil]
      exact take_out B bl bi bj bc br bt i j gs cov k s _ W hk hn rfl (by omega) (by omega) h h1
    · by_cases h2 : i ≤ s ∧ s + (lens gs).getD k 0 ≤ j
      · rw [cover_in h1 h2]
        exact take_in B bl bi bj bc br bt i j gs cov k s _ W hk hn rfl (by omega) (by omega) h (by omega) h1 h2
      · have h0 := cut_pair hok hk h1 h2
        obtain ⟨x, y, hx, hy, hxk, hyk, hsum, p1, p2, p3, p4⟩ := pair_parts hok hk h0
        rw [cover_pair hk hx hy h1 h2, List.length_append] at hl
        rw [cover_pair hk hx hy h1 h2, ← List.append_assoc]
        refine take_cut B bl bi bj bc br bt i j gs cov _ _ k x y s _ _ W hk hn rfl (by omega) (by omega) h0 hx hy hxk hyk rfl (by omega) h h1 h2
          (fun w hw => take_any B bl bi bj bc br bt i j gs hok m x (by omega) (by omega) s cov w hs0 (by omega) (by omega) hw)
          (fun w hw => take_any B bl bi bj bc br bt i j gs hok m y (by omega) (by omega) _ _ w (by omega) (by omega) (by rw [List.length_append]; omega) hw)
end Go.Proofs.YtcaeihdfljljbaaDoor
