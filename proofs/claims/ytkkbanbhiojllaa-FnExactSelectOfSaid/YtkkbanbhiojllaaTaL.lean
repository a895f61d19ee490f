/-
  Walks: impl.placeIn, impl.SelectOf.
-/
import Derived.Test.YtkkbanbhiojllaaTaH
import Derived.Test.YtkkbanbhiojllaaTaI
namespace Go.Proofs.Ytkkbanbhiojllaa
open Go.RowKit
open Wd
set_option linter.unusedVariables false
theorem sel_bd {gs : List Rl} (hok : gOk gs = true) (l : Nat) : ∀ f k c, k < f → k < gs.length → 0 ≤ selF gs l f k c ∧ selF gs l f k c ≤ (lens gs).getD k 0
  | 0, _, _, h, _ => by omega
  | f + 1, k, c, h, hk => by
    have hp := lens_pos hk fun q hq _ => fits_at (gOk_iff.1 hok).2.1 q hq
    by_cases h0 : gs[k].L.size = 0
    · obtain ⟨a, b, ha, hb, hak, hbk, hs, p1, _, p2, _⟩ := pair_parts hok hk h0
      have e1 := sel_bd hok l f a c (by omega) (by omega)
      have e2 := sel_bd hok l f b (c - (taAt gs a).getD l 0) (by omega) (by omega)
      by_cases h3 : c < (taAt gs a).getD l 0
      · rw [sel_left hk h0 ha h3]; omega
      · rw [sel_right hk h0 ha hb h3]; omega
    · rw [sel_letter hk h0]; omega
theorem shortT_bd {gs : List Rl} (hok : gOk gs = true) (l : Nat) (k : Int) (hk : 0 ≤ k) : 0 ≤ shortT gs l k ∧ shortT gs l k ≤ 1000000000000001 := by
  unfold shortT
  split
  · omega
  · next h =>
    rcases Nat.eq_zero_or_pos gs.length with h0 | h0
    · exfalso; apply h; unfold totT; rw [if_pos h0]; exact hk
    · have h1 := sel_bd hok l gs.length (gs.length - 1) k (by omega) (by omega)
      have h2 := small_at (gOk_iff.1 hok).2.2 (gs.length - 1) (by omega)
      omega
set_option maxRecDepth 100000 in
set_option maxHeartbeats 1600000 in
theorem placeIn_any (fv gv : Value) (gs : List Rl) (l : Nat) (k : Int) (lo : Nat) (w : World) (hok : gOk gs = true) (hr : Rules w gv gs) (h : IsTa w lo fv gv gs) (hl : l < 4) (hk : 0 ≤ k ∧ k ≤ 9223372036854775807) :
    Calls Try.prog 77 #[fv, .int .i64 (l : Int), .int .i64 k] w fun e w' => e = .returned (.tuple #[.int .i64 (shortT gs l k - 1), .bool (decide (k < totT gs l))]) ∧ Below w.heap.size w w' := by
  obtain ⟨A1, c1, A2, c2, hfv, _, _⟩ := h.shape
  obtain ⟨A, c, hgv, _⟩ := id hr
  obtain ⟨hF, hL, hK, hb, hs3⟩ := al3 w (.cells (taAll gv (.slice A1 gs.length c1) (.slice A2 gs.length c2)) 119) (.cells #[.int .i64 (l : Int)] 3) (.cells #[.int .i64 k] 2)
  have cl := cell_of_row _ _ 0 _ _ _ hL
  have ck := cell_of_row _ _ 0 _ _ _ hK
  have HSH := Lib.hid (taShort_any fv gv gs l k (w.heap.size + 1) (w.heap.size + 2) lo _ hok (hr.kept hb) (h.kept hb) hl hk cl ck)
  have hbd := shortT_bd hok l k hk.1
  have HB := Lib.hid hb
  obtain ⟨d, hu, hd⟩ := und_taFold
  have HU := Lib.hid (And.intro hu hd)
  subst hfv hgv
  have HSF := Lib.hid (size_taFold (.slice A gs.length c) (.slice A1 gs.length c1) (.slice A2 gs.length c2))
  have HF := Lib.hid hF
  generalize shortT gs l k = R at *
  generalize decide (k < totT gs l) = B at *
  obtain ⟨R1, R2⟩ := hbd
  clear h hr hF hL hK hb hs3 cl ck hu hd
  go_enter Try.func77, Try.ntmps77
  go_upto_region 1 with fail
  change Code.wp _ _ _ _ (((w.alloc (.cells (taAll (.slice A gs.length c) (.slice A1 gs.length c1) (.slice A2 gs.length c2)) 119)).alloc (.cells #[.int .i64 (l : Int)] 3)).alloc (.cells #[.int .i64 k] 2))
  generalize ((w.alloc (.cells (taAll (.slice A gs.length c) (.slice A1 gs.length c1) (.slice A2 gs.length c2)) 119)).alloc (.cells #[.int .i64 (l : Int)] 3)).alloc (.cells #[.int .i64 k] 2) = w3 at *
  go_wp2_with (with_reducible refine wpList_load_rowD HU.out.2 rfl 119 _ rfl w.heap.size rfl 119 _ _ HF.out HU.out.1 HSF.out ?_)
  refine HSH.out.mono ?_
  rintro e w4 ⟨rfl, hB4⟩
  have HB4 := Lib.hid (HB.out.trans (hB4.mono HB.out.size))
  clear hB4
  go_wp2_with fail
  go_ret2
  exact ⟨rfl, HB4.out⟩
set_option maxRecDepth 100000 in
set_option maxHeartbeats 6400000 in
theorem implSelectOf (v : Value) (gs : List Rl) (s : ByteArray) (n : Int) (w : World) (hf : FewR gs) (hr : Rules w v gs) (hs : s.size ≤ maxLen) (hn : -9223372036854775808 ≤ n ∧ n ≤ 9223372036854775807) :
    Calls Try.prog 35 #[.agg #[v], .string s, .int .i64 n] w fun e w' => e = .returned (.tuple #[.int .i64 (selectG gs s n).1, .int .i64 (selectG gs s n).2]) ∧ Below w.heap.size w w' := by
  have hb := (Below.refl _ w).alloc (Nat.le_refl _) (.cells #[v] 33)
  have h1 := letterFold_any v gs _ hf (hr.kept hb)
  have HLE := Lib.hid (fun W => isLetter_all s W hs)
  have HB := Lib.hid hb
  have HRU := Lib.hid (fun W (hb : Below w.heap.size w W) => hr.kept hb)
  obtain ⟨A, c, rfl, _⟩ := hr
  unfold selectG
  cases hok : gOk gs
  · rw [hok] at h1
    rw [if_neg (by simp)]
    have H1 := Lib.hid h1
    clear h1 hok hb hn
    go_enter Try.func35, Try.ntmps35
    go_wp2_with fail
    refine H1.out.mono ?_
    rintro e w1 ⟨fv, rfl, _, hz, hB1⟩
    obtain rfl := hz trivial
    have HB1 := Lib.hid (HB.out.trans (hB1.mono (by simp)))
    clear hB1 hz
    go_wp2_with fail
    go_ret2
    exact ⟨rfl, HB1.out.alloc HB1.out.size _⟩
  · rw [hok] at h1
    have H1 := Lib.hid h1
    have HOK := Lib.hid hok
    cases hl : isL s
    · rw [hl] at HLE
      rw [if_neg (by simp)]
      clear h1 hok hl hb hn
      go_enter Try.func35, Try.ntmps35
      go_wp2_with fail
      refine H1.out.mono ?_
      rintro e w1 ⟨fv, rfl, hy, _, hB1⟩
      obtain ⟨A1, c1, A2, c2, he, _, _⟩ := (hy trivial).shape
      injection he with he
      subst he
      have HB1 := Lib.hid (HB.out.trans (hB1.mono (by simp)))
      clear hB1 hy
      go_wp2_with fail
      refine (HLE.out _).mono ?_
      rintro e w2 ⟨rfl, rfl⟩
      go_wp2_with fail
      go_ret2
      exact ⟨rfl, HB1.out.alloc HB1.out.size _⟩
    · rw [hl] at HLE
      rw [if_pos ⟨rfl, rfl⟩]
      have HIX := Lib.hid (fun W => idxL_any s hl W)
      have hl4 := lNo_lt hl
      by_cases hneg : n < 0
      · rw [if_pos hneg]
        clear h1 hok hl hb hn
        go_enter Try.func35, Try.ntmps35
        go_wp2_with fail
        refine H1.out.mono ?_
        rintro e w1 ⟨fv, rfl, hy, _, hB1⟩
        obtain ⟨A1, c1, A2, c2, he, _, _⟩ := (hy trivial).shape
        injection he with he
        subst he
        have HB1 := Lib.hid (HB.out.trans (hB1.mono (by simp)))
        clear hB1 hy
        go_wp2_with fail
        refine (HLE.out _).mono ?_
        rintro e w2 ⟨rfl, rfl⟩
        go_wp2_with fail
        go_ret2
        exact ⟨rfl, HB1.out.alloc HB1.out.size _⟩
      · rw [if_neg hneg]
        have HPA : Hid (∀ fv W, IsTa W (w.heap.size + 1) fv (.slice A gs.length c) gs → Below w.heap.size w W → Calls Try.prog 77 #[fv, .int .i64 (lNo s : Int), .int .i64 n] W fun e w' => e = .returned (.tuple #[.int .i64 (shortT gs (lNo s) n - 1), .bool (decide (n < totT gs (lNo s)))]) ∧ Below W.heap.size W w') := Lib.hid (fun fv W h hb => placeIn_any fv _ gs (lNo s) n _ W hok (HRU.out W hb) h hl4 ⟨by omega, hn.2⟩)
        have hpost : (if totT gs (lNo s) ≤ n then ((0 : Int), (6 : Int)) else (selF gs (lNo s) gs.length (gs.length - 1) n, 0)) = if decide (n < totT gs (lNo s)) then (shortT gs (lNo s) n - 1, 0) else (0, 6) := by
          unfold shortT
          by_cases ht : totT gs (lNo s) ≤ n
          · rw [if_pos ht, if_neg (by simp; omega)]
          · rw [if_neg ht, if_pos (by simp; omega), if_neg ht, Int.add_sub_cancel]
        rw [hpost]
        generalize shortT gs (lNo s) n - 1 = R at *
        generalize lNo s = l at *
        clear h1 hok hl hb hpost
        generalize decide (n < totT gs l) = b at *
        cases b
        all_goals
          obtain ⟨d, hu, hd⟩ := und_taFold
          have HU := Lib.hid (And.intro hu hd)
          clear hu hd
          go_enter Try.func35, Try.ntmps35
          go_wp2_with fail
          refine H1.out.mono ?_
          rintro e w1 ⟨fv, rfl, hy, _, hB1⟩
          have hy := hy trivial
          have HY : Hid (IsTa w1 (w.heap.size + 1) (.agg fv) (.slice A gs.length c) gs) := Lib.hid (hy.lower (by simp))
          obtain ⟨A1, c1, A2, c2, he, _, _⟩ := hy.shape
          injection he with he
          subst he
          have HB1 := Lib.hid (HB.out.trans (hB1.mono (by simp)))
          clear hB1 hy
          go_wp2_with fail
          refine (HLE.out _).mono ?_
          rintro e w2 ⟨rfl, rfl⟩
          go_upto_region 6 with fail
          have hb3 := (Below.refl _ w1).alloc (Nat.le_refl _) (.cells (taAll (.slice A gs.length c) (.slice A1 gs.length c1) (.slice A2 gs.length c2)) 119)
          have hX3 := heap_alloc_new w1 (.cells (taAll (.slice A gs.length c) (.slice A1 gs.length c1) (.slice A2 gs.length c2)) 119)
          have HSZ9 := Lib.hid (show (Try.prog.info? 119).map (·.size) = some ([.int .i64 0, .int .i64 0, .int .i64 0, .int .i64 0, taL, taT, .slice A gs.length c, .slice A1 gs.length c1, .slice A2 gs.length c2] : List Value).length from size_taFold (.slice A gs.length c) (.slice A1 gs.length c1) (.slice A2 gs.length c2))
          have HB3 := Lib.hid (HB1.out.trans (hb3.mono HB1.out.size))
          have HY3 := Lib.hid (HY.out.kept hb3)
          obtain ⟨X, hX⟩ : ∃ X, X = w1.heap.size := ⟨_, rfl⟩
          rw [← hX] at hX3 ⊢
          generalize w1.alloc (.cells (taAll (.slice A gs.length c) (.slice A1 gs.length c1) (.slice A2 gs.length c2)) 119) = w3 at *
          have HS2 : Hid (w3.rangeAt X 0 [.int .i64 0, .int .i64 0, .int .i64 0, .int .i64 0, taL, taT, .slice A gs.length c, .slice A1 gs.length c1, .slice A2 gs.length c2]) := Lib.hid (range_row hX3)
          have HS0 : Hid (w3.drew.rangeAt X 0 [.int .i64 0, .int .i64 0, .int .i64 0, .int .i64 0, taL, taT, .slice A gs.length c, .slice A1 gs.length c1, .slice A2 gs.length c2]) := HS2
          have HBD : Hid (Below w.heap.size w w3.drew) := Lib.hid HB3.out.drew
          have HPL := Lib.hid (HPA.out _ w3.drew (HY3.out.kept (Below.refl _ w3).drew) HBD.out)
          clear hb3 hX3 hX
          refine wp_region_held_drew (S := fun w' : World => w'.rangeAt X 0 [.int .i64 0, .int .i64 0, .int .i64 0, .int .i64 0, taL, taT, .slice A gs.length c, .slice A1 gs.length c1, .slice A2 gs.length c2]) (by kernel_rfl) HS0.out (fun hHeld => ?_)
          refine takeH (i := 0) (dst := some 27) (v := .agg ([.int .i64 0, .int .i64 0, .int .i64 0, .int .i64 0, taL, taT, .slice A gs.length c, .slice A1 gs.length c1, .slice A2 gs.length c2]).toArray) rfl (by kernel_rfl) (by kernel_rfl) (by kernel_rfl) (fun _ _ _ h => h) (yieldsIf_load_mid (by rfl) _ _ rfl X 0 rfl ([.int .i64 0, .int .i64 0, .int .i64 0, .int .i64 0, taL, taT, .slice A gs.length c, .slice A1 gs.length c1, .slice A2 gs.length c2]) _ (fun w hw => hw) HU.out.1 (rowD_isRow HU.out.2) HSZ9.out) (by assumption) ?_
          try simp only [Act.put, List.setIfInBounds_toArray, List.set_cons_zero, List.set_cons_succ]
          refine takeH (i := 1) (dst := some 28) (v := ?_) rfl (by kernel_rfl) (by kernel_rfl) (by kernel_rfl) (fun _ _ _ h => h) (Or.inl ⟨by rfl, ?_⟩) (by assumption) ?_
          rotate_left 1
          · (intro w hSw; (try dsimp only at hSw); go_simp; try (with_reducible rfl))
          try simp only [Act.put, List.setIfInBounds_toArray, List.set_cons_zero, List.set_cons_succ]
          refine takeH (i := 3) (dst := some 30) (v := ?_) rfl (by kernel_rfl) (by kernel_rfl) (by kernel_rfl) (fun _ _ _ h => h) (Or.inl ⟨by rfl, ?_⟩) (by assumption) ?_
          rotate_left 1
          · (intro w hSw; (try dsimp only at hSw); go_simp; try (with_reducible rfl))
          try simp only [Act.put, List.setIfInBounds_toArray, List.set_cons_zero, List.set_cons_succ]
          refine wpAnyH_ready (rs := [2]) (by kernel_rfl) (by simp) ?_
          refine AllReadyH.cons (o := ⟨some 29, _, _, _, _, none⟩) rfl (fun K hK => ?_) AllReadyH.nil
          go_simp
          go_at_call 54
          refine (HIX.out _).mono ?_
          rintro e w7 ⟨rfl, rfl⟩
          refine hK.out _ _ (HS0.out) (fun hHeld => ?_)
          clear hK K
          try simp only [Act.put, List.setIfInBounds_toArray, List.set_cons_zero, List.set_cons_succ]
          refine wpAnyH_ready (rs := [4]) (by kernel_rfl) (by simp) ?_
          refine AllReadyH.cons (o := ⟨some 31, _, _, _, _, none⟩) rfl (fun K hK => ?_) AllReadyH.nil
          go_simp
          go_at_call 77
          refine HPL.out.mono ?_
          rintro e w8 ⟨rfl, hB8⟩
          have HB8 := Lib.hid (below_undrew hB8)
          have HS8 := Lib.hid (rangeAt_below HS2.out HB8.out)
          clear hB8
          refine hK.out _ _ (HS8.out) (fun hHeld => ?_)
          clear hK K
          try simp only [Act.put, List.setIfInBounds_toArray, List.set_cons_zero, List.set_cons_succ]
          refine takeH (i := 5) (dst := some 26) (v := ?_) rfl (by kernel_rfl) (by kernel_rfl) (by kernel_rfl) (fun _ _ _ h => h) (Or.inl ⟨by rfl, ?_⟩) (by assumption) ?_
          rotate_left 1
          · (intro w hSw; (try dsimp only at hSw); go_simp; try (with_reducible rfl))
          try simp only [Act.put, List.setIfInBounds_toArray, List.set_cons_zero, List.set_cons_succ]
          refine takeH (i := 6) (dst := some 32) (v := ?_) rfl (by kernel_rfl) (by kernel_rfl) (by kernel_rfl) (fun _ _ _ h => h) (Or.inl ⟨by rfl, ?_⟩) (by assumption) ?_
          rotate_left 1
          · (intro w hSw; (try dsimp only at hSw); go_simp; try (with_reducible rfl))
          try simp only [Act.put, List.setIfInBounds_toArray, List.set_cons_zero, List.set_cons_succ]
          refine takeH (i := 7) (dst := some 33) (v := ?_) rfl (by kernel_rfl) (by kernel_rfl) (by kernel_rfl) (fun _ _ _ h => h) (Or.inl ⟨by rfl, ?_⟩) (by assumption) ?_
          rotate_left 1
          · (intro w hSw; (try dsimp only at hSw); go_simp; try (with_reducible rfl))
          try simp only [Act.put, List.setIfInBounds_toArray, List.set_cons_zero, List.set_cons_succ]
          refine takeH (i := 8) (dst := some 10) (v := ?_) rfl (by kernel_rfl) (by kernel_rfl) (by kernel_rfl) (fun _ _ _ h => h) (Or.inl ⟨by rfl, ?_⟩) (by assumption) ?_
          rotate_left 1
          · (intro w hSw; (try dsimp only at hSw); go_simp; try (with_reducible rfl))
          try simp only [Act.put, List.setIfInBounds_toArray, List.set_cons_zero, List.set_cons_succ]
          refine takeH (i := 9) (dst := some 11) (v := ?_) rfl (by kernel_rfl) (by kernel_rfl) (by kernel_rfl) (fun _ _ _ h => h) (Or.inl ⟨by rfl, ?_⟩) (by assumption) ?_
          rotate_left 1
          · (intro w hSw; (try dsimp only at hSw); go_simp; try (with_reducible rfl))
          try simp only [Act.put, List.setIfInBounds_toArray, List.set_cons_zero, List.set_cons_succ]
          refine wpAnyH_done (by kernel_rfl) ?_ _
          have HE := Lib.hid (HB3.out.trans (HB8.out.mono HB3.out.size))
          go_wp2_with fail
          go_ret2
          exact ⟨rfl, HE.out⟩
end Go.Proofs.Ytkkbanbhiojllaa
