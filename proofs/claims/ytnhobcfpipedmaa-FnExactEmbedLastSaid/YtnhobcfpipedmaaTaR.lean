/-
  Walks: spec.l05Rank, at a beginning of the word.
-/
import Derived.Test.YtnhobcfpipedmaaTaC
import Derived.Test.YtnhobcfpipedmaaTaQ
import Derived.Test.YtnhobcfpipedmaaGWLen
namespace Go.Proofs.Ytnhobcfpipedmaa
open Go.RowKit
open Wd
set_option linter.unusedVariables false
/-- lengths and tallies that the specification reads -/
structure SpT (w : World) (pg : Nat) (lv yv : Value) (gs : List Rl) : Prop where
  g : GP w pg gs
  l : ∃ B, w.ownsRow B 2 1 lv gs.length (iv (lens gs))
  y : ∃ B U, OwnM w B yv U (taZ gs gs.length)
theorem SpT.kept {w w' : World} {pg : Nat} {lv yv : Value} {gs : List Rl} (h : SpT w pg lv yv gs) (hb : Below w.heap.size w w') : SpT w' pg lv yv gs := by
  obtain ⟨h1, ⟨B, h2⟩, B', U, h3⟩ := h
  exact ⟨h1.kept hb, ⟨B, own_below h2 hb (Nat.le_refl _)⟩, B', U, h3.kept hb⟩
theorem SpT.shape {w : World} {pg : Nat} {lv yv : Value} {gs : List Rl} (h : SpT w pg lv yv gs) : ∃ A1 c1 A2 c2 A3 c3, lv = .slice A1 gs.length c1 ∧ yv = .slice A2 gs.length c2 ∧ w.cell? ⟨pg, 0, none⟩ = some (.slice A3 gs.length c3) := by
  obtain ⟨⟨v, hv, hr⟩, ⟨B, h2⟩, B', U, h3⟩ := h
  obtain ⟨A1, c1, rfl⟩ := own_slice h2
  obtain ⟨A2, c2, h⟩ := own_slice h3.outer
  rw [h3.len, taZ_len] at h
  obtain ⟨A3, c3, rfl, _⟩ := hr
  exact ⟨A1, c1, A2, c2, A3, c3, rfl, h, hv⟩
/-- what is read at a rule -/
theorem SpT.at_ {w : World} {pg : Nat} {A1 A2 A3 : Option Addr} {c1 c2 c3 : Nat} {gs : List Rl} (h : SpT w pg (.slice A1 gs.length c1) (.slice A2 gs.length c2) gs) (h3 : w.cell? ⟨pg, 0, none⟩ = some (.slice A3 gs.length c3)) (hok : gOk gs = true) {k l : Nat} (hk : k < gs.length) (hl : l < 4) :
    ∃ L g y x cx, A1 = some ⟨L, 0, none⟩ ∧ A2 = some ⟨y, 0, none⟩ ∧ A3 = some ⟨g, 0, none⟩ ∧
      w.cell? ⟨g, k * 3, none⟩ = some (.string gs[k].L) ∧ w.cell? ⟨g, k * 3 + 1, none⟩ = some (.int .i64 gs[k].l) ∧ w.cell? ⟨g, k * 3 + 2, none⟩ = some (.int .i64 gs[k].r) ∧
      w.cell? ⟨L, k, none⟩ = some (.int .i64 ((lens gs).getD k 0)) ∧ w.cell? ⟨y, k, none⟩ = some (.slice (some ⟨x, 0, none⟩) 4 cx) ∧ w.cell? ⟨x, l, none⟩ = some (.int .i64 ((taAt gs k).getD l 0)) := by
  obtain ⟨⟨v, hv, hr⟩, ⟨B, h1⟩, B', U, h2⟩ := h
  rw [h3] at hv
  injection hv with hv
  subst hv
  obtain ⟨A, c, he, hrr⟩ := hr
  injection he with hA _ hc
  subst hA hc
  rcases hrr with h0 | ⟨g, rfl, hg, hcc⟩
  · rw [h0] at hk; simp at hk
  obtain ⟨a0, a1, a2⟩ := rules_cells hcc hk
  obtain ⟨L, rfl, _⟩ := own_addr h1 (by omega)
  have hU := h2.len
  rw [taZ_len] at hU
  have ho := h2.outer
  rw [hU] at ho
  obtain ⟨y, rfl, _⟩ := own_addr ho (by omega)
  have hrow := h2.rows.row k _ _ (List.getElem?_eq_getElem (by omega)) (taZ_get gs gs.length k hk)
  have cy := ho.cellAt k (by omega)
  rw [List.getElem?_eq_getElem (by omega)] at cy
  generalize U[k]'(by omega) = u at *
  have h4 := (taAt_ok hok hk).1
  unfold OwnsI at hrow
  rw [h4] at hrow
  obtain ⟨Au, cu, rfl⟩ := own_slice hrow
  obtain ⟨x, rfl, _⟩ := own_addr hrow (by omega)
  refine ⟨L, g, y, x, cu, rfl, rfl, rfl, a0, a1, a2, ?_, cy, ?_⟩
  · rw [h1.cellAt k (by omega)]; exact iv_at (by rw [lens_len]; exact hk)
  · rw [hrow.cellAt l (by omega)]; exact iv_at (by rw [h4]; exact hl)
/-- between two rules on the way down -/
def RkSt (gs : List Rl) (w : World) (l : Nat) (N R : Int) (nv sv rv : Value) (wr : World) : Prop :=
  ∃ (f k : Nat) (s n : Int), nv = .int .i64 n ∧ sv = .int .i64 s ∧ rv = .int .i64 k ∧ k < f ∧ k < gs.length ∧ 0 ≤ n ∧ n ≤ (lens gs).getD k 0 ∧ 0 ≤ s ∧ s + n ≤ N ∧ s + rankF gs (taAt gs) l f k n = R ∧ Below w.heap.size w wr
set_option maxRecDepth 100000 in
set_option maxHeartbeats 6400000 in
theorem l05Rank_any (pg : Nat) (lv yv : Value) (gs : List Rl) (l : Nat) (n : Int) (w : World) (hok : gOk gs = true) (hl : l < 4) (hn : 0 ≤ n ∧ n ≤ wordLen gs) (h : SpT w pg lv yv gs) :
    Calls Try.prog 50 #[.pointer (some ⟨pg, 0, none⟩), lv, yv, .int .i64 (l : Int), .int .i64 n] w fun e w' => e = .returned (.int .i64 (rankF gs (taAt gs) l gs.length (gs.length - 1) n)) ∧ Below w.heap.size w w' := by
  have hn400 := gOk_len hok
  have hwl := wordLen_bd' hok
  obtain ⟨A1, c1, A2, c2, A3, c3, rfl, rfl, h3⟩ := h.shape
  have HSP := Lib.hid (fun W (hb : Below w.heap.size w W) => h.kept hb)
  have HOK := Lib.hid hok
  have HG := Lib.hid h3
  by_cases h0 : gs.length = 0
  · have hw0 := wordLen_zero h0
    obtain rfl : n = 0 := by omega
    rw [h0]
    rw [h0] at h3
    clear h HSP HG HOK hok h0 hw0 hwl hn hn400
    go_enter Try.func50, Try.ntmps50
    go_wp2_with fail
    go_loopw [4, 11, 12, 13] (fun nv sv rv _ wr => nv = .int .i64 0 ∧ sv = .int .i64 0 ∧ Below w.heap.size w wr) (fun _ _ _ _ _ => 0)
    case atStart => exact ⟨rfl, rfl, Below.refl _ _⟩
    case round =>
      obtain ⟨rfl, rfl, hB⟩ := hrel
      go_wp2_with fail
      go_ret
      exact ⟨rfl, hB⟩
  · have hST : RkSt gs w l n (rankF gs (taAt gs) l gs.length (gs.length - 1) n) (.int .i64 n) (.int .i64 0) (.int .i64 ((gs.length - 1 : Nat) : Int)) w := ⟨gs.length, gs.length - 1, 0, n, rfl, rfl, rfl, by omega, by omega, hn.1, hn.2, Int.le_refl _, by omega, by omega, Below.refl _ _⟩
    have HST := Lib.hid hST
    obtain ⟨M, hM⟩ : ∃ M, gs.length = M := ⟨_, rfl⟩
    have HM := Lib.hid hM
    generalize hR : rankF gs (taAt gs) l gs.length (gs.length - 1) n = R at *
    rw [hM] at h3
    have hsub : IntKind.i64.wrap ((M : Int) - 1) = ((gs.length - 1 : Nat) : Int) := by rw [IntKind.wrap_i64]; omega
    have hN15 : n ≤ 1000000000000000 := by omega
    have hM4 : M ≤ 400 := by omega
    have hM0 : 0 < M := by omega
    rw [hM] at hsub
    have hsub2 : ((M : Int) - 1) = ((M - 1 : Nat) : Int) := by omega
    have HSUB := Lib.hid hsub2
    rw [hM] at HST
    have hl0 : (0 : Int) ≤ (l : Int) := by omega
    have hl1 : (l : Int) < 4 := by omega
    clear h hok hST hR h0 hwl hn hn400 hM hsub hsub2
    rw [HM.out]
    go_enter Try.func50, Try.ntmps50
    go_wp2_with fail
    rw [HSUB.out]
    clear h3
    go_loopw [4, 11, 12, 13] (fun nv sv rv _ wr => RkSt gs w l n R nv sv rv wr) (fun _ _ rv _ _ => (intOf rv).toNat)
    case atStart => exact HST.out
    case round =>
      obtain ⟨f, k, s, n', rfl, rfl, rfl, hkf, hk, hn0, hnk, hs0, hsn, hR, hB⟩ := hrel
      obtain ⟨wo, rfl⟩ : ∃ wo : World, wo = wr := ⟨_, rfl⟩
      have hsp := HSP.out wo hB
      have hg := (hB.cell (lt_of_cell HG.out)).trans HG.out
      obtain ⟨L, g, y, x, cx, rfl, rfl, rfl, r0, r1, r2, e0, y0, z0⟩ := hsp.at_ hg HOK.out hk hl
      obtain ⟨f', rfl⟩ : ∃ f', f = f' + 1 := ⟨f - 1, by omega⟩
      have HB := Lib.hid hB
      have hta := (taAt_ok HOK.out hk).2 l hl
      have hsm := small_at (gOk_iff.1 HOK.out).2.2 k hk
      have k0 : (0 : Int) ≤ (k : Int) := by omega
      have k1 : (k : Int) < (M : Int) := by have := HM.out; omega
      rw [HM.out] at hg
      by_cases hnz : n' ≤ 0
      · rw [rank_none hnz] at hR
        have HR : Hid (s = R) := Lib.hid (by omega)
        clear hR hta hsm hsp hB
        go_wp2_with fail
        go_ret
        exact ⟨ret_int HR.out, HB.out⟩
      · have hn1 : 0 < n' := by omega
        by_cases hall : (lens gs).getD k 0 ≤ n'
        · rw [rank_all hnz hall] at hR
          have HR := Lib.hid hR
          obtain rfl : n' = (lens gs).getD k 0 := by omega
          clear hR hall hsp hB
          generalize (lens gs).getD k 0 = n' at *
          generalize (taAt gs k).getD l 0 = z at *
          have z1 : 0 ≤ z := hta.1
          have z2 : z ≤ 1000000000000000 := by omega
          clear hta
          go_wp2_with fail
          go_ret
          exact ⟨ret_int HR.out, HB.out⟩
        · have h0 : gs[k].L.size = 0 := by
            by_cases h0 : gs[k].L.size = 0
            · exact h0
            · have h1 : (lens gs).getD k 0 = 1 := vals_letter _ gs k hk h0
              omega
          obtain ⟨a, b, ha, hb, hak, hbk, hs2, p1, p3, p2, p4⟩ := pair_parts HOK.out hk h0
          obtain ⟨_, g', y', x', cx', hL', hy', hg', _, _, _, ea, ya, za⟩ := hsp.at_ (by rw [← HM.out] at hg; exact hg) HOK.out (show a < gs.length by omega) hl
          injection hL' with hL'
          injection hL' with hL'
          subst hL'
          injection hy' with hy'
          injection hy' with hy'
          subst hy'
          injection hg' with hg'
          injection hg' with hg'
          subst hg'
          have htaa := (taAt_ok HOK.out (show a < gs.length by omega)).2 l hl
          have lL : L < wo.heap.size := lt_of_cell e0
          have ly : y < wo.heap.size := lt_of_cell y0
          have lx : x' < wo.heap.size := lt_of_cell za
          have lp : pg < wo.heap.size := lt_of_cell hg
          have lg : g < wo.heap.size := lt_of_cell r0
          have hne : (n' == (lens gs).getD k 0) = false := by rw [beq_eq_false_iff_ne]; omega
          have HW2 : Hid (∀ o, Below w.heap.size w (wo.alloc o)) := Lib.hid (fun o => hB.alloc hB.size o)
          have HA := Lib.hid ha
          have HBB := Lib.hid hb
          by_cases h3 : (lens gs).getD a 0 ≤ n'
          · rw [rank_right hk ha hb hnz hall h3] at hR
            have hrel : ∀ o, RkSt gs w l n R (.int .i64 (n' - (lens gs).getD a 0)) (.int .i64 (s + (taAt gs a).getD l 0)) (.int .i64 (b : Int)) (wo.alloc o) := fun o => ⟨f', b, _, _, rfl, rfl, rfl, by omega, by omega, by omega, by omega, by omega, by omega, by omega, HW2.out o⟩
            have HREL := Lib.hid hrel
            rw [ha] at r1
            rw [hb] at r2
            generalize (taAt gs a).getD l 0 = z at *
            generalize (lens gs).getD a 0 = la at *
            generalize (lens gs).getD k 0 = lk at *
            have z1 : 0 ≤ z := htaa.1
            have z2 : z ≤ 1000000000000000 := by omega
            have a0' : (0 : Int) ≤ (a : Int) := by omega
            have a1' : (a : Int) < (M : Int) := by omega
            have hr0 := empty_arr h0
            rw [hr0] at r0
            clear hR hta htaa hsm hsp hB hs2 ha hb hrel h0 z0 y0 hr0
            go_wp2_with fail
            go_roundw
            all_goals first | exact HREL.out _ | ((repeat apply Exists.intro); exact ⟨HREL.out _, rfl⟩) | (simp [intOf]; done) | (simp [intOf]; omega) | omega
          · rw [rank_left hk ha hnz hall h3] at hR
            have hrel : ∀ o, RkSt gs w l n R (.int .i64 n') (.int .i64 s) (.int .i64 (a : Int)) (wo.alloc o) := fun o => ⟨f', a, _, _, rfl, rfl, rfl, by omega, by omega, by omega, by omega, by omega, by omega, by omega, HW2.out o⟩
            have HREL := Lib.hid hrel
            rw [ha] at r1
            rw [hb] at r2
            generalize (lens gs).getD a 0 = la at *
            generalize (lens gs).getD k 0 = lk at *
            have a0' : (0 : Int) ≤ (a : Int) := by omega
            have a1' : (a : Int) < (M : Int) := by omega
            have hlt : n' < la := by omega
            have hr0 := empty_arr h0
            rw [hr0] at r0
            clear hR hta htaa hsm hsp hB hs2 ha hb hrel h0 z0 y0 hr0 ya za
            go_wp2_with fail
            go_roundw
            all_goals first | exact HREL.out _ | ((repeat apply Exists.intro); exact ⟨HREL.out _, rfl⟩) | (simp [intOf]; done) | (simp [intOf]; omega) | omega
end Go.Proofs.Ytnhobcfpipedmaa
