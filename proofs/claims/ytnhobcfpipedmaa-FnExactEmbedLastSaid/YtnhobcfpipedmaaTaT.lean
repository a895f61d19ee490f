/-
  Walks: spec.l05Total, l05Select.
-/
import Derived.Test.YtnhobcfpipedmaaTaR
import Derived.Test.YtnhobcfpipedmaaIsL
import Derived.Deep.RegionHeld3
import Derived.Deep.Cut
namespace Go.Proofs.Ytnhobcfpipedmaa
open Go.RowKit
open Wd
set_option linter.unusedVariables false
namespace Wd
/-- how often a letter occurs -/
def totT (gs : List Rl) (l : Nat) : Int := if gs.length = 0 then 0 else (taAt gs (gs.length - 1)).getD l 0
/-- where the letter with some number stands -/
def selF (gs : List Rl) (l : Nat) : Nat → Nat → Int → Int
  | 0, _, _ => 0
  | f + 1, k, c => match gs[k]? with
    | some x => if x.L.size = 0 then (if c < (taAt gs x.l.toNat).getD l 0 then selF gs l f x.l.toNat c else (lens gs).getD x.l.toNat 0 + selF gs l f x.r.toNat (c - (taAt gs x.l.toNat).getD l 0)) else 0
    | none => 0
theorem sel_letter {gs : List Rl} {l f k : Nat} {c : Int} (hk : k < gs.length) (h0 : gs[k].L.size ≠ 0) : selF gs l (f + 1) k c = 0 := by
  rw [selF, List.getElem?_eq_getElem hk]
  simp only [h0, if_false]
theorem sel_left {gs : List Rl} {l f k a : Nat} {c : Int} (hk : k < gs.length) (h0 : gs[k].L.size = 0) (ha : gs[k].l = a) (h : c < (taAt gs a).getD l 0) : selF gs l (f + 1) k c = selF gs l f a c := by
  rw [selF, List.getElem?_eq_getElem hk]
  simp only [h0, if_true, ha, Int.toNat_natCast, h]
theorem sel_right {gs : List Rl} {l f k a b : Nat} {c : Int} (hk : k < gs.length) (h0 : gs[k].L.size = 0) (ha : gs[k].l = a) (hb : gs[k].r = b) (h : ¬ c < (taAt gs a).getD l 0) : selF gs l (f + 1) k c = (lens gs).getD a 0 + selF gs l f b (c - (taAt gs a).getD l 0) := by
  rw [selF, List.getElem?_eq_getElem hk]
  simp only [h0, if_true, ha, hb, Int.toNat_natCast, h, if_false]
theorem totT_bd {gs : List Rl} (hok : gOk gs = true) {l : Nat} (hl : l < 4) : 0 ≤ totT gs l ∧ totT gs l ≤ 1000000000000000 := by
  unfold totT
  split
  · omega
  · have h1 := (taAt_ok hok (show gs.length - 1 < gs.length by omega)).2 l hl
    have h2 := small_at (gOk_iff.1 hok).2.2 (gs.length - 1) (by omega)
    omega
end Wd
/-- between two rules on the way down -/
def SlSt (gs : List Rl) (w : World) (l : Nat) (R : Int) (kv sv rv : Value) (wr : World) : Prop :=
  ∃ (f k : Nat) (s c : Int), kv = .int .i64 c ∧ sv = .int .i64 s ∧ rv = .int .i64 k ∧ k < f ∧ k < gs.length ∧ 0 ≤ c ∧ c ≤ 9223372036854775807 ∧ 0 ≤ s ∧ s + (lens gs).getD k 0 ≤ 1000000000000000 ∧ s + selF gs l f k c = R ∧ Below w.heap.size w wr
set_option maxRecDepth 100000 in
set_option maxHeartbeats 6400000 in
theorem l05Select_any (pg : Nat) (lv yv : Value) (gs : List Rl) (l : Nat) (c : Int) (w : World) (hok : gOk gs = true) (hl : l < 4) (hg : 0 < gs.length) (hc : 0 ≤ c ∧ c ≤ 9223372036854775807) (h : SpT w pg lv yv gs) :
    Calls Try.prog 51 #[.pointer (some ⟨pg, 0, none⟩), lv, yv, .int .i64 (l : Int), .int .i64 c] w fun e w' => e = .returned (.int .i64 (selF gs l gs.length (gs.length - 1) c)) ∧ Below w.heap.size w w' := by
  have hn400 := gOk_len hok
  obtain ⟨A1, c1, A2, c2, A3, c3, rfl, rfl, h3⟩ := h.shape
  have HSP := Lib.hid (fun W (hb : Below w.heap.size w W) => h.kept hb)
  have HOK := Lib.hid hok
  have HG := Lib.hid h3
  have hwl := small_at (gOk_iff.1 hok).2.2 (gs.length - 1) (by omega)
  have hST : SlSt gs w l (selF gs l gs.length (gs.length - 1) c) (.int .i64 c) (.int .i64 0) (.int .i64 ((gs.length - 1 : Nat) : Int)) w := ⟨gs.length, gs.length - 1, 0, c, rfl, rfl, rfl, by omega, by omega, hc.1, hc.2, Int.le_refl _, by omega, by omega, Below.refl _ _⟩
  have HST := Lib.hid hST
  obtain ⟨M, hM⟩ : ∃ M, gs.length = M := ⟨_, rfl⟩
  have HM := Lib.hid hM
  generalize hR : selF gs l gs.length (gs.length - 1) c = R at *
  rw [hM] at h3
  have hM4 : M ≤ 400 := by omega
  have hM0 : 0 < M := by omega
  have hsub2 : ((M : Int) - 1) = ((M - 1 : Nat) : Int) := by omega
  have HSUB := Lib.hid hsub2
  rw [hM] at HST
  have hl0 : (0 : Int) ≤ (l : Int) := by omega
  have hl1 : (l : Int) < 4 := by omega
  clear h hok hST hR hwl hn400 hM hsub2 hg
  rw [HM.out]
  go_enter Try.func51, Try.ntmps51
  go_wp2_with fail
  rw [HSUB.out]
  clear h3
  go_loopw [4, 11, 12, 13] (fun kv sv rv _ wr => SlSt gs w l R kv sv rv wr) (fun _ _ rv _ _ => (intOf rv).toNat)
  case atStart => exact HST.out
  case round =>
    obtain ⟨f, k, s, n', rfl, rfl, rfl, hkf, hk, hn0, hn9, hs0, hsn, hR, hB⟩ := hrel
    obtain ⟨wo, rfl⟩ : ∃ wo : World, wo = wr := ⟨_, rfl⟩
    have hsp := HSP.out wo hB
    have hg := (hB.cell (lt_of_cell HG.out)).trans HG.out
    obtain ⟨L, g, y, x, cx, rfl, rfl, rfl, r0, r1, r2, e0, y0, z0⟩ := hsp.at_ hg HOK.out hk hl
    obtain ⟨f', rfl⟩ : ∃ f', f = f' + 1 := ⟨f - 1, by omega⟩
    have HB := Lib.hid hB
    have k0 : (0 : Int) ≤ (k : Int) := by omega
    have k1 : (k : Int) < (M : Int) := by have := HM.out; omega
    rw [HM.out] at hg
    by_cases h0 : gs[k].L.size = 0
    · obtain ⟨a, b, ha, hb, hak, hbk, hs2, p1, p3, p2, p4⟩ := pair_parts HOK.out hk h0
      obtain ⟨_, g', y', x', cx', hL', hy', hg', _, _, _, ea, ya, za⟩ := hsp.at_ (by rw [← HM.out] at hg; exact hg) HOK.out (show a < gs.length by omega) hl
      injection hL' with hL'
      injection hL' with hL'
      subst hL'
      injection hy' with hy'
      injection hy' with hy'
      subst hy'
      injection hg' with hg'
      injection hg' with hg'
      subst hg'
      have htaa := (taAt_ok HOK.out (show a < gs.length by omega)).2 l hl
      have lL : L < wo.heap.size := lt_of_cell e0
      have ly : y < wo.heap.size := lt_of_cell y0
      have lx : x' < wo.heap.size := lt_of_cell za
      have lp : pg < wo.heap.size := lt_of_cell hg
      have lg : g < wo.heap.size := lt_of_cell r0
      have HW2 : Hid (∀ o, Below w.heap.size w (wo.alloc o)) := Lib.hid (fun o => hB.alloc hB.size o)
      by_cases h3 : n' < (taAt gs a).getD l 0
      · rw [sel_left hk h0 ha h3] at hR
        have hrel : ∀ o, SlSt gs w l R (.int .i64 n') (.int .i64 s) (.int .i64 (a : Int)) (wo.alloc o) := fun o => ⟨f', a, _, _, rfl, rfl, rfl, by omega, by omega, by omega, by omega, by omega, by omega, hR, HW2.out o⟩
        have HREL := Lib.hid hrel
        rw [ha] at r1
        rw [hb] at r2
        have hr0 := empty_arr h0
        rw [hr0] at r0
        generalize (taAt gs a).getD l 0 = z at *
        generalize (lens gs).getD a 0 = la at *
        have a0' : (0 : Int) ≤ (a : Int) := by omega
        have a1' : (a : Int) < (M : Int) := by omega
        clear hR htaa hsp hB hs2 ha hb hrel h0 z0 y0 hr0
        go_wp2_with fail
        go_roundw
        all_goals first | exact HREL.out _ | ((repeat apply Exists.intro); exact ⟨HREL.out _, rfl⟩) | (simp [intOf]; done) | (simp [intOf]; omega) | omega
      · rw [sel_right hk h0 ha hb h3] at hR
        have hrel : ∀ o, SlSt gs w l R (.int .i64 (n' - (taAt gs a).getD l 0)) (.int .i64 (s + (lens gs).getD a 0)) (.int .i64 (b : Int)) (wo.alloc o) := fun o => ⟨f', b, _, _, rfl, rfl, rfl, by omega, by omega, by omega, by omega, by omega, by omega, by omega, HW2.out o⟩
        have HREL := Lib.hid hrel
        rw [ha] at r1
        rw [hb] at r2
        have hr0 := empty_arr h0
        rw [hr0] at r0
        have z1 := htaa.1
        have hs15 : s ≤ 1000000000000000 := by omega
        generalize (taAt gs a).getD l 0 = z at *
        generalize (lens gs).getD a 0 = la at *
        generalize (lens gs).getD k 0 = lk at *
        have a0' : (0 : Int) ≤ (a : Int) := by omega
        have a1' : (a : Int) < (M : Int) := by omega
        have hge : z ≤ n' := by omega
        have hla : la ≤ 1000000000000000 := by omega
        clear hR htaa hsp hB hs2 ha hb hrel h0 z0 y0 hr0
        go_wp2_with fail
        go_roundw
        all_goals first | exact HREL.out _ | ((repeat apply Exists.intro); exact ⟨HREL.out _, rfl⟩) | (simp [intOf]; done) | (simp [intOf]; omega) | omega
    · rw [sel_letter hk h0] at hR
      have HR : Hid (s = R) := Lib.hid (by omega)
      have he := full_list h0
      generalize gs[k] = Rk at *
      clear hR hsp hB h0
      go_wp2_with fail
      go_ret
      exact ⟨ret_int HR.out, HB.out⟩
end Go.Proofs.Ytnhobcfpipedmaa
