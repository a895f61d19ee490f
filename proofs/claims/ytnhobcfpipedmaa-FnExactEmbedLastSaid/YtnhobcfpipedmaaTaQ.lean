/-
  What a cover comes to, in tallies: bounds.
-/
import Derived.Test.YtnhobcfpipedmaaTaM
import Derived.Test.YtnhobcfpipedmaaCovB
namespace Go.Proofs.Ytnhobcfpipedmaa
open Go.RowKit
set_option linter.unusedVariables false
namespace Wd
def lenC (gs : List Rl) (c : List Int) : Int := (c.map fun q => (lens gs).getD q.toNat 0).sum
theorem lenC_app (gs) (c d : List Int) : lenC gs (c ++ d) = lenC gs c + lenC gs d := by simp [lenC]
theorem lenC_cover {gs : List Rl} (hok : gOk gs = true) (i j : Int) : ∀ f k s, k < f → k < gs.length → lenC gs (coverF gs i j f k s) ≤ (lens gs).getD k 0
  | 0, _, _, h, _ => by omega
  | f + 1, k, s, h, hk => by
    have hp := lens_pos hk fun q hq _ => fits_at (gOk_iff.1 hok).2.1 q hq
    by_cases h1 : s + (lens gs).getD k 0 ≤ i ∨ j ≤ s
    · rw [cover_out h1, show lenC gs [] = 0 from rfl]; omega
    · by_cases h2 : i ≤ s ∧ s + (lens gs).getD k 0 ≤ j
      · rw [cover_in h1 h2]; simp [lenC]
      · have h0 := cut_pair hok hk h1 h2
        obtain ⟨a, b, ha, hb, hak, hbk, hs, _⟩ := pair_parts hok hk h0
        rw [cover_pair hk ha hb h1 h2, lenC_app]
        have e1 := lenC_cover hok i j f a s (by omega) (by omega)
        have e2 := lenC_cover hok i j f b (s + (lens gs).getD a 0) (by omega) (by omega)
        omega
theorem lenC_pos {gs : List Rl} (hok : gOk gs = true) : ∀ c : List Int, (∀ q ∈ c, 0 ≤ q ∧ q < (gs.length : Int)) → 0 ≤ lenC gs c
  | [], _ => by simp [lenC]
  | q :: c, h => by
    have h1 := lenC_pos hok c fun x hx => h x (by simp [hx])
    have hq := h q (by simp)
    have hp := lens_pos (gs := gs) (k := q.toNat) (by omega) fun q hq _ => fits_at (gOk_iff.1 hok).2.1 q hq
    simp only [lenC, List.map_cons, List.sum_cons] at h1 ⊢
    omega
theorem lenC_take {gs : List Rl} (hok : gOk gs = true) {c : List Int} (h : ∀ q ∈ c, 0 ≤ q ∧ q < (gs.length : Int)) (m : Nat) : lenC gs (c.take m) ≤ lenC gs c := by
  have h1 := lenC_app gs (c.take m) (c.drop m)
  rw [List.take_append_drop] at h1
  have h2 := lenC_pos hok (c.drop m) fun q hq => h q (List.mem_of_mem_drop hq)
  omega
/-- bounds of what is joined so far -/
theorem acc_all {gs : List Rl} {J : List Int → List Int → List Int} {V : Nat → List Int} (P : Int → List Int → Prop) (hJ : ∀ m n u v, 0 ≤ m → 1 ≤ n → P m u → P n v → P (m + n) (J u v)) (hV : ∀ k, k < gs.length → 1 ≤ (lens gs).getD k 0 ∧ P ((lens gs).getD k 0) (V k)) :
    ∀ (c : List Int) (m : Int) (e : List Int), 0 ≤ m → (∀ q ∈ c, 0 ≤ q ∧ q < (gs.length : Int)) → P m e → P (m + lenC gs c) (accV J e V c)
  | [], m, e, _, _, he => by simpa [lenC, accV] using he
  | q :: c, m, e, hm, h, he => by
    have hq := h q (by simp)
    have hv := hV q.toNat (by omega)
    have := acc_all P hJ hV c (m + (lens gs).getD q.toNat 0) (J e (V q.toNat)) (by omega) (fun x hx => h x (by simp [hx])) (hJ _ _ _ _ hm hv.1 he hv.2)
    simp only [lenC, List.map_cons, List.sum_cons, accV, List.foldl_cons] at this ⊢
    rwa [← Int.add_assoc]
theorem acc_take (J e V) (c : List Int) (m : Nat) (h : m < c.length) : accV J e V (c.take (m + 1)) = J (accV J e V (c.take m)) (V (c[m]).toNat) := by
  rw [List.take_succ_eq_append_getElem h, accV_snoc]
def taNil : List Int := [0, 0, 0, 0]
theorem taOk_J0 (m n : Int) (u v : List Int) (hm : 0 ≤ m) (hn : 1 ≤ n) (hu : taOk m u) (hv : taOk n v) : taOk (m + n) (taJ u v) :=
  ⟨taJ_len u v, fun i hi => by rw [taJ_get u v i hi]; have := hu.2 i hi; have := hv.2 i hi; omega⟩
theorem taNil_ok : taOk 0 taNil := ⟨rfl, fun i hi => by obtain rfl | rfl | rfl | rfl : i = 0 ∨ i = 1 ∨ i = 2 ∨ i = 3 := by omega
                                                        all_goals exact ⟨Int.le_refl _, Int.le_refl _⟩⟩
theorem covA_len {gs : List Rl} (hok : gOk gs = true) (hg : 0 < gs.length) (i j : Int) : lenC gs (covA gs i j) ≤ (lens gs).getD (gs.length - 1) 0 := lenC_cover hok i j _ _ _ (by omega) (by omega)
/-- the tally of a part -/
def taPart (gs : List Rl) (i j : Int) : List Int := if i = j then taNil else accV taJ taNil (taAt gs) (covA gs i j)
theorem taAcc_ok {gs : List Rl} (hok : gOk gs = true) (hg : 0 < gs.length) (i j : Int) (m : Nat) : taOk 1000000000000000 (accV taJ taNil (taAt gs) ((covA gs i j).take m)) := by
  have h1 := acc_all (gs := gs) (V := taAt gs) taOk taOk_J0 (fun k hk => ⟨lens_pos hk fun q hq _ => fits_at (gOk_iff.1 hok).2.1 q hq, taAt_ok hok hk⟩) ((covA gs i j).take m) 0 taNil (by omega) (fun q hq => covA_lt hok hg i j q (List.mem_of_mem_take hq)) taNil_ok
  have h2 := lenC_take hok (covA_lt hok hg i j) m
  have h3 := covA_len hok hg i j
  have h4 := small_at (gOk_iff.1 hok).2.2 (gs.length - 1) (by omega)
  exact ⟨h1.1, fun x hx => by have := h1.2 x hx; omega⟩
theorem taPart_ok {gs : List Rl} (hok : gOk gs = true) (hg : 0 < gs.length) (i j : Int) : taOk 1000000000000000 (taPart gs i j) := by
  unfold taPart
  split
  · exact ⟨taNil_ok.1, fun x hx => by have := taNil_ok.2 x hx; omega⟩
  · have := taAcc_ok hok hg i j (covA gs i j).length
    rwa [List.take_length] at this
/-- one letter's number in a part -/
theorem accTa_get (V : Nat → List Int) (l : Nat) (hl : l < 4) : ∀ (c : List Int) (e : List Int), (accV taJ e V c).getD l 0 = e.getD l 0 + sumC V l c
  | [], e => by simp [accV, sumC]
  | q :: c, e => by
    have h := accTa_get V l hl c (taJ e (V q.toNat))
    rw [taJ_get _ _ _ hl] at h
    simp only [accV, List.foldl_cons, sumC, List.map_cons, List.sum_cons] at h ⊢
    omega
theorem taNil_get (l : Nat) (hl : l < 4) : taNil.getD l 0 = 0 := by
  obtain rfl | rfl | rfl | rfl : l = 0 ∨ l = 1 ∨ l = 2 ∨ l = 3 := by omega
  all_goals rfl
/-- the beginning's -/
theorem taPart_get {gs : List Rl} (hok : gOk gs = true) (hg : 0 < gs.length) (l : Nat) (hl : l < 4) (n : Int) (hn : 0 ≤ n) : (taPart gs 0 n).getD l 0 = rankF gs (taAt gs) l gs.length (gs.length - 1) n := by
  unfold taPart
  split
  · next h =>
    subst h
    obtain ⟨f, hf⟩ : ∃ f, gs.length = f + 1 := ⟨gs.length - 1, by omega⟩
    have : ∀ f', f' = f + 1 → rankF gs (taAt gs) l f' (gs.length - 1) 0 = 0 := fun f' e => by subst e; exact rank_none (by omega)
    rw [this _ hf, taNil_get l hl]
  · rw [accTa_get (taAt gs) l hl, taNil_get l hl]
    have := sum_rank hok (taAt gs) l n gs.length (gs.length - 1) 0 (by omega) (by omega) (by omega)
    rw [Int.sub_zero] at this
    unfold covA
    omega
/-- the whole word's tally -/
theorem taPart_whole {gs : List Rl} (hok : gOk gs = true) (hg : 0 < gs.length) : taPart gs 0 (wordLen gs) = taAt gs (gs.length - 1) := by
  have hp := lens_pos (show gs.length - 1 < gs.length by omega) fun q hq _ => fits_at (gOk_iff.1 hok).2.1 q hq
  have hc : covA gs 0 (wordLen gs) = [((gs.length - 1 : Nat) : Int)] := cover_whole hok hg
  unfold taPart
  rw [if_neg (by unfold wordLen; omega), hc]
  have h4 := (taAt_ok hok (show gs.length - 1 < gs.length by omega)).1
  simp only [accV, List.foldl_cons, List.foldl_nil, Int.toNat_natCast]
  conv => rhs; rw [four_of h4]
  unfold taJ
  simp [taNil, List.range_succ]
end Wd
end Go.Proofs.Ytnhobcfpipedmaa
