/-
  Folds over the rules of a grammar, as lists of numbers; what the cover of a beginning comes to. Nothing of the program.
-/
import Derived.Test.YtcaeihdfljljbaaWordM
import Derived.Test.YtcaeihdfljljbaaOwnK
namespace Go.Proofs.Ytcaeihdfljljbaa
open Go.RowKit
set_option linter.unusedVariables false
namespace Wd
/-- what the word of a rule comes to -/
def valF (F : Nat → List Int) (J : List Int → List Int → List Int) (gs : List Rl) : Nat → Nat → List Int
  | 0, _ => []
  | f + 1, k => match gs[k]? with
    | some x => if x.L.size = 0 then J (valF F J gs f x.l.toNat) (valF F J gs f x.r.toNat) else F (ltNo x)
    | none => []
theorem valF_pair {F J} {gs : List Rl} {f k a b : Nat} (hk : k < gs.length) (h0 : gs[k].L.size = 0) (ha : gs[k].l = a) (hb : gs[k].r = b) : valF F J gs (f + 1) k = J (valF F J gs f a) (valF F J gs f b) := by
  rw [valF, List.getElem?_eq_getElem hk]
  simp only [h0, if_true, ha, hb, Int.toNat_natCast]
theorem valF_letter {F J} {gs : List Rl} {f k : Nat} (hk : k < gs.length) (h0 : gs[k].L.size ≠ 0) : valF F J gs (f + 1) k = F (ltNo gs[k]) := by
  rw [valF, List.getElem?_eq_getElem hk]
  simp only [h0, if_false]
theorem valF_fuel {F J} {gs : List Rl} (hfit : fits gs = true) : ∀ f f' k, k < f → k < f' → k < gs.length → valF F J gs f k = valF F J gs f' k
  | 0, _, _, h, _, _ => by omega
  | f + 1, 0, _, _, h, _ => by omega
  | f + 1, f' + 1, k, h, h', hk => by
    by_cases h0 : gs[k].L.size = 0
    · obtain ⟨⟨a1, a2⟩, b1, b2⟩ := (ok_pair h0).1 (fits_at hfit k hk)
      obtain ⟨a, ha⟩ : ∃ a : Nat, gs[k].l = a := ⟨gs[k].l.toNat, by omega⟩
      obtain ⟨b, hb⟩ : ∃ b : Nat, gs[k].r = b := ⟨gs[k].r.toNat, by omega⟩
      rw [valF_pair hk h0 ha hb, valF_pair hk h0 ha hb, valF_fuel hfit f f' a (by omega) (by omega) (by omega), valF_fuel hfit f f' b (by omega) (by omega) (by omega)]
    · rw [valF_letter hk h0, valF_letter hk h0]
def valAt (F : Nat → List Int) (J : List Int → List Int → List Int) (gs : List Rl) (k : Nat) : List Int := valF F J gs (k + 1) k
theorem valAt_pair {F J} {gs : List Rl} (hfit : fits gs = true) {k a b : Nat} (hk : k < gs.length) (h0 : gs[k].L.size = 0) (ha : gs[k].l = a) (hb : gs[k].r = b) (hak : a < k) (hbk : b < k) : valAt F J gs k = J (valAt F J gs a) (valAt F J gs b) := by
  unfold valAt
  rw [valF_pair hk h0 ha hb, valF_fuel hfit k (a + 1) a hak (by omega) (by omega), valF_fuel hfit k (b + 1) b hbk (by omega) (by omega)]
theorem valAt_letter {F J} {gs : List Rl} {k : Nat} (hk : k < gs.length) (h0 : gs[k].L.size ≠ 0) : valAt F J gs k = F (ltNo gs[k]) := valF_letter hk h0
/-- what holds of all values, by the lengths of their words -/
theorem valAt_all {F J} {gs : List Rl} (hok : gOk gs = true) (P : Int → List Int → Prop) (hF : ∀ d, d < 4 → P 1 (F d)) (hJ : ∀ m n u v, 1 ≤ m → 1 ≤ n → P m u → P n v → P (m + n) (J u v)) : ∀ n k, k < n → k < gs.length → P ((lens gs).getD k 0) (valAt F J gs k)
  | 0, _, h, _ => by omega
  | n + 1, k, h, hk => by
    by_cases h0 : gs[k].L.size = 0
    · obtain ⟨a, b, ha, hb, hak, hbk, hs, p1, _, p2, _⟩ := pair_parts hok hk h0
      rw [hs, valAt_pair (gOk_iff.1 hok).2.1 hk h0 ha hb hak hbk]
      exact hJ _ _ _ _ p1 p2 (valAt_all hok P hF hJ n a (by omega) (by omega)) (valAt_all hok P hF hJ n b (by omega) (by omega))
    · have h1 : (lens gs).getD k 0 = 1 := vals_letter _ gs k hk h0
      rw [h1, valAt_letter hk h0]
      obtain ⟨c, _, hc1, hc2, hc3⟩ := letter_byte h0 (fits_at (gOk_iff.1 hok).2.1 k hk)
      exact hF _ (by omega)
/-- the values of the first rules, one behind the other -/
def flV (V : Nat → List Int) (k : Nat) : List Int := (List.range k).flatMap V
theorem flV_zero (V : Nat → List Int) : flV V 0 = [] := rfl
theorem flV_succ (V : Nat → List Int) (k : Nat) : flV V (k + 1) = flV V k ++ V k := by simp [flV, List.range_succ]
theorem flV_len {V : Nat → List Int} {m k : Nat} (h : ∀ j, j < k → (V j).length = m) : (flV V k).length = k * m := by
  induction k with
  | zero => simp [flV_zero]
  | succ k ih => rw [flV_succ, List.length_append, ih (fun j hj => h j (by omega)), h k (by omega), Nat.succ_mul]
theorem flV_get {V : Nat → List Int} {m k : Nat} (h : ∀ j, j < k → (V j).length = m) {j i : Nat} (hj : j < k) (hi : i < m) : (flV V k)[j * m + i]? = some ((V j).getD i 0) := by
  induction k with
  | zero => omega
  | succ k ih =>
    have hl := flV_len (fun j hj => h j (by omega)) (k := k) (V := V) (m := m)
    rw [flV_succ]
    have h3 : j * m + i < (j + 1) * m := by rw [Nat.succ_mul]; omega
    by_cases e : j = k
    · subst e
      rw [List.getElem?_append_right (by omega), hl, show j * m + i - j * m = i from by omega, List.getElem?_eq_getElem (by rw [h j (by omega)]; exact hi), List.getD_eq_getElem?_getD, List.getElem?_eq_getElem (by rw [h j (by omega)]; exact hi)]
      rfl
    · have h4 : (j + 1) * m ≤ k * m := Nat.mul_le_mul_right m (by omega)
      rw [List.getElem?_append_left (by omega)]
      exact ih (fun j hj => h j (by omega)) (by omega)
theorem flV_eq {V U : Nat → List Int} {k : Nat} (h : ∀ j, j < k → V j = U j) : flV V k = flV U k := by
  induction k with
  | zero => rfl
  | succ k ih => rw [flV_succ, flV_succ, ih (fun j hj => h j (by omega)), h k (by omega)]
/-- the join of a list of values -/
def accV (J : List Int → List Int → List Int) (e : List Int) (V : Nat → List Int) (c : List Int) : List Int := c.foldl (fun a q => J a (V q.toNat)) e
theorem accV_snoc (J e V) (c : List Int) (q : Int) : accV J e V (c ++ [q]) = J (accV J e V c) (V q.toNat) := by simp [accV, List.foldl_append]
/-- the whole word's cover is its rule -/
theorem cover_whole {gs : List Rl} (hok : gOk gs = true) (hg : 0 < gs.length) : coverF gs 0 ((lens gs).getD (gs.length - 1) 0) gs.length (gs.length - 1) 0 = [((gs.length - 1 : Nat) : Int)] := by
  have hp := lens_pos (show gs.length - 1 < gs.length by omega) fun q hq _ => fits_at (gOk_iff.1 hok).2.1 q hq
  obtain ⟨n, hn⟩ : ∃ n, gs.length = n + 1 := ⟨gs.length - 1, by omega⟩
  have : ∀ f, f = n + 1 → coverF gs 0 ((lens gs).getD (gs.length - 1) 0) f (gs.length - 1) 0 = [((gs.length - 1 : Nat) : Int)] := fun f hf => by
    subst hf
    exact cover_in (by omega) (by omega)
  exact this _ hn
/-- one number of each value of a beginning's cover, added up -/
def sumC (V : Nat → List Int) (l : Nat) (c : List Int) : Int := (c.map fun q => (V q.toNat).getD l 0).sum
theorem sumC_app (V l) (c d : List Int) : sumC V l (c ++ d) = sumC V l c + sumC V l d := by simp [sumC]
/-- the same from the rules down -/
def rankF (gs : List Rl) (V : Nat → List Int) (l : Nat) : Nat → Nat → Int → Int
  | 0, _, _ => 0
  | f + 1, k, n => if n ≤ 0 then 0 else if (lens gs).getD k 0 ≤ n then (V k).getD l 0 else
    match gs[k]? with
    | some x => if (lens gs).getD x.l.toNat 0 ≤ n then (V x.l.toNat).getD l 0 + rankF gs V l f x.r.toNat (n - (lens gs).getD x.l.toNat 0) else rankF gs V l f x.l.toNat n
    | none => 0
theorem rank_none {gs V l f k n} (h : n ≤ 0) : rankF gs V l (f + 1) k n = 0 := by rw [rankF, if_pos h]
theorem rank_all {gs V l f k n} (h : ¬ n ≤ 0) (h2 : (lens gs).getD k 0 ≤ n) : rankF gs V l (f + 1) k n = (V k).getD l 0 := by rw [rankF, if_neg h, if_pos h2]
theorem rank_right {gs : List Rl} {V l} {f k a b : Nat} {n : Int} (hk : k < gs.length) (ha : gs[k].l = a) (hb : gs[k].r = b) (h : ¬ n ≤ 0) (h2 : ¬ (lens gs).getD k 0 ≤ n) (h3 : (lens gs).getD a 0 ≤ n) : rankF gs V l (f + 1) k n = (V a).getD l 0 + rankF gs V l f b (n - (lens gs).getD a 0) := by
  rw [rankF, if_neg h, if_neg h2, List.getElem?_eq_getElem hk]
  simp only [ha, hb, Int.toNat_natCast, h3, if_true]
theorem rank_left {gs : List Rl} {V l} {f k a : Nat} {n : Int} (hk : k < gs.length) (ha : gs[k].l = a) (h : ¬ n ≤ 0) (h2 : ¬ (lens gs).getD k 0 ≤ n) (h3 : ¬ (lens gs).getD a 0 ≤ n) : rankF gs V l (f + 1) k n = rankF gs V l f a n := by
  rw [rankF, if_neg h, if_neg h2, List.getElem?_eq_getElem hk]
  simp only [ha, Int.toNat_natCast, h3, if_false]
theorem sum_rank {gs : List Rl} (hok : gOk gs = true) (V l) (j : Int) : ∀ f k s, k < f → k < gs.length → 0 ≤ s → sumC V l (coverF gs 0 j f k s) = rankF gs V l f k (j - s)
  | 0, _, _, h, _, _ => by omega
  | f + 1, k, s, h, hk, hs => by
    have hp := lens_pos hk fun q hq _ => fits_at (gOk_iff.1 hok).2.1 q hq
    by_cases h1 : j ≤ s
    · rw [cover_out (.inr h1), rank_none (by omega)]; rfl
    · by_cases h2 : s + (lens gs).getD k 0 ≤ j
      · rw [cover_in (by omega) (by omega), rank_all (by omega) (by omega)]; simp [sumC]
      · have h0 := cut_pair hok hk (i := 0) (j := j) (s := s) (by omega) (by omega)
        obtain ⟨a, b, ha, hb, hak, hbk, hs2, p1, _, p2, _⟩ := pair_parts hok hk h0
        rw [cover_pair hk ha hb (by omega) (by omega), sumC_app, sum_rank hok V l j f a s (by omega) (by omega) hs, sum_rank hok V l j f b _ (by omega) (by omega) (by omega)]
        by_cases h3 : (lens gs).getD a 0 ≤ j - s
        · rw [rank_right hk ha hb (by omega) (by omega) h3, show j - (s + (lens gs).getD a 0) = j - s - (lens gs).getD a 0 from by omega]
          obtain ⟨f', hf'⟩ : ∃ f', f = f' + 1 := ⟨f - 1, by omega⟩
          rw [hf', rank_all (f := f') (k := a) (by omega) h3]
        · rw [rank_left hk ha (by omega) (by omega) h3]
          obtain ⟨f', hf'⟩ : ∃ f', f = f' + 1 := ⟨f - 1, by omega⟩
          rw [hf', rank_none (f := f') (k := b) (by omega)]
          omega
end Wd
end Go.Proofs.Ytcaeihdfljljbaa
