/-
  Words of rules, parts and their covers, as lists. Nothing of the program.
-/
import Derived.Test.YtcaeihdfljljbaaDoorGLetM
namespace Go.Proofs.YtcaeihdfljljbaaDoor
open Go.RowKit
set_option linter.unusedVariables false
namespace Wd
theorem up_ok {gs : List Rl} (hok : gOk gs = true) (k : Nat) : UpTo gs k := fun j h _ => ⟨fits_at (gOk_iff.1 hok).2.1 j h, small_at (gOk_iff.1 hok).2.2 j h⟩
/-- what a pair of a valid grammar is made of -/
theorem pair_parts {gs : List Rl} {k : Nat} (hok : gOk gs = true) (hk : k < gs.length) (h0 : gs[k].L.size = 0) :
    ∃ a b : Nat, gs[k].l = a ∧ gs[k].r = b ∧ a < k ∧ b < k ∧ (lens gs).getD k 0 = (lens gs).getD a 0 + (lens gs).getD b 0 ∧
      1 ≤ (lens gs).getD a 0 ∧ (lens gs).getD a 0 ≤ 1000000000000000 ∧ 1 ≤ (lens gs).getD b 0 ∧ (lens gs).getD b 0 ≤ 1000000000000000 :=
  lens_next hk (up_ok hok k) (fits_at (gOk_iff.1 hok).2.1 k hk) h0
/-- the word of a rule -/
def wordF (gs : List Rl) : Nat → Nat → List UInt8
  | 0, _ => []
  | f + 1, k => match gs[k]? with
    | some x => if x.L.size = 0 then wordF gs f x.l.toNat ++ wordF gs f x.r.toNat else x.L.data.toList
    | none => []
theorem wordF_pair {gs : List Rl} {f k a b : Nat} (hk : k < gs.length) (h0 : gs[k].L.size = 0) (ha : gs[k].l = a) (hb : gs[k].r = b) : wordF gs (f + 1) k = wordF gs f a ++ wordF gs f b := by
  rw [wordF, List.getElem?_eq_getElem hk]
  simp only [h0, if_true, ha, hb, Int.toNat_natCast]
theorem wordF_letter {gs : List Rl} {f k : Nat} (hk : k < gs.length) (h0 : gs[k].L.size ≠ 0) : wordF gs (f + 1) k = gs[k].L.data.toList := by
  rw [wordF, List.getElem?_eq_getElem hk]
  simp only [h0, if_false]
theorem wordF_len {gs : List Rl} (hok : gOk gs = true) : ∀ f k, k < f → k < gs.length → ((wordF gs f k).length : Int) = (lens gs).getD k 0
  | 0, _, h, _ => by omega
  | f + 1, k, h, hk => by
    by_cases h0 : gs[k].L.size = 0
    · obtain ⟨a, b, ha, hb, hak, hbk, hs, _⟩ := pair_parts hok hk h0
      rw [wordF_pair hk h0 ha hb, List.length_append, hs]
      have h1 := wordF_len hok f a (by omega) (by omega)
      have h2 := wordF_len hok f b (by omega) (by omega)
      omega
    · rw [wordF_letter hk h0]
      have h1 := ((ok_letter h0).1 (fits_at (gOk_iff.1 hok).2.1 k hk)).1.1
      have h2 : (lens gs).getD k 0 = 1 := vals_letter _ gs k hk h0
      rw [h2, Array.length_toList]
      have : gs[k].L.data.size = gs[k].L.size := rfl
      omega
theorem wordF_fuel {gs : List Rl} (hok : gOk gs = true) : ∀ f f' k, k < f → k < f' → k < gs.length → wordF gs f k = wordF gs f' k
  | 0, _, _, h, _, _ => by omega
  | f + 1, 0, _, _, h, _ => by omega
  | f + 1, f' + 1, k, h, h', hk => by
    by_cases h0 : gs[k].L.size = 0
    · obtain ⟨a, b, ha, hb, hak, hbk, hs, _⟩ := pair_parts hok hk h0
      rw [wordF_pair hk h0 ha hb, wordF_pair hk h0 ha hb, wordF_fuel hok f f' a (by omega) (by omega) (by omega), wordF_fuel hok f f' b (by omega) (by omega) (by omega)]
    · rw [wordF_letter hk h0, wordF_letter hk h0]
def wordAt (gs : List Rl) (k : Nat) : List UInt8 := wordF gs (k + 1) k
theorem wordAt_len {gs : List Rl} (hok : gOk gs = true) {k : Nat} (hk : k < gs.length) : ((wordAt gs k).length : Int) = (lens gs).getD k 0 := wordF_len hok _ k (by omega) hk
theorem wordAt_pair {gs : List Rl} (hok : gOk gs = true) {k a b : Nat} (hk : k < gs.length) (h0 : gs[k].L.size = 0) (ha : gs[k].l = a) (hb : gs[k].r = b) (hak : a < k) (hbk : b < k) : wordAt gs k = wordAt gs a ++ wordAt gs b := by
  unfold wordAt
  rw [wordF_pair hk h0 ha hb, wordF_fuel hok k (a + 1) a hak (by omega) (by omega), wordF_fuel hok k (b + 1) b hbk (by omega) (by omega)]
theorem wordAt_letter {gs : List Rl} {k : Nat} (hk : k < gs.length) (h0 : gs[k].L.size ≠ 0) : wordAt gs k = gs[k].L.data.toList := wordF_letter hk h0

/-- the cover of a part -/
def coverF (gs : List Rl) (i j : Int) : Nat → Nat → Int → List Int
  | 0, _, _ => []
  | f + 1, k, s =>
    if s + (lens gs).getD k 0 ≤ i ∨ j ≤ s then [] else if i ≤ s ∧ s + (lens gs).getD k 0 ≤ j then [(k : Int)] else
      match gs[k]? with
      | some x => coverF gs i j f x.l.toNat s ++ coverF gs i j f x.r.toNat (s + (lens gs).getD x.l.toNat 0)
      | none => []
theorem cover_out {gs : List Rl} {i j : Int} {f k : Nat} {s : Int} (h : s + (lens gs).getD k 0 ≤ i ∨ j ≤ s) : coverF gs i j (f + 1) k s = [] := by rw [coverF, if_pos h]
theorem cover_in {gs : List Rl} {i j : Int} {f k : Nat} {s : Int} (h : ¬ (s + (lens gs).getD k 0 ≤ i ∨ j ≤ s)) (h2 : i ≤ s ∧ s + (lens gs).getD k 0 ≤ j) : coverF gs i j (f + 1) k s = [(k : Int)] := by rw [coverF, if_neg h, if_pos h2]
theorem cover_pair {gs : List Rl} {i j : Int} {f k a b : Nat} {s : Int} (hk : k < gs.length) (ha : gs[k].l = a) (hb : gs[k].r = b) (h : ¬ (s + (lens gs).getD k 0 ≤ i ∨ j ≤ s)) (h2 : ¬ (i ≤ s ∧ s + (lens gs).getD k 0 ≤ j)) :
    coverF gs i j (f + 1) k s = coverF gs i j f a s ++ coverF gs i j f b (s + (lens gs).getD a 0) := by
  rw [coverF, if_neg h, if_neg h2, List.getElem?_eq_getElem hk]
  simp only [ha, hb, Int.toNat_natCast]
/-- a rule that is neither in the part nor outside of it is a pair -/
theorem cut_pair {gs : List Rl} {i j s : Int} {k : Nat} (hok : gOk gs = true) (hk : k < gs.length) (h : ¬ (s + (lens gs).getD k 0 ≤ i ∨ j ≤ s)) (h2 : ¬ (i ≤ s ∧ s + (lens gs).getD k 0 ≤ j)) : gs[k].L.size = 0 := by
  by_cases h0 : gs[k].L.size = 0
  · exact h0
  · have h1 : (lens gs).getD k 0 = 1 := vals_letter _ gs k hk h0
    omega
def catW (gs : List Rl) (c : List Int) : List UInt8 := c.flatMap fun k => wordAt gs k.toNat
theorem catW_app (gs : List Rl) (c d : List Int) : catW gs (c ++ d) = catW gs c ++ catW gs d := by simp [catW]
theorem cover_lt {gs : List Rl} (hok : gOk gs = true) (i j : Int) : ∀ f k s, k < f → k < gs.length → ∀ q ∈ coverF gs i j f k s, 0 ≤ q ∧ q < (gs.length : Int)
  | 0, _, _, h, _ => by omega
  | f + 1, k, s, h, hk => by
    intro q hq
    by_cases h1 : s + (lens gs).getD k 0 ≤ i ∨ j ≤ s
    · rw [cover_out h1] at hq; simp at hq
    · by_cases h2 : i ≤ s ∧ s + (lens gs).getD k 0 ≤ j
      · rw [cover_in h1 h2] at hq; simp at hq; omega
      · have h0 := cut_pair hok hk h1 h2
        obtain ⟨a, b, ha, hb, hak, hbk, _⟩ := pair_parts hok hk h0
        rw [cover_pair hk ha hb h1 h2, List.mem_append] at hq
        rcases hq with hq | hq
        · exact cover_lt hok i j f a s (by omega) (by omega) q hq
        · exact cover_lt hok i j f b _ (by omega) (by omega) q hq
theorem cover_word {gs : List Rl} (hok : gOk gs = true) (i j : Int) : ∀ f k s, k < f → k < gs.length → catW gs (coverF gs i j f k s) = ((wordAt gs k).take (j - s).toNat).drop (i - s).toNat
  | 0, _, _, h, _ => by omega
  | f + 1, k, s, h, hk => by
    have hl := wordAt_len hok hk
    by_cases h1 : s + (lens gs).getD k 0 ≤ i ∨ j ≤ s
    · rw [cover_out h1]
      symm
      apply List.drop_eq_nil_of_le
      rw [List.length_take]
      omega
    · by_cases h2 : i ≤ s ∧ s + (lens gs).getD k 0 ≤ j
      · rw [cover_in h1 h2, List.take_of_length_le (by omega), show (i - s).toNat = 0 from by omega]
        simp [catW]
      · have h0 := cut_pair hok hk h1 h2
        obtain ⟨a, b, ha, hb, hak, hbk, hs, _⟩ := pair_parts hok hk h0
        rw [cover_pair hk ha hb h1 h2, catW_app, cover_word hok i j f a s (by omega) (by omega), cover_word hok i j f b _ (by omega) (by omega), wordAt_pair hok hk h0 ha hb hak hbk]
        have la := wordAt_len hok (show a < gs.length by omega)
        generalize wordAt gs a = wa at *
        generalize wordAt gs b = wb at *
        rw [List.take_append, List.drop_append, List.length_take]
        congr 1
        by_cases hm : wa.length ≤ (j - s).toNat
        · rw [Nat.min_eq_right hm, show (j - (s + (lens gs).getD a 0)).toNat = (j - s).toNat - wa.length from by omega, show (i - (s + (lens gs).getD a 0)).toNat = (i - s).toNat - wa.length from by omega]
        · rw [show (j - s).toNat - wa.length = 0 from by omega, show (j - (s + (lens gs).getD a 0)).toNat = 0 from by omega]
          simp
theorem cover_len {gs : List Rl} (hok : gOk gs = true) (i j : Int) : ∀ f k s, k < f → k < gs.length → ((coverF gs i j f k s).length : Int) ≤ (lens gs).getD k 0
  | 0, _, _, h, _ => by omega
  | f + 1, k, s, h, hk => by
    have hp := lens_pos hk fun q hq _ => fits_at (gOk_iff.1 hok).2.1 q hq
    by_cases h1 : s + (lens gs).getD k 0 ≤ i ∨ j ≤ s
    · rw [cover_out h1, List.length_nil]; omega
    · by_cases h2 : i ≤ s ∧ s + (lens gs).getD k 0 ≤ j
      · rw [cover_in h1 h2, List.length_singleton]; omega
      · have h0 := cut_pair hok hk h1 h2
        obtain ⟨a, b, ha, hb, hak, hbk, hs, _⟩ := pair_parts hok hk h0
        rw [cover_pair hk ha hb h1 h2, List.length_append]
        have e1 := cover_len hok i j f a s (by omega) (by omega)
        have e2 := cover_len hok i j f b (s + (lens gs).getD a 0) (by omega) (by omega)
        omega
/-- the letter at a place -/
theorem leaf_word {gs : List Rl} (hok : gOk gs = true) : ∀ f k i, k < f → k < gs.length → 0 ≤ i → i < (lens gs).getD k 0 → (wordF gs f k)[i.toNat]? = (gs[leafAt gs f k i]?).bind fun x => x.L.data.toList[0]?
  | 0, _, _, h, _, _, _ => by omega
  | f + 1, k, i, h, hk, hi0, hi => by
    by_cases h0 : gs[k].L.size = 0
    · obtain ⟨a, b, ha, hb, hak, hbk, hs, _⟩ := pair_parts hok hk h0
      have la := wordF_len hok f a (by omega) (by omega)
      rw [wordF_pair hk h0 ha hb]
      by_cases hia : i < (lens gs).getD a 0
      · rw [leaf_left hk h0 ha hia, List.getElem?_append_left (by omega)]
        exact leaf_word hok f a i (by omega) (by omega) hi0 hia
      · rw [leaf_right hk h0 ha hb hia, List.getElem?_append_right (by omega), ← leaf_word hok f b (i - (lens gs).getD a 0) (by omega) (by omega) (by omega) (by omega)]
        congr 1
        omega
    · rw [wordF_letter hk h0, leaf_letter hk h0, List.getElem?_eq_getElem hk]
      have h2 : (lens gs).getD k 0 = 1 := vals_letter _ gs k hk h0
      rw [show i.toNat = 0 from by omega]
      rfl
/-- the letters of a part -/
def partW (gs : List Rl) (i j : Int) : List UInt8 := ((wordAt gs (gs.length - 1)).take j.toNat).drop i.toNat
def strUnpackPart (gs : List Rl) (i j : Int) : ByteArray × Int :=
  if gOk gs then (if 0 ≤ i ∧ i ≤ j ∧ j ≤ (lens gs).getD (gs.length - 1) 0 then (if 2000 < j - i then (⟨#[]⟩, 3) else (⟨(partW gs i j).toArray⟩, 0)) else (⟨#[]⟩, 2)) else (⟨#[]⟩, 1)
theorem partW_len {gs : List Rl} (hok : gOk gs = true) (hg : 0 < gs.length) {i j : Int} (h : 0 ≤ i ∧ i ≤ j ∧ j ≤ (lens gs).getD (gs.length - 1) 0) : ((partW gs i j).length : Int) = j - i := by
  have := wordAt_len hok (show gs.length - 1 < gs.length by omega)
  unfold partW
  rw [List.length_drop, List.length_take]
  omega
end Wd
end Go.Proofs.YtcaeihdfljljbaaDoor
