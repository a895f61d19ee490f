/-
  Contracts and numbers of the functions that the laws of this place call, one text behind the other. No condition beyond those that each theorem names.
-/
import Derived.Test.YtaffachjopjbgaaZ1
import Derived.Test.YtaffachjopjbgaaZ2
import Derived.Test.YtaffachjopjbgaaZ3
import Derived.Test.YtaffachjopjbgaaZ4
import Derived.Test.YtaffachjopjbgaaZ6
import Derived.Test.YtaffachjopjbgaaZ12
import Derived.Deep.AppendLies
import Derived.Deep.RegionHeld3
import Derived.BigRegion
import Derived.Laws.EntriesVeiled
import Derived.Deep.Cut
import Derived.Lib.OthersKept
import Derived.StillTailTactics
import Derived.BigQuiet
import Derived.Deep.DeepCutAuto
import Derived.Deep.RegionLaw
import Derived.Deep.MidRow
namespace Go.Proofs.Ytaffachjopjbgaa
open Go.RowKit
set_option linter.unusedVariables false
namespace Wd
/-- the rule in which one ends that goes down to a place -/
def leafAt (gs : List Rl) : Nat → Nat → Int → Nat
  | 0, k, _ => k
  | f + 1, k, i => if h : k < gs.length then
      (if gs[k].L.size = 0 then (if i < (lens gs).getD gs[k].l.toNat 0 then leafAt gs f gs[k].l.toNat i else leafAt gs f gs[k].r.toNat (i - (lens gs).getD gs[k].l.toNat 0)) else k) else k
theorem leaf_letter {gs : List Rl} {f k : Nat} {i : Int} (hk : k < gs.length) (h0 : gs[k].L.size ≠ 0) : leafAt gs f k i = k := by
  cases f with
  | zero => rfl
  | succ f => rw [leafAt, dif_pos hk, if_neg h0]
theorem leaf_left {gs : List Rl} {f k a : Nat} {i : Int} (hk : k < gs.length) (h0 : gs[k].L.size = 0) (ha : gs[k].l = a) (hi : i < (lens gs).getD a 0) : leafAt gs (f + 1) k i = leafAt gs f a i := by
  rw [leafAt, dif_pos hk, if_pos h0, ha, Int.toNat_natCast, if_pos hi]
theorem leaf_right {gs : List Rl} {f k a b : Nat} {i : Int} (hk : k < gs.length) (h0 : gs[k].L.size = 0) (ha : gs[k].l = a) (hb : gs[k].r = b) (hi : ¬ i < (lens gs).getD a 0) : leafAt gs (f + 1) k i = leafAt gs f b (i - (lens gs).getD a 0) := by
  rw [leafAt, dif_pos hk, if_pos h0, ha, hb, Int.toNat_natCast, Int.toNat_natCast, if_neg hi]
/-- on the way down: rule k, place i -/
def Down (gs : List Rl) (T k : Nat) (i : Int) : Prop := k < gs.length ∧ 0 ≤ i ∧ i ≤ 1000000000000000 ∧ ∃ f, k < f ∧ leafAt gs f k i = T
theorem down_start {gs : List Rl} {n : Nat} {i : Int} (h : gs.length = n + 1) (h0 : 0 ≤ i) (h1 : i ≤ 1000000000000000) : Down gs (leafAt gs gs.length n i) n i := ⟨by omega, h0, h1, gs.length, by omega, rfl⟩
theorem down_step {gs : List Rl} {T k : Nat} {i : Int} (hd : Down gs T k i) (hok : gOk gs = true) (hk : k < gs.length) (h0 : gs[k].L.size = 0) :
    ∃ a b : Nat, gs[k].l = a ∧ gs[k].r = b ∧ a < k ∧ b < k ∧ 1 ≤ (lens gs).getD a 0 ∧ (lens gs).getD a 0 ≤ 1000000000000000 ∧ (i < (lens gs).getD a 0 → Down gs T a i) ∧ (¬ i < (lens gs).getD a 0 → Down gs T b (i - (lens gs).getD a 0)) := by
  have hg := gOk_iff.1 hok
  have hu : UpTo gs k := fun j hj _ => ⟨fits_at hg.2.1 j hj, small_at hg.2.2 j hj⟩
  obtain ⟨a, b, ha, hb, hak, hbk, _, p1, p2, _, _⟩ := lens_next hk hu (fits_at hg.2.1 k hk) h0
  obtain ⟨_, hi0, hi1, f, hf, hT⟩ := hd
  obtain ⟨f, rfl⟩ : ∃ f', f = f' + 1 := ⟨f - 1, by omega⟩
  refine ⟨a, b, ha, hb, hak, hbk, p1, p2, fun hi => ⟨by omega, hi0, hi1, f, by omega, ?_⟩, fun hi => ⟨by omega, by omega, by omega, f, by omega, ?_⟩⟩
  · rw [← leaf_left hk h0 ha hi]; exact hT
  · rw [← leaf_right hk h0 ha hb hi]; exact hT
theorem down_end {gs : List Rl} {T k : Nat} {i : Int} (hd : Down gs T k i) (hk : k < gs.length) (h0 : gs[k].L.size ≠ 0) : T = k := by
  obtain ⟨_, _, _, f, _, hT⟩ := hd
  rw [← hT, leaf_letter hk h0]
/-- a letter's text is its one byte -/
theorem one_byte {L : ByteArray} (h : L.size = 1) : L = ⟨#[L[0]]⟩ := by
  obtain ⟨⟨l⟩⟩ := L
  match l, h with
  | [c], _ => rfl
/-- the answer of LetterAt -/
def letAns (gs : List Rl) (i : Int) : ByteArray × Int :=
  if gOk gs then (if 0 ≤ i ∧ i < (lens gs).getD (gs.length - 1) 0 then (match gs[leafAt gs gs.length (gs.length - 1) i]? with | some x => x.L | none => ⟨#[]⟩, 0) else (⟨#[]⟩, 2)) else (⟨#[]⟩, 1)
end Wd
end Go.Proofs.Ytaffachjopjbgaa
namespace Go.Proofs.Ytaffachjopjbgaa
open Go.RowKit
set_option linter.unusedVariables false
namespace Wd
theorem up_ok {gs : List Rl} (hok : gOk gs = true) (k : Nat) : UpTo gs k := fun j h _ => ⟨fits_at (gOk_iff.1 hok).2.1 j h, small_at (gOk_iff.1 hok).2.2 j h⟩
/-- what a pair of a valid grammar is made of -/
theorem pair_parts {gs : List Rl} {k : Nat} (hok : gOk gs = true) (hk : k < gs.length) (h0 : gs[k].L.size = 0) :
    ∃ a b : Nat, gs[k].l = a ∧ gs[k].r = b ∧ a < k ∧ b < k ∧ (lens gs).getD k 0 = (lens gs).getD a 0 + (lens gs).getD b 0 ∧
      1 ≤ (lens gs).getD a 0 ∧ (lens gs).getD a 0 ≤ 1000000000000000 ∧ 1 ≤ (lens gs).getD b 0 ∧ (lens gs).getD b 0 ≤ 1000000000000000 :=
  lens_next hk (up_ok hok k) (fits_at (gOk_iff.1 hok).2.1 k hk) h0
/-- the word of a rule -/
def wordF (gs : List Rl) : Nat → Nat → List UInt8
  | 0, _ => []
  | f + 1, k => match gs[k]? with
    | some x => if x.L.size = 0 then wordF gs f x.l.toNat ++ wordF gs f x.r.toNat else x.L.data.toList
    | none => []
theorem wordF_pair {gs : List Rl} {f k a b : Nat} (hk : k < gs.length) (h0 : gs[k].L.size = 0) (ha : gs[k].l = a) (hb : gs[k].r = b) : wordF gs (f + 1) k = wordF gs f a ++ wordF gs f b := by
  rw [wordF, List.getElem?_eq_getElem hk]
  simp only [h0, if_true, ha, hb, Int.toNat_natCast]
theorem wordF_letter {gs : List Rl} {f k : Nat} (hk : k < gs.length) (h0 : gs[k].L.size ≠ 0) : wordF gs (f + 1) k = gs[k].L.data.toList := by
  rw [wordF, List.getElem?_eq_getElem hk]
  simp only [h0, if_false]
theorem wordF_len {gs : List Rl} (hok : gOk gs = true) : ∀ f k, k < f → k < gs.length → ((wordF gs f k).length : Int) = (lens gs).getD k 0
  | 0, _, h, _ => by omega
  | f + 1, k, h, hk => by
    by_cases h0 : gs[k].L.size = 0
    · obtain ⟨a, b, ha, hb, hak, hbk, hs, _⟩ := pair_parts hok hk h0
      rw [wordF_pair hk h0 ha hb, List.length_append, hs]
      have h1 := wordF_len hok f a (by omega) (by omega)
      have h2 := wordF_len hok f b (by omega) (by omega)
      omega
    · rw [wordF_letter hk h0]
      have h1 := ((ok_letter h0).1 (fits_at (gOk_iff.1 hok).2.1 k hk)).1.1
      have h2 : (lens gs).getD k 0 = 1 := vals_letter _ gs k hk h0
      rw [h2, Array.length_toList]
      have : gs[k].L.data.size = gs[k].L.size := rfl
      omega
theorem wordF_fuel {gs : List Rl} (hok : gOk gs = true) : ∀ f f' k, k < f → k < f' → k < gs.length → wordF gs f k = wordF gs f' k
  | 0, _, _, h, _, _ => by omega
  | f + 1, 0, _, _, h, _ => by omega
  | f + 1, f' + 1, k, h, h', hk => by
    by_cases h0 : gs[k].L.size = 0
    · obtain ⟨a, b, ha, hb, hak, hbk, hs, _⟩ := pair_parts hok hk h0
      rw [wordF_pair hk h0 ha hb, wordF_pair hk h0 ha hb, wordF_fuel hok f f' a (by omega) (by omega) (by omega), wordF_fuel hok f f' b (by omega) (by omega) (by omega)]
    · rw [wordF_letter hk h0, wordF_letter hk h0]
def wordAt (gs : List Rl) (k : Nat) : List UInt8 := wordF gs (k + 1) k
theorem wordAt_len {gs : List Rl} (hok : gOk gs = true) {k : Nat} (hk : k < gs.length) : ((wordAt gs k).length : Int) = (lens gs).getD k 0 := wordF_len hok _ k (by omega) hk
theorem wordAt_pair {gs : List Rl} (hok : gOk gs = true) {k a b : Nat} (hk : k < gs.length) (h0 : gs[k].L.size = 0) (ha : gs[k].l = a) (hb : gs[k].r = b) (hak : a < k) (hbk : b < k) : wordAt gs k = wordAt gs a ++ wordAt gs b := by
  unfold wordAt
  rw [wordF_pair hk h0 ha hb, wordF_fuel hok k (a + 1) a hak (by omega) (by omega), wordF_fuel hok k (b + 1) b hbk (by omega) (by omega)]
theorem wordAt_letter {gs : List Rl} {k : Nat} (hk : k < gs.length) (h0 : gs[k].L.size ≠ 0) : wordAt gs k = gs[k].L.data.toList := wordF_letter hk h0

/-- the cover of a part -/
def coverF (gs : List Rl) (i j : Int) : Nat → Nat → Int → List Int
  | 0, _, _ => []
  | f + 1, k, s =>
    if s + (lens gs).getD k 0 ≤ i ∨ j ≤ s then [] else if i ≤ s ∧ s + (lens gs).getD k 0 ≤ j then [(k : Int)] else
      match gs[k]? with
      | some x => coverF gs i j f x.l.toNat s ++ coverF gs i j f x.r.toNat (s + (lens gs).getD x.l.toNat 0)
      | none => []
theorem cover_out {gs : List Rl} {i j : Int} {f k : Nat} {s : Int} (h : s + (lens gs).getD k 0 ≤ i ∨ j ≤ s) : coverF gs i j (f + 1) k s = [] := by rw [coverF, if_pos h]
theorem cover_in {gs : List Rl} {i j : Int} {f k : Nat} {s : Int} (h : ¬ (s + (lens gs).getD k 0 ≤ i ∨ j ≤ s)) (h2 : i ≤ s ∧ s + (lens gs).getD k 0 ≤ j) : coverF gs i j (f + 1) k s = [(k : Int)] := by rw [coverF, if_neg h, if_pos h2]
theorem cover_pair {gs : List Rl} {i j : Int} {f k a b : Nat} {s : Int} (hk : k < gs.length) (ha : gs[k].l = a) (hb : gs[k].r = b) (h : ¬ (s + (lens gs).getD k 0 ≤ i ∨ j ≤ s)) (h2 : ¬ (i ≤ s ∧ s + (lens gs).getD k 0 ≤ j)) :
    coverF gs i j (f + 1) k s = coverF gs i j f a s ++ coverF gs i j f b (s + (lens gs).getD a 0) := by
  rw [coverF, if_neg h, if_neg h2, List.getElem?_eq_getElem hk]
  simp only [ha, hb, Int.toNat_natCast]
/-- a rule that is neither in the part nor outside of it is a pair -/
theorem cut_pair {gs : List Rl} {i j s : Int} {k : Nat} (hok : gOk gs = true) (hk : k < gs.length) (h : ¬ (s + (lens gs).getD k 0 ≤ i ∨ j ≤ s)) (h2 : ¬ (i ≤ s ∧ s + (lens gs).getD k 0 ≤ j)) : gs[k].L.size = 0 := by
  by_cases h0 : gs[k].L.size = 0
  · exact h0
  · have h1 : (lens gs).getD k 0 = 1 := vals_letter _ gs k hk h0
    omega
def catW (gs : List Rl) (c : List Int) : List UInt8 := c.flatMap fun k => wordAt gs k.toNat
theorem catW_app (gs : List Rl) (c d : List Int) : catW gs (c ++ d) = catW gs c ++ catW gs d := by simp [catW]
theorem cover_lt {gs : List Rl} (hok : gOk gs = true) (i j : Int) : ∀ f k s, k < f → k < gs.length → ∀ q ∈ coverF gs i j f k s, 0 ≤ q ∧ q < (gs.length : Int)
  | 0, _, _, h, _ => by omega
  | f + 1, k, s, h, hk => by
    intro q hq
    by_cases h1 : s + (lens gs).getD k 0 ≤ i ∨ j ≤ s
    · rw [cover_out h1] at hq; simp at hq
    · by_cases h2 : i ≤ s ∧ s + (lens gs).getD k 0 ≤ j
      · rw [cover_in h1 h2] at hq; simp at hq; omega
      · have h0 := cut_pair hok hk h1 h2
        obtain ⟨a, b, ha, hb, hak, hbk, _⟩ := pair_parts hok hk h0
        rw [cover_pair hk ha hb h1 h2, List.mem_append] at hq
        rcases hq with hq | hq
        · exact cover_lt hok i j f a s (by omega) (by omega) q hq
        · exact cover_lt hok i j f b _ (by omega) (by omega) q hq
theorem cover_word {gs : List Rl} (hok : gOk gs = true) (i j : Int) : ∀ f k s, k < f → k < gs.length → catW gs (coverF gs i j f k s) = ((wordAt gs k).take (j - s).toNat).drop (i - s).toNat
  | 0, _, _, h, _ => by omega
  | f + 1, k, s, h, hk => by
    have hl := wordAt_len hok hk
    by_cases h1 : s + (lens gs).getD k 0 ≤ i ∨ j ≤ s
    · rw [cover_out h1]
      symm
      apply List.drop_eq_nil_of_le
      rw [List.length_take]
      omega
    · by_cases h2 : i ≤ s ∧ s + (lens gs).getD k 0 ≤ j
      · rw [cover_in h1 h2, List.take_of_length_le (by omega), show (i - s).toNat = 0 from by omega]
        simp [catW]
      · have h0 := cut_pair hok hk h1 h2
        obtain ⟨a, b, ha, hb, hak, hbk, hs, _⟩ := pair_parts hok hk h0
        rw [cover_pair hk ha hb h1 h2, catW_app, cover_word hok i j f a s (by omega) (by omega), cover_word hok i j f b _ (by omega) (by omega), wordAt_pair hok hk h0 ha hb hak hbk]
        have la := wordAt_len hok (show a < gs.length by omega)
        generalize wordAt gs a = wa at *
        generalize wordAt gs b = wb at *
        rw [List.take_append, List.drop_append, List.length_take]
        congr 1
        by_cases hm : wa.length ≤ (j - s).toNat
        · rw [Nat.min_eq_right hm, show (j - (s + (lens gs).getD a 0)).toNat = (j - s).toNat - wa.length from by omega, show (i - (s + (lens gs).getD a 0)).toNat = (i - s).toNat - wa.length from by omega]
        · rw [show (j - s).toNat - wa.length = 0 from by omega, show (j - (s + (lens gs).getD a 0)).toNat = 0 from by omega]
          simp
theorem cover_len {gs : List Rl} (hok : gOk gs = true) (i j : Int) : ∀ f k s, k < f → k < gs.length → ((coverF gs i j f k s).length : Int) ≤ (lens gs).getD k 0
  | 0, _, _, h, _ => by omega
  | f + 1, k, s, h, hk => by
    have hp := lens_pos hk fun q hq _ => fits_at (gOk_iff.1 hok).2.1 q hq
    by_cases h1 : s + (lens gs).getD k 0 ≤ i ∨ j ≤ s
    · rw [cover_out h1, List.length_nil]; omega
    · by_cases h2 : i ≤ s ∧ s + (lens gs).getD k 0 ≤ j
      · rw [cover_in h1 h2, List.length_singleton]; omega
      · have h0 := cut_pair hok hk h1 h2
        obtain ⟨a, b, ha, hb, hak, hbk, hs, _⟩ := pair_parts hok hk h0
        rw [cover_pair hk ha hb h1 h2, List.length_append]
        have e1 := cover_len hok i j f a s (by omega) (by omega)
        have e2 := cover_len hok i j f b (s + (lens gs).getD a 0) (by omega) (by omega)
        omega
/-- the letter at a place -/
theorem leaf_word {gs : List Rl} (hok : gOk gs = true) : ∀ f k i, k < f → k < gs.length → 0 ≤ i → i < (lens gs).getD k 0 → (wordF gs f k)[i.toNat]? = (gs[leafAt gs f k i]?).bind fun x => x.L.data.toList[0]?
  | 0, _, _, h, _, _, _ => by omega
  | f + 1, k, i, h, hk, hi0, hi => by
    by_cases h0 : gs[k].L.size = 0
    · obtain ⟨a, b, ha, hb, hak, hbk, hs, _⟩ := pair_parts hok hk h0
      have la := wordF_len hok f a (by omega) (by omega)
      rw [wordF_pair hk h0 ha hb]
      by_cases hia : i < (lens gs).getD a 0
      · rw [leaf_left hk h0 ha hia, List.getElem?_append_left (by omega)]
        exact leaf_word hok f a i (by omega) (by omega) hi0 hia
      · rw [leaf_right hk h0 ha hb hia, List.getElem?_append_right (by omega), ← leaf_word hok f b (i - (lens gs).getD a 0) (by omega) (by omega) (by omega) (by omega)]
        congr 1
        omega
    · rw [wordF_letter hk h0, leaf_letter hk h0, List.getElem?_eq_getElem hk]
      have h2 : (lens gs).getD k 0 = 1 := vals_letter _ gs k hk h0
      rw [show i.toNat = 0 from by omega]
      rfl
/-- the letters of a part -/
def partW (gs : List Rl) (i j : Int) : List UInt8 := ((wordAt gs (gs.length - 1)).take j.toNat).drop i.toNat
def strUnpackPart (gs : List Rl) (i j : Int) : ByteArray × Int :=
  if gOk gs then (if 0 ≤ i ∧ i ≤ j ∧ j ≤ (lens gs).getD (gs.length - 1) 0 then (if 2000 < j - i then (⟨#[]⟩, 3) else (⟨(partW gs i j).toArray⟩, 0)) else (⟨#[]⟩, 2)) else (⟨#[]⟩, 1)
theorem partW_len {gs : List Rl} (hok : gOk gs = true) (hg : 0 < gs.length) {i j : Int} (h : 0 ≤ i ∧ i ≤ j ∧ j ≤ (lens gs).getD (gs.length - 1) 0) : ((partW gs i j).length : Int) = j - i := by
  have := wordAt_len hok (show gs.length - 1 < gs.length by omega)
  unfold partW
  rw [List.length_drop, List.length_take]
  omega
end Wd
end Go.Proofs.Ytaffachjopjbgaa
namespace Go.Proofs.Ytaffachjopjbgaa
open Go.RowKit
set_option linter.unusedVariables false
namespace Wd
/-- what the word of a rule comes to -/
def valF (F : Nat → List Int) (J : List Int → List Int → List Int) (gs : List Rl) : Nat → Nat → List Int
  | 0, _ => []
  | f + 1, k => match gs[k]? with
    | some x => if x.L.size = 0 then J (valF F J gs f x.l.toNat) (valF F J gs f x.r.toNat) else F (ltNo x)
    | none => []
theorem valF_pair {F J} {gs : List Rl} {f k a b : Nat} (hk : k < gs.length) (h0 : gs[k].L.size = 0) (ha : gs[k].l = a) (hb : gs[k].r = b) : valF F J gs (f + 1) k = J (valF F J gs f a) (valF F J gs f b) := by
  rw [valF, List.getElem?_eq_getElem hk]
  simp only [h0, if_true, ha, hb, Int.toNat_natCast]
theorem valF_letter {F J} {gs : List Rl} {f k : Nat} (hk : k < gs.length) (h0 : gs[k].L.size ≠ 0) : valF F J gs (f + 1) k = F (ltNo gs[k]) := by
  rw [valF, List.getElem?_eq_getElem hk]
  simp only [h0, if_false]
theorem valF_fuel {F J} {gs : List Rl} (hfit : fits gs = true) : ∀ f f' k, k < f → k < f' → k < gs.length → valF F J gs f k = valF F J gs f' k
  | 0, _, _, h, _, _ => by omega
  | f + 1, 0, _, _, h, _ => by omega
  | f + 1, f' + 1, k, h, h', hk => by
    by_cases h0 : gs[k].L.size = 0
    · obtain ⟨⟨a1, a2⟩, b1, b2⟩ := (ok_pair h0).1 (fits_at hfit k hk)
      obtain ⟨a, ha⟩ : ∃ a : Nat, gs[k].l = a := ⟨gs[k].l.toNat, by omega⟩
      obtain ⟨b, hb⟩ : ∃ b : Nat, gs[k].r = b := ⟨gs[k].r.toNat, by omega⟩
      rw [valF_pair hk h0 ha hb, valF_pair hk h0 ha hb, valF_fuel hfit f f' a (by omega) (by omega) (by omega), valF_fuel hfit f f' b (by omega) (by omega) (by omega)]
    · rw [valF_letter hk h0, valF_letter hk h0]
def valAt (F : Nat → List Int) (J : List Int → List Int → List Int) (gs : List Rl) (k : Nat) : List Int := valF F J gs (k + 1) k
theorem valAt_pair {F J} {gs : List Rl} (hfit : fits gs = true) {k a b : Nat} (hk : k < gs.length) (h0 : gs[k].L.size = 0) (ha : gs[k].l = a) (hb : gs[k].r = b) (hak : a < k) (hbk : b < k) : valAt F J gs k = J (valAt F J gs a) (valAt F J gs b) := by
  unfold valAt
  rw [valF_pair hk h0 ha hb, valF_fuel hfit k (a + 1) a hak (by omega) (by omega), valF_fuel hfit k (b + 1) b hbk (by omega) (by omega)]
theorem valAt_letter {F J} {gs : List Rl} {k : Nat} (hk : k < gs.length) (h0 : gs[k].L.size ≠ 0) : valAt F J gs k = F (ltNo gs[k]) := valF_letter hk h0
/-- what holds of all values, by the lengths of their words -/
theorem valAt_all {F J} {gs : List Rl} (hok : gOk gs = true) (P : Int → List Int → Prop) (hF : ∀ d, d < 4 → P 1 (F d)) (hJ : ∀ m n u v, 1 ≤ m → 1 ≤ n → P m u → P n v → P (m + n) (J u v)) : ∀ n k, k < n → k < gs.length → P ((lens gs).getD k 0) (valAt F J gs k)
  | 0, _, h, _ => by omega
  | n + 1, k, h, hk => by
    by_cases h0 : gs[k].L.size = 0
    · obtain ⟨a, b, ha, hb, hak, hbk, hs, p1, _, p2, _⟩ := pair_parts hok hk h0
      rw [hs, valAt_pair (gOk_iff.1 hok).2.1 hk h0 ha hb hak hbk]
      exact hJ _ _ _ _ p1 p2 (valAt_all hok P hF hJ n a (by omega) (by omega)) (valAt_all hok P hF hJ n b (by omega) (by omega))
    · have h1 : (lens gs).getD k 0 = 1 := vals_letter _ gs k hk h0
      rw [h1, valAt_letter hk h0]
      obtain ⟨c, _, hc1, hc2, hc3⟩ := letter_byte h0 (fits_at (gOk_iff.1 hok).2.1 k hk)
      exact hF _ (by omega)
/-- the values of the first rules, one behind the other -/
def flV (V : Nat → List Int) (k : Nat) : List Int := (List.range k).flatMap V
theorem flV_zero (V : Nat → List Int) : flV V 0 = [] := rfl
theorem flV_succ (V : Nat → List Int) (k : Nat) : flV V (k + 1) = flV V k ++ V k := by simp [flV, List.range_succ]
theorem flV_len {V : Nat → List Int} {m k : Nat} (h : ∀ j, j < k → (V j).length = m) : (flV V k).length = k * m := by
  induction k with
  | zero => simp [flV_zero]
  | succ k ih => rw [flV_succ, List.length_append, ih (fun j hj => h j (by omega)), h k (by omega), Nat.succ_mul]
theorem flV_get {V : Nat → List Int} {m k : Nat} (h : ∀ j, j < k → (V j).length = m) {j i : Nat} (hj : j < k) (hi : i < m) : (flV V k)[j * m + i]? = some ((V j).getD i 0) := by
  induction k with
  | zero => omega
  | succ k ih =>
    have hl := flV_len (fun j hj => h j (by omega)) (k := k) (V := V) (m := m)
    rw [flV_succ]
    have h3 : j * m + i < (j + 1) * m := by rw [Nat.succ_mul]; omega
    by_cases e : j = k
    · subst e
      rw [List.getElem?_append_right (by omega), hl, show j * m + i - j * m = i from by omega, List.getElem?_eq_getElem (by rw [h j (by omega)]; exact hi), List.getD_eq_getElem?_getD, List.getElem?_eq_getElem (by rw [h j (by omega)]; exact hi)]
      rfl
    · have h4 : (j + 1) * m ≤ k * m := Nat.mul_le_mul_right m (by omega)
      rw [List.getElem?_append_left (by omega)]
      exact ih (fun j hj => h j (by omega)) (by omega)
theorem flV_eq {V U : Nat → List Int} {k : Nat} (h : ∀ j, j < k → V j = U j) : flV V k = flV U k := by
  induction k with
  | zero => rfl
  | succ k ih => rw [flV_succ, flV_succ, ih (fun j hj => h j (by omega)), h k (by omega)]
/-- the join of a list of values -/
def accV (J : List Int → List Int → List Int) (e : List Int) (V : Nat → List Int) (c : List Int) : List Int := c.foldl (fun a q => J a (V q.toNat)) e
theorem accV_snoc (J e V) (c : List Int) (q : Int) : accV J e V (c ++ [q]) = J (accV J e V c) (V q.toNat) := by simp [accV, List.foldl_append]
/-- the whole word's cover is its rule -/
theorem cover_whole {gs : List Rl} (hok : gOk gs = true) (hg : 0 < gs.length) : coverF gs 0 ((lens gs).getD (gs.length - 1) 0) gs.length (gs.length - 1) 0 = [((gs.length - 1 : Nat) : Int)] := by
  have hp := lens_pos (show gs.length - 1 < gs.length by omega) fun q hq _ => fits_at (gOk_iff.1 hok).2.1 q hq
  obtain ⟨n, hn⟩ : ∃ n, gs.length = n + 1 := ⟨gs.length - 1, by omega⟩
  have : ∀ f, f = n + 1 → coverF gs 0 ((lens gs).getD (gs.length - 1) 0) f (gs.length - 1) 0 = [((gs.length - 1 : Nat) : Int)] := fun f hf => by
    subst hf
    exact cover_in (by omega) (by omega)
  exact this _ hn
/-- one number of each value of a beginning's cover, added up -/
def sumC (V : Nat → List Int) (l : Nat) (c : List Int) : Int := (c.map fun q => (V q.toNat).getD l 0).sum
theorem sumC_app (V l) (c d : List Int) : sumC V l (c ++ d) = sumC V l c + sumC V l d := by simp [sumC]
/-- the same from the rules down -/
def rankF (gs : List Rl) (V : Nat → List Int) (l : Nat) : Nat → Nat → Int → Int
  | 0, _, _ => 0
  | f + 1, k, n => if n ≤ 0 then 0 else if (lens gs).getD k 0 ≤ n then (V k).getD l 0 else
    match gs[k]? with
    | some x => if (lens gs).getD x.l.toNat 0 ≤ n then (V x.l.toNat).getD l 0 + rankF gs V l f x.r.toNat (n - (lens gs).getD x.l.toNat 0) else rankF gs V l f x.l.toNat n
    | none => 0
theorem rank_none {gs V l f k n} (h : n ≤ 0) : rankF gs V l (f + 1) k n = 0 := by rw [rankF, if_pos h]
theorem rank_all {gs V l f k n} (h : ¬ n ≤ 0) (h2 : (lens gs).getD k 0 ≤ n) : rankF gs V l (f + 1) k n = (V k).getD l 0 := by rw [rankF, if_neg h, if_pos h2]
theorem rank_right {gs : List Rl} {V l} {f k a b : Nat} {n : Int} (hk : k < gs.length) (ha : gs[k].l = a) (hb : gs[k].r = b) (h : ¬ n ≤ 0) (h2 : ¬ (lens gs).getD k 0 ≤ n) (h3 : (lens gs).getD a 0 ≤ n) : rankF gs V l (f + 1) k n = (V a).getD l 0 + rankF gs V l f b (n - (lens gs).getD a 0) := by
  rw [rankF, if_neg h, if_neg h2, List.getElem?_eq_getElem hk]
  simp only [ha, hb, Int.toNat_natCast, h3, if_true]
theorem rank_left {gs : List Rl} {V l} {f k a : Nat} {n : Int} (hk : k < gs.length) (ha : gs[k].l = a) (h : ¬ n ≤ 0) (h2 : ¬ (lens gs).getD k 0 ≤ n) (h3 : ¬ (lens gs).getD a 0 ≤ n) : rankF gs V l (f + 1) k n = rankF gs V l f a n := by
  rw [rankF, if_neg h, if_neg h2, List.getElem?_eq_getElem hk]
  simp only [ha, Int.toNat_natCast, h3, if_false]
theorem sum_rank {gs : List Rl} (hok : gOk gs = true) (V l) (j : Int) : ∀ f k s, k < f → k < gs.length → 0 ≤ s → sumC V l (coverF gs 0 j f k s) = rankF gs V l f k (j - s)
  | 0, _, _, h, _, _ => by omega
  | f + 1, k, s, h, hk, hs => by
    have hp := lens_pos hk fun q hq _ => fits_at (gOk_iff.1 hok).2.1 q hq
    by_cases h1 : j ≤ s
    · rw [cover_out (.inr h1), rank_none (by omega)]; rfl
    · by_cases h2 : s + (lens gs).getD k 0 ≤ j
      · rw [cover_in (by omega) (by omega), rank_all (by omega) (by omega)]; simp [sumC]
      · have h0 := cut_pair hok hk (i := 0) (j := j) (s := s) (by omega) (by omega)
        obtain ⟨a, b, ha, hb, hak, hbk, hs2, p1, _, p2, _⟩ := pair_parts hok hk h0
        rw [cover_pair hk ha hb (by omega) (by omega), sumC_app, sum_rank hok V l j f a s (by omega) (by omega) hs, sum_rank hok V l j f b _ (by omega) (by omega) (by omega)]
        by_cases h3 : (lens gs).getD a 0 ≤ j - s
        · rw [rank_right hk ha hb (by omega) (by omega) h3, show j - (s + (lens gs).getD a 0) = j - s - (lens gs).getD a 0 from by omega]
          obtain ⟨f', hf'⟩ : ∃ f', f = f' + 1 := ⟨f - 1, by omega⟩
          rw [hf', rank_all (f := f') (k := a) (by omega) h3]
        · rw [rank_left hk ha (by omega) (by omega) h3]
          obtain ⟨f', hf'⟩ : ∃ f', f = f' + 1 := ⟨f - 1, by omega⟩
          rw [hf', rank_none (f := f') (k := b) (by omega)]
          omega
end Wd
end Go.Proofs.Ytaffachjopjbgaa
namespace Go.Proofs.Ytaffachjopjbgaa
open Go.RowKit
open Wd
set_option linter.unusedVariables false
namespace Wd
/-- a pair of two rules -/
def pairR (a b : Nat) : Rl := ⟨⟨#[]⟩, (a : Int), (b : Int)⟩
theorem sumL_app (a b : List Rl) : sumL (a ++ b) = sumL a + sumL b := by simp [sumL]
end Wd
theorem blk3 {w : World} {R : Nat} {t : TypeId} {a b c a' b' c' : Value} (h : w.heap[R]? = some (.cells #[a, b, c] t (0, 0))) :
    (((w.setCell ⟨R, 0, none⟩ a').setCell ⟨R, 1, none⟩ b').setCell ⟨R, 2, none⟩ c').heap[R]? = some (.cells #[a', b', c'] t (0, 0)) := by
  simp [World.setCell, Array.getElem?_modify, h]
theorem blk3_cells {w : World} {R : Nat} {t : TypeId} {a b c : Value} (h : w.heap[R]? = some (.cells #[a, b, c] t (0, 0))) :
    (w.cell? ⟨R, 0, none⟩ = some a ∧ w.cell? ⟨R, 1, none⟩ = some b ∧ w.cell? ⟨R, 2, none⟩ = some c) ∧ w.frozen? ⟨R, 0, none⟩ = false ∧ w.frozen? ⟨R, 1, none⟩ = false ∧ w.frozen? ⟨R, 2, none⟩ = false := by
  refine ⟨⟨?_, ?_, ?_⟩, ?_, ?_, ?_⟩
  · rw [cell_of_row _ _ _ _ _ _ h]; rfl
  · rw [cell_of_row _ _ _ _ _ _ h]; rfl
  · rw [cell_of_row _ _ _ _ _ _ h]; rfl
  · simp [World.frozen?, h]
  · simp [World.frozen?, h]
  · simp [World.frozen?, h]
theorem lastA (A : Option Addr) (n c : Nat) (hn : n ≤ 1048576) (w : World) :
    Calls Try.prog 135 #[.slice A n c] w fun e w' => e = .returned (.int .i64 ((n : Int) - 1)) ∧ w' = w := by
  go_enter Try.func135, Try.ntmps135
  go_wp2
  go_ret
  exact ⟨rfl, rfl⟩

theorem own_var_ne {w : World} {B e n s : Nat} {yv : Value} {xs : List Value} {V : Nat} {u : Value} {t : TypeId} (h : w.ownsRow B e s yv n xs) (hv : Var w V u t) (hne : e ≠ t) : yv.ownBlock ≠ some V := by
  rcases h.2 with ⟨rfl, _⟩ | ⟨g', cap, cur, rfl, _, hh, _⟩
  · simp [Value.ownBlock]
  · intro he
    have : g' = V := by simpa [Value.ownBlock] using he
    subst this
    unfold Var at hv
    rw [hh] at hv
    injection hv with hv
    injection hv with _ ht
    exact hne ht
theorem news3 (w : World) (x : Rl) (t : TypeId) : ∀ j u, (rc x)[j]? = some u → (w.alloc (.cells #[.string x.L, .int .i64 x.l, .int .i64 x.r] t)).cell? ((⟨w.heap.size, 0, none⟩ : Addr).add j) = some u :=
  World.news_of_block (cs := #[.string x.L, .int .i64 x.l, .int .i64 x.r]) (t := t) (fr := (0, 0)) (heap_alloc_new w _)
theorem rc_cell (x : Rl) : ∀ u ∈ rc x, u.oneCell' = true := by
  intro u hu
  simp only [rc, List.mem_cons, List.not_mem_nil, or_false] at hu
  rcases hu with rfl | rfl | rfl <;> rfl
theorem sum_ok {gs : List Rl} (h : gOk gs = true) : sumL gs ≤ gs.length := by
  have hf := (gOk_iff.1 h).2.1
  have : ∀ k, k ≤ gs.length → sumL (gs.take k) ≤ k := by
    intro k
    induction k with
    | zero => intro _; simp [sumL]
    | succ k ih =>
      intro hk
      rw [sumL_take gs k hk]
      have h1 := ih (by omega)
      have h2 := fits_at hf k hk
      have : gs[k].L.size ≤ 1 := by
        by_cases h0 : gs[k].L.size = 0
        · omega
        · have := (ok_letter h0).1 h2; omega
      omega
  have h3 := this gs.length (Nat.le_refl _)
  rwa [List.take_of_length_le (Nat.le_refl _)] at h3
theorem cell_far1 {w : World} {p q : Addr} {u v : Value} (h : w.cell? q = some v) (hne : q.block ≠ p.block) : (w.setCell p u).cell? q = some v :=
  (World.cell?_of_block (a := q) (Below.heap_setCell w p u q.block hne)).trans h

end Go.Proofs.Ytaffachjopjbgaa
namespace Go.Proofs.Ytaffachjopjbgaa
open Go.RowKit
open Wd
set_option linter.unusedVariables false
theorem rowF_getD {f : Nat → Int} {n k : Nat} (h : k < n) : (rowF f n).getD k 0 = f k := by
  rw [List.getD_eq_getElem?_getD, rowF_get h]; rfl
namespace Wd
/-- behind a letter: a letter of p is passed where it is that letter -/
def swF (p : ByteArray) (d : Nat) : List Int := rowF (fun o => if (p.data.toList.getD o 0).toNat = 97 + d then 1 else 0) p.size
/-- behind two words: what the first passes, and then the second -/
def swJ (n : Nat) (u v : List Int) : List Int := rowF (fun o => u.getD o 0 + v.getD ((o + (u.getD o 0).toNat) % n) 0) n
def swOk (n : Nat) (m : Int) (u : List Int) : Prop := u.length = n ∧ ∀ o, o < n → 0 ≤ u.getD o 0 ∧ u.getD o 0 ≤ m
def swAt (p : ByteArray) (gs : List Rl) (k : Nat) : List Int := valAt (swF p) (swJ p.size) gs k
end Wd
theorem swOk_F (p : ByteArray) (d : Nat) : swOk p.size 1 (swF p d) :=
  ⟨rowF_len _ _, fun o ho => by unfold swF; rw [rowF_getD ho]; split <;> omega⟩
theorem swOk_J {n : Nat} {a b : Int} {u v : List Int} (hn : 0 < n) (hu : swOk n a u) (hv : swOk n b v) : swOk n (a + b) (swJ n u v) :=
  ⟨rowF_len _ _, fun o ho => by
    unfold swJ
    rw [rowF_getD ho]
    have h1 := hu.2 o ho
    have h2 := hv.2 _ (Nat.mod_lt (o + (u.getD o 0).toNat) hn)
    omega⟩
theorem swAt_ok {p : ByteArray} {gs : List Rl} (hn : 0 < p.size) (hok : gOk gs = true) {k : Nat} (hk : k < gs.length) : swOk p.size ((lens gs).getD k 0) (swAt p gs k) :=
  valAt_all hok (swOk p.size) (fun d _ => swOk_F p d) (fun _ _ _ _ _ _ hu hv => swOk_J hn hu hv) (k + 1) k (by omega) hk
set_option maxRecDepth 100000 in
set_option maxHeartbeats 1600000 in
theorem cloneW_any (v : Value) (zs : List Int) (w : World) (hn : zs.length ≤ 1048576) (h : IsL w v zs) :
    Calls Try.prog 142 #[v] w fun e w' => ∃ y, e = .returned y ∧ OwnsI w' w.heap.size y zs ∧ Below w.heap.size w w' := by
  obtain ⟨i0, hi, hz0, hz1, hz2⟩ := info_parts Try.info_int64
  have qT : ∀ (w : World) (a : Option Addr) (n c n' c' : Nat), (binOp .eql 22 (.slice a n c) (.slice none n' c')).run Try.prog w = .ok (.bool a.isNone) w := fun w a n c n' c' => Lib.run_eql_slice_nil w _ _ a n c n' c' Try.underlying22
  rcases isL_cases h with ⟨c, rfl, rfl⟩ | ⟨ad, c, rfl, hc⟩
  · clear h
    go_enter Try.func142, Try.ntmps142
    go_wp2
    go_ret
    exact ⟨_, rfl, World.ownsRow_nil _ _ _ _, Below.refl _ _⟩
  · have HC := Lib.hid hc
    have hb := (Below.refl _ w).alloc (Nat.le_refl _) (.cells #[] 2)
    have HB := Lib.hid hb
    have HL := Lib.hid (World.ownsRow_lit (base := w.heap.size) (e := 2) (size := 1) w #[] 0 (Nat.le_refl _) (by decide) rfl)
    clear h hc hb
    go_enter Try.func142, Try.ntmps142
    go_wp2_with (first | (at_builtin; refine wpList_append_own _ rfl _ _ 22 rfl w.heap.size 2 i0 (.int .i64 0) 1 8 Try.underlying22 hi hz0 hz1 hz2 rfl (by decide) _ _ _ rfl HL.out ad zs.length c (iv zs) rfl (by rw [iv_len]; omega) (fun j u hu => (HB.out.cell (lt_of_cell (HC.out j u hu))).trans (HC.out j u hu)) (iv_cell zs) (by unfold maxLen; omega) (by omega) (by simp) ?_))
    intro v' w1 hown hg _
    have HO : Hid (OwnsI w1 w.heap.size v' zs) := Lib.hid (by
      unfold OwnsI
      simpa using hown)
    have HBF := Lib.hid (HB.out.grown hg (by simp) (fun q hq => (HL.out.lt q hq).1))
    clear hown hg
    go_wp2
    go_ret
    exact ⟨_, rfl, HO.out, HBF.out⟩
theorem oneWhereW_any (b : Bool) (w : World) : Calls Try.prog 140 #[.bool b] w fun e w' => e = .returned (.int .i64 (if b then 1 else 0)) ∧ w = w' := by
  cases b
  · go_enter Try.func140, Try.ntmps140
    go_wp2
    go_ret
    exact ⟨rfl, rfl⟩
  · go_enter Try.func140, Try.ntmps140
    go_wp2
    go_ret
    exact ⟨rfl, rfl⟩
/-- a row of the call's own while its numbers are written anew, one behind the other -/
def SwR (w : World) (G c n s : Nat) (f g : Nat → Int) (wr : World) : Prop :=
  wr.ownsRow w.heap.size 2 1 (.slice (some ⟨G, 0, none⟩) n c) n (iv (rowF (fun j => if j < s then f j else g j) n)) ∧ Below w.heap.size w wr
theorem SwR.store {w wr : World} {G c n s : Nat} {f g : Nat → Int} (h : SwR w G c n s f g wr) (hs : s < n) : SwR w G c n (s + 1) f g (wr.setCell ⟨G, s, none⟩ (.int .i64 (f s))) := by
  refine ⟨?_, h.2.setCell ((h.1.lt G rfl).1) _⟩
  have h1 := (h.1.stored s (.int .i64 (f s))).1
  rw [← iv_setU] at h1
  have e : (rowF (fun j => if j < s then f j else g j) n).set s (f s) = rowF (fun j => if j < s + 1 then f j else g j) n := by
    apply List.ext_getElem?
    intro i
    by_cases hi : i < n
    · rw [rowF_get hi]
      by_cases e : i = s
      · subst e
        rw [List.getElem?_set_self (by rw [rowF_len]; exact hi), if_pos (by omega)]
      · rw [List.getElem?_set_ne (fun h => e h.symm), rowF_get hi]
        by_cases h8 : i < s
        · rw [if_pos h8, if_pos (by omega)]
        · rw [if_neg h8, if_neg (by omega)]
    · rw [List.getElem?_eq_none (by rw [List.length_set, rowF_len]; omega), List.getElem?_eq_none (by rw [rowF_len]; omega)]
  rw [e] at h1
  exact h1
theorem SwR.cell {w wr : World} {G c n s k : Nat} {f g : Nat → Int} (h : SwR w G c n s f g wr) (hk : k < n) : wr.cell? ⟨G, k, none⟩ = some (.int .i64 (if k < s then f k else g k)) ∧ wr.frozen? ⟨G, k, none⟩ = false := by
  refine ⟨?_, h.1.frozenAt _⟩
  rw [h.1.cellAt k (by omega), iv_at (by rw [rowF_len]; exact hk), rowF_getD hk]
theorem SwR.own {w wr : World} {G c n : Nat} {f g : Nat → Int} {zs : List Int} (h : SwR w G c n n f g wr) (hz : zs = rowF f n) : OwnsI wr w.heap.size (.slice (some ⟨G, 0, none⟩) n c) zs := by
  subst hz
  unfold OwnsI
  rw [rowF_len]
  have := h.1
  rwa [rowF_congr (g := f) (fun j hj => by rw [if_pos hj])] at this
end Go.Proofs.Ytaffachjopjbgaa
namespace Go.Proofs.Ytaffachjopjbgaa
open Go.RowKit
open Wd
set_option linter.unusedVariables false
theorem SwR.drew {w wr : World} {G c n s : Nat} {f g : Nat → Int} (h : SwR w G c n s f g wr) : SwR w G c n s f g wr.drew := ⟨own_drewN h.1 1, below_drewN h.2 1⟩
theorem abcd_atS (k : Nat) (hk : k < 4) : ((⟨#[97, 98, 99, 100]⟩ : ByteArray)[k]'(by show k < 4; exact hk)).toNat = 97 + k := by
  match k, hk with
  | 0, _ => rfl
  | 1, _ => rfl
  | 2, _ => rfl
  | 3, _ => rfl
theorem getD_byte {p : ByteArray} {s : Nat} (h : s < p.size) : p.data.toList.getD s 0 = p[s]'h := by
  have h2 : s < p.data.toList.length := by simpa using h
  rw [List.getD_eq_getElem?_getD, List.getElem?_eq_getElem h2, Option.getD_some]
  simp
  rfl
set_option maxRecDepth 100000 in
set_option maxHeartbeats 3200000 in
theorem sw1_any (d : Nat) (hd : d < 4) (PB : Nat) (p : ByteArray) (w : World) (hp : p.size ≤ 2000) (h : w.cell? ⟨PB, 0, none⟩ = some (.string p)) :
    Calls Try.prog 139 #[.int .i64 (d : Int), .pointer (some ⟨PB, 0, none⟩)] w fun e w' => ∃ y, e = .returned y ∧ OwnsI w' w.heap.size y (swF p d) ∧ Below w.heap.size w w' := by
  obtain ⟨j0, hj, hy0, hy1, hy2⟩ := info_parts Try.info_int64
  have HH := Lib.hid h
  have had := abcd_atS d hd
  go_enter Try.func139, Try.ntmps139
  go_wp2_with (refine wpList_make_full _ rfl _ _ 22 rfl w.heap.size 2 j0 (.int .i64 0) 1 Try.underlying22 hj hy0 hy1 .i64 .i64 _ _ p.size rfl rfl rfl rfl (by rw [hy2]; omega) (by unfold maxLen; omega) (Nat.le_refl _) ?_)
  intro w1 hown hgr
  obtain ⟨n, hn⟩ : ∃ n, n = p.size := ⟨_, rfl⟩
  have hst : SwR w w.heap.size n n 0 (fun o => if (p.data.toList.getD o 0).toNat = 97 + d then 1 else 0) (fun _ => 0) w1 := by
    refine ⟨?_, below_of_grown hgr⟩
    rw [hn, rowF_congr (g := fun _ => 0) (fun j hj => by rw [if_neg (by omega)]), rowF_zero, ← made_i64]
    simpa using hown
  have HST := Lib.hid hst
  clear hown hgr hst h
  rw [← hn] at hp ⊢
  have HN := Lib.hid hn
  clear hn
  go_wp2_with fail
  obtain ⟨G, hG⟩ : ∃ G, G = w.heap.size := ⟨_, rfl⟩
  have HST : Hid (SwR w G n n 0 (fun o => if (p.data.toList.getD o 0).toNat = 97 + d then 1 else 0) (fun _ => 0) w1) := Lib.hid (by rw [hG]; exact HST.out)
  rw [← hG]
  have HGE := Lib.hid hG
  clear hG
  go_loopw [11] (fun i wr => ∃ s : Nat, s ≤ n ∧ i = .int .i64 s ∧ SwR w G n n s (fun o => if (p.data.toList.getD o 0).toNat = 97 + d then 1 else 0) (fun _ => 0) wr) (fun i _ => n - (intOf i).toNat)
  case atStart => exact ⟨0, Nat.zero_le _, rfl, HST.out⟩
  case round =>
    obtain ⟨s, hs, rfl, hst⟩ := hrel
    obtain ⟨wo, rfl⟩ : ∃ wo : World, wo = wr := ⟨_, rfl⟩
    by_cases hlt : s < n
    · have hsp : s < p.size := by rw [← HN.out]; exact hlt
      have hpc := (hst.2.cell (lt_of_cell HH.out)).trans HH.out
      obtain ⟨c0, f0⟩ := hst.cell hlt
      have HNX := Lib.hid (hst.store hlt)
      have HNX2 := Lib.hid (hst.drew.store hlt)
      have hgb := getD_byte hsp
      have s0 : (0 : Int) ≤ (s : Int) := by omega
      have s1 : (s : Int) < (n : Int) := by omega
      have s2 : (s : Int) < (p.size : Int) := by omega
      have d0 : (0 : Int) ≤ (d : Int) := by omega
      have d1 : (d : Int) < 4 := by omega
      have H1 := Lib.hid (fun b W => oneWhereW_any b W)
      have hGP : G ≠ PB := by have h1 := HGE.out; have h2 := lt_of_cell HH.out; simp only at h2; omega
      have HCS : Hid (∀ v, (wo.setCell ⟨G, s, none⟩ v).cell? ⟨PB, 0, none⟩ = some (.string p)) := Lib.hid (fun v => (World.cell?_of_block (a := ⟨PB, 0, none⟩) (Below.heap_setCell wo ⟨G, s, none⟩ v PB (fun e => hGP e.symm))).trans hpc)
      have HCS2 : Hid (∀ v, (wo.drew.setCell ⟨G, s, none⟩ v).cell? ⟨PB, 0, none⟩ = some (.string p)) := Lib.hid (fun v => (World.cell?_of_block (a := ⟨PB, 0, none⟩) (Below.heap_setCell wo.drew ⟨G, s, none⟩ v PB (fun e => hGP e.symm))).trans hpc)
      obtain ⟨x, hx⟩ : ∃ x, x = (p[s]'hsp).toNat := ⟨_, rfl⟩
      rw [hgb, ← hx] at HNX HNX2
      have hx' := hx.symm
      clear hgb hx
      by_cases e : x = 97 + d
      · rw [if_pos e] at HNX HNX2
        have e1 : ((x : Int) == 97 + (d : Int)) = true := by rw [beq_iff_eq]; omega
        clear e
        go_upto_region 5 with fail
        go_region_held3 (fun w' => w'.cell? ⟨PB, 0, none⟩ = some (.string p))
          (first | exact HCS.out _ | exact HCS2.out _ | go_keep)
          (first
            | (go_at_call 140
               refine (H1.out true _).mono ?_
               rintro e w9 ⟨rfl, rfl⟩))
        all_goals
          go_wp2_with fail
          go_roundw
          all_goals first | exact ⟨s + 1, by omega, by go_num, HNX.out⟩ | exact ⟨s + 1, by omega, by go_num, HNX2.out⟩ | ((repeat apply Exists.intro); exact ⟨⟨s + 1, by omega, by go_num, HNX.out⟩, rfl⟩) | ((repeat apply Exists.intro); exact ⟨⟨s + 1, by omega, by go_num, HNX2.out⟩, rfl⟩) | (simp [intOf]; done) | (simp [intOf]; omega) | omega
      · rw [if_neg e] at HNX HNX2
        have e1 : ((x : Int) == 97 + (d : Int)) = false := by rw [beq_eq_false_iff_ne]; omega
        clear e
        go_upto_region 5 with fail
        go_region_held3 (fun w' => w'.cell? ⟨PB, 0, none⟩ = some (.string p))
          (first | exact HCS.out _ | exact HCS2.out _ | go_keep)
          (first
            | (go_at_call 140
               refine (H1.out false _).mono ?_
               rintro e w9 ⟨rfl, rfl⟩))
        all_goals
          go_wp2_with fail
          go_roundw
          all_goals first | exact ⟨s + 1, by omega, by go_num, HNX.out⟩ | exact ⟨s + 1, by omega, by go_num, HNX2.out⟩ | ((repeat apply Exists.intro); exact ⟨⟨s + 1, by omega, by go_num, HNX.out⟩, rfl⟩) | ((repeat apply Exists.intro); exact ⟨⟨s + 1, by omega, by go_num, HNX2.out⟩, rfl⟩) | (simp [intOf]; done) | (simp [intOf]; omega) | omega
    · obtain rfl : s = n := by omega
      have HOW := Lib.hid (hst.own (zs := swF p d) (by unfold swF; rw [HN.out]))
      have HB := Lib.hid hst.2
      clear hst
      go_wp2_with fail
      go_ret
      exact ⟨_, rfl, HOW.out, HB.out⟩
theorem rowF_self {u : List Int} {n : Nat} (h : u.length = n) : rowF (fun j => u.getD j 0) n = u := by
  apply List.ext_getElem?
  intro i
  by_cases hi : i < n
  · rw [rowF_get hi, List.getD_eq_getElem?_getD, List.getElem?_eq_getElem (by omega)]; rfl
  · rw [List.getElem?_eq_none (by rw [rowF_len]; omega), List.getElem?_eq_none (by omega)]
theorem isL_at {w : World} {a : Value} {u : List Int} {n : Nat} (h : IsL w a u) (hl : u.length = n) (hn : 0 < n) : ∃ (ad : Addr) (c : Nat), a = .slice (some ad) n c ∧ ∀ j, j < n → w.cell? (ad.add j) = some (.int .i64 (u.getD j 0)) := by
  obtain ⟨A, c, rfl, hc⟩ := h
  rcases hc with rfl | ⟨ad, rfl, hc⟩
  · simp at hl; omega
  · refine ⟨ad, c, by rw [hl], fun j hj => ?_⟩
    rw [hc j (by omega), List.getD_eq_getElem?_getD, List.getElem?_eq_getElem (by omega)]; rfl
set_option maxRecDepth 100000 in
set_option maxHeartbeats 3200000 in
theorem sw2_any (PB : Nat) (p : ByteArray) (a b : Value) (u v : List Int) (w : World) (hp0 : 0 < p.size) (hp : p.size ≤ 2000) (hu : swOk p.size 1000000000000000 u) (hv : swOk p.size 1000000000000000 v) (ha : IsL w a u) (hb : IsL w b v) (h : w.cell? ⟨PB, 0, none⟩ = some (.string p)) :
    Calls Try.prog 141 #[a, b, .pointer (some ⟨PB, 0, none⟩)] w fun e w' => ∃ y, e = .returned y ∧ OwnsI w' w.heap.size y (swJ p.size u v) ∧ Below w.heap.size w w' := by
  have HCL := Lib.hid (cloneW_any a u w (by have := hu.1; omega) ha)
  obtain ⟨n, hn⟩ : ∃ n, n = p.size := ⟨_, rfl⟩
  rw [← hn] at hu hv hp hp0 ⊢
  have HN := Lib.hid hn
  obtain ⟨da, ca, rfl, hac⟩ := isL_at ha hu.1 hp0
  obtain ⟨db, cb, rfl, hbc⟩ := isL_at hb hv.1 hp0
  have HAC := Lib.hid hac
  have HBC := Lib.hid hbc
  have HU := Lib.hid hu
  have HV := Lib.hid hv
  have HH := Lib.hid h
  have hn0 : ¬ (n : Int) = 0 := by omega
  clear ha hb hac hbc hu hv h hn
  go_enter Try.func141, Try.ntmps141
  go_wp2_with fail
  refine HCL.out.mono ?_
  rintro e w1 ⟨y, rfl, ho, hB⟩
  obtain ⟨A, c, hA⟩ := own_slice ho
  rw [HU.out.1] at hA
  subst hA
  unfold OwnsI at ho
  rw [HU.out.1] at ho
  obtain ⟨G, rfl, hG1, hG2⟩ := own_addr ho hp0
  obtain ⟨f, hf⟩ : ∃ f : Nat → Int, f = fun o => u.getD o 0 + v.getD ((o + (u.getD o 0).toNat) % n) 0 := ⟨_, rfl⟩
  have HST : Hid (SwR w G c n 0 f (fun j => u.getD j 0) w1) := Lib.hid ⟨by
    rw [rowF_congr (g := fun j => u.getD j 0) (fun j hj => by rw [if_neg (by omega)]), rowF_self HU.out.1]
    exact ho, hB⟩
  have HF := Lib.hid hf
  clear ho hB hG2 hf
  go_wp2_with fail
  go_loopw [13] (fun i wr => ∃ s : Nat, s ≤ n ∧ i = .int .i64 s ∧ SwR w G c n s f (fun j => u.getD j 0) wr) (fun i _ => n - (intOf i).toNat)
  case atStart => exact ⟨0, Nat.zero_le _, rfl, HST.out⟩
  case round =>
    obtain ⟨s, hs, rfl, hst⟩ := hrel
    obtain ⟨wo, rfl⟩ : ∃ wo : World, wo = wr := ⟨_, rfl⟩
    by_cases hlt : s < n
    · have hpc := (hst.2.cell (lt_of_cell HH.out)).trans HH.out
      obtain ⟨c0, f0⟩ := hst.cell hlt
      rw [if_neg (by omega)] at c0
      have HNX := Lib.hid (hst.store hlt)
      have HNX2 := Lib.hid (hst.drew.store hlt)
      have hub := HU.out.2 s hlt
      have hac := (hst.2.cell (lt_of_cell (HAC.out s hlt))).trans (HAC.out s hlt)
      obtain ⟨r, hr⟩ : ∃ r, r = (s + (u.getD s 0).toNat) % n := ⟨_, rfl⟩
      have hrn : r < n := by rw [hr]; exact Nat.mod_lt _ hp0
      have hvb := HV.out.2 r hrn
      have hbc := (hst.2.cell (lt_of_cell (HBC.out r hrn))).trans (HBC.out r hrn)
      have hfs : f s = u.getD s 0 + v.getD r 0 := by rw [HF.out, hr]
      rw [hfs] at HNX HNX2
      obtain ⟨m, hm⟩ : ∃ m : Nat, u.getD s 0 = m := ⟨(u.getD s 0).toNat, by omega⟩
      rw [hm] at c0 hub hac HNX HNX2 hr
      rw [Int.toNat_natCast] at hr
      obtain ⟨z, hz⟩ : ∃ z, z = v.getD r 0 := ⟨_, rfl⟩
      rw [← hz] at hvb hbc HNX HNX2
      have hsum : IntKind.i64.wrap ((s : Int) + (m : Int)) = (s : Int) + (m : Int) := by rw [IntKind.wrap_i64]; omega
      have hrem : ((s : Int) + (m : Int)).tmod (n : Int) = (r : Int) := by
        rw [Int.tmod_eq_emod_of_nonneg (by omega), hr]
        push_cast
        rfl
      have hrw : IntKind.i64.wrap (r : Int) = (r : Int) := by rw [IntKind.wrap_i64]; omega
      have haw : IntKind.i64.wrap ((m : Int) + z) = (m : Int) + z := by rw [IntKind.wrap_i64]; omega
      have s0 : (0 : Int) ≤ (s : Int) := by omega
      have s1 : (s : Int) < (n : Int) := by omega
      have r0 : (0 : Int) ≤ (r : Int) := by omega
      have r1 : (r : Int) < (n : Int) := by omega
      have hpn : (p.size : Int) = (n : Int) := by rw [HN.out]
      clear hst hr hfs hm hz
      go_upto_region 5 with fail
      go_region
      all_goals
        go_wp2_with fail
        go_roundw
      all_goals first | exact ⟨s + 1, by omega, by go_num, HNX.out⟩ | exact ⟨s + 1, by omega, by go_num, HNX2.out⟩ | ((repeat apply Exists.intro); exact ⟨⟨s + 1, by omega, by go_num, HNX.out⟩, rfl⟩) | ((repeat apply Exists.intro); exact ⟨⟨s + 1, by omega, by go_num, HNX2.out⟩, rfl⟩) | (simp [intOf]; done) | (simp [intOf]; omega) | omega
    · obtain rfl : s = n := by omega
      have HOW := Lib.hid (hst.own (zs := swJ s u v) (by unfold swJ; rw [HF.out]))
      have HB := Lib.hid hst.2
      clear hst
      go_wp2_with fail
      go_ret
      exact ⟨_, rfl, HOW.out, HB.out⟩
end Go.Proofs.Ytaffachjopjbgaa
namespace Go.Proofs.Ytaffachjopjbgaa
open Go.RowKit
open Wd
set_option linter.unusedVariables false
abbrev swL (PB : Nat) : Value := .func (.func 139) #[] #[.pointer (some ⟨PB, 0, none⟩)]
abbrev swT (PB : Nat) : Value := .func (.func 141) #[] #[.pointer (some ⟨PB, 0, none⟩)]
abbrev swCnt (A0 : Option Addr) (n0 c0 PB : Nat) : Array Value := #[.slice A0 n0 c0, swL PB, swT PB]
abbrev swZero : Array Value := #[.slice none 0 0, .nilFunc, .nilFunc, .slice none 0 0, .slice none 0 0, .slice none 0 0]
abbrev swAll (A0 : Option Addr) (n0 c0 PB : Nat) (gv lv vv : Value) : Array Value := #[.slice A0 n0 c0, swL PB, swT PB, gv, lv, vv]
theorem size_swFold (A0 : Option Addr) (n0 c0 PB : Nat) (gv lv vv : Value) : (Try.prog.info? 176).map (·.size) = some (swAll A0 n0 c0 PB gv lv vv).size := by
  have : (Try.prog.info? 176).map (·.size) = some 6 := by kernel_rfl
  exact this
theorem und_swFold : ∃ d, Try.prog.underlying 176 = some d ∧ rowD d = true := und_row (by kernel_rfl)
theorem und_swCnt : ∃ d, Try.prog.underlying 174 = some d ∧ rowD d = true := und_row (by kernel_rfl)
theorem size_swCnt (A0 : Option Addr) (n0 c0 PB : Nat) : (Try.prog.info? 174).map (·.size) = some (swCnt A0 n0 c0 PB).size := by
  have : (Try.prog.info? 174).map (·.size) = some 3 := by kernel_rfl
  exact this
/-- rows of numbers, a rule's each -/
def SwRows (w : World) (lo : Nat) (p : ByteArray) (gs : List Rl) (U : List Value) : Prop := ∀ i u, U[i]? = some u → OwnsI w lo u (swAt p gs i)
theorem SwRows.kept {w w' : World} {lo : Nat} {p : ByteArray} {gs : List Rl} {U : List Value} (h : SwRows w lo p gs U) (hb : Below w.heap.size w w') : SwRows w' lo p gs U := fun i u hu => own_below (h i u hu) hb (Nat.le_refl _)
/-- a fold of rows of numbers over rules gv; its lengths and values lie from lo on -/
def IsSw (w : World) (lo : Nat) (A0 : Option Addr) (n0 c0 PB : Nat) (p : ByteArray) (fv gv : Value) (gs : List Rl) : Prop :=
  ∃ lv vv U, fv = .agg (swAll A0 n0 c0 PB gv lv vv) ∧ OwnsI w lo lv (lens gs) ∧ w.ownsRow lo 22 1 vv gs.length U ∧ U.length = gs.length ∧ SwRows w lo p gs U
theorem IsSw.kept {w w' : World} {lo : Nat} {A0 : Option Addr} {n0 c0 PB : Nat} {p : ByteArray} {fv gv : Value} {gs : List Rl} (h : IsSw w lo A0 n0 c0 PB p fv gv gs) (hb : Below w.heap.size w w') : IsSw w' lo A0 n0 c0 PB p fv gv gs := by
  obtain ⟨lv, vv, U, h0, h1, h2, h3, h4⟩ := h
  exact ⟨lv, vv, U, h0, own_below h1 hb (Nat.le_refl _), own_below h2 hb (Nat.le_refl _), h3, h4.kept hb⟩
/-- between two rules: the values lie in block M -/
def SwSt (p : ByteArray) (gs : List Rl) (w4 : World) (M n k : Nat) (vv : Value) (wr : World) : Prop :=
  vv = .slice (some ⟨M, 0, none⟩) k n ∧ (∃ U, U.length = k ∧ wr.ownsRow M 22 1 (.slice (some ⟨M, 0, none⟩) k n) k U ∧ SwRows wr (M + 1) p gs U) ∧ Below M w4 wr
theorem swSt_next {p : ByteArray} {gs : List Rl} {w4 wr w5 w6 : World} {M n k : Nat} {U : List Value} {y : Value} {o : Obj} (hM : M < wr.heap.size) (hU : U.length = k) (hrows : SwRows wr (M + 1) p gs U) (h2 : Below M w4 wr) (hb : Below wr.heap.size wr w5) (hy : OwnsI w5 wr.heap.size y (swAt p gs k))
    (hown : w6.ownsRow M 22 1 (.slice (some ⟨M, 0, none⟩) (k + 1) n) (k + 1) (U ++ [y])) (hg : (w5.alloc o).grownBy w6 (some M)) : SwSt p gs w4 M n (k + 1) (.slice (some ⟨M, 0, none⟩) (k + 1) n) w6 := by
  have hB := h2.trans (hb.mono (Nat.le_of_lt hM))
  have hs := hb.size
  have key : ∀ u zs, OwnsI w5 (M + 1) u zs → OwnsI w6 (M + 1) u zs := fun u zs h => World.ownsRow.kept (World.ownsRow.alloc h o) hg (by
    cases e : u.ownBlock with
    | none => exact .inl rfl
    | some q => exact .inr (fun e' => by have h1 := (h.lt q e).1; injection e' with e'; omega))
  refine ⟨rfl, ⟨U ++ [y], by simp [hU], hown, fun i u hu => ?_⟩, (hB.alloc (by omega) o).grown hg (by simp; omega) (fun q hq => by injection hq with hq; omega)⟩
  by_cases hi : i < U.length
  · rw [List.getElem?_append_left hi] at hu
    exact key _ _ (own_below (hrows i u hu) hb (Nat.le_refl _))
  · rw [List.getElem?_append_right (by omega)] at hu
    have hik : i = k := by
      have h9 := (List.getElem?_eq_some_iff.1 hu).1
      simp at h9
      omega
    subst hik
    rw [show i - U.length = 0 from by omega] at hu
    have : y = u := by simpa using hu
    subst this
    exact key _ _ (own_lower hy (by omega))
theorem s5s {w w' : World} {p1 p2 p3 p4 p5 : Addr} {v1 v2 v3 v4 v5 : Value}
    (h : w.cell? p1 = some v1 ∧ w.cell? p2 = some v2 ∧ w.cell? p3 = some v3 ∧ w.cell? p4 = some v4 ∧ w.cell? p5 = some v5)
    (k : ∀ p v, w.cell? p = some v → w'.cell? p = some v) :
    w'.cell? p1 = some v1 ∧ w'.cell? p2 = some v2 ∧ w'.cell? p3 = some v3 ∧ w'.cell? p4 = some v4 ∧ w'.cell? p5 = some v5 :=
  ⟨k _ _ h.1, k _ _ h.2.1, k _ _ h.2.2.1, k _ _ h.2.2.2.1, k _ _ h.2.2.2.2⟩
set_option maxRecDepth 100000 in
set_option maxHeartbeats 12800000 in
theorem swFold_any (v : Value) (gs : List Rl) (A0 : Option Addr) (n0 c0 PB : Nat) (p : ByteArray) (w : World) (hp0 : 0 < p.size) (hp : p.size ≤ 2000) (hf : FewR gs) (hr : Rules w v gs) (hw : w.cell? ⟨PB, 0, none⟩ = some (.string p)) :
    Calls Try.prog 138 #[.agg #[v], .agg (swCnt A0 n0 c0 PB)] w fun e w' => ∃ fv, e = .returned (.tuple #[.agg fv, .bool (gOk gs)]) ∧ (gOk gs = true → IsSw w' w.heap.size A0 n0 c0 PB p (.agg fv) v gs) ∧ (gOk gs = false → fv = swZero) ∧ Below w.heap.size w w' := by
  obtain ⟨i0, hi, hz0, hz1, hz2⟩ := info_parts Try.info_ints
  obtain ⟨hG, hC, hR, hb, hs3⟩ := al3 w (.cells #[v] 37) (.cells (swCnt A0 n0 c0 PB) 174) (.cells swZero 176)
  have hl1 := len.vlen_any v gs _ hf (hr.kept hb)
  unfold LensPost at hl1
  have HL := Lib.hid hl1
  have HB := Lib.hid hb
  have HH := Lib.hid (And.intro hG (And.intro hC hR))
  have HS3 := Lib.hid hs3
  have HRU := Lib.hid (fun W (hb : Below w.heap.size w W) => hr.kept hb)
  have HWS := Lib.hid (fun W (hb : Below w.heap.size w W) => (hb.cell (p := ⟨PB, 0, none⟩) (lt_of_cell hw)).trans hw)
  have hg0 := cell_of_row _ _ 0 _ _ _ hG
  obtain ⟨Av, cv, rfl, _⟩ := hr
  have hg0 : (((w.alloc (.cells #[.slice Av gs.length cv] 37)).alloc (.cells (swCnt A0 n0 c0 PB) 174)).alloc (.cells swZero 176)).cell? ⟨w.heap.size, 0, none⟩ = some (.slice Av gs.length cv) := hg0
  have HG0 := Lib.hid hg0
  clear hb hl1 hG hC hR hs3 hw
  obtain ⟨d, hu, hd⟩ := und_swFold
  have HU := Lib.hid (And.intro hu hd)
  have HSZ := Lib.hid (fun gv lv vv => size_swFold A0 n0 c0 PB gv lv vv)
  have HSZ0 : Hid ((Try.prog.info? 176).map (·.size) = some swZero.size) := Lib.hid (size_swFold A0 n0 c0 PB (.int .i64 0) (.int .i64 0) (.int .i64 0))
  have HON0 : Hid (swZero.all (·.oneCell') = true) := Lib.hid (by kernel_rfl)
  clear hu hd
  cases hok : gOk gs
  · rw [hok] at HL
    clear hok
    go_enter Try.func138, Try.ntmps138
    go_upto_region 1 with fail
    change Code.wp _ _ _ _ (((w.alloc (.cells #[.slice Av gs.length cv] 37)).alloc (.cells (swCnt A0 n0 c0 PB) 174)).alloc (.cells swZero 176))
    generalize ((w.alloc (.cells #[.slice Av gs.length cv] 37)).alloc (.cells (swCnt A0 n0 c0 PB) 174)).alloc (.cells swZero 176) = w3 at *
    obtain ⟨R, hRe⟩ : ∃ R, R = w.heap.size + 1 + 1 := ⟨_, rfl⟩
    have HRE := Lib.hid hRe
    rw [← hRe]
    rw [show w.heap.size + 2 = R from hRe.symm] at HH
    clear hRe
    go_wp2_with fail
    refine HL.out.mono ?_
    rintro e w4 ⟨x, rfl, _, hB4⟩
    have HB4 := Lib.hid (HB.out.trans (hB4.mono HB.out.size))
    have HR4 := Lib.hid ((hB4.block R (by have := HRE.out; have := HS3.out; omega)).trans HH.out.2.2)
    clear hB4
    go_wp2_with (with_reducible refine wpList_store_row rfl 176 _ _ rfl R _ rfl rfl 176 _ HR4.out HSZ0.out rfl HON0.out ?_)
    refine bodyPost_ret (v := .tuple #[.agg swZero, .bool false]) (results_row_slot rfl _ _ R 176 _ (0, 0) _ rfl (setRow_heap _ R _ swZero _ _ HR4.out) HU.out.1 HU.out.2 HSZ0.out _ rfl) rfl ⟨swZero, rfl, fun h => (by cases h), fun _ => rfl, bSetRow HB4.out (by rw [HRE.out]; omega) _⟩
  · rw [hok] at HL
    have HOK := Lib.hid hok
    have HFIT := Lib.hid (gOk_iff.1 hok).2.1
    have hn400 := gOk_len hok
    clear hok
    go_enter Try.func138, Try.ntmps138
    go_upto_region 1 with fail
    change Code.wp _ _ _ _ (((w.alloc (.cells #[.slice Av gs.length cv] 37)).alloc (.cells (swCnt A0 n0 c0 PB) 174)).alloc (.cells swZero 176))
    generalize ((w.alloc (.cells #[.slice Av gs.length cv] 37)).alloc (.cells (swCnt A0 n0 c0 PB) 174)).alloc (.cells swZero 176) = w3 at *
    obtain ⟨R, hRe⟩ : ∃ R, R = w.heap.size + 1 + 1 := ⟨_, rfl⟩
    have HRE := Lib.hid hRe
    rw [← hRe]
    rw [show w.heap.size + 2 = R from hRe.symm] at HH
    clear hRe
    go_wp2_with fail
    refine HL.out.mono ?_
    rintro e w4 ⟨x, rfl, ho4, hB4⟩
    have ho4 := ho4 trivial
    have HO4 := Lib.hid ho4
    obtain ⟨Ax, cx, rfl⟩ := own_slice ho4
    have HB34 := Lib.hid hB4
    have HB4 := Lib.hid (HB.out.trans (hB4.mono HB.out.size))
    have HR4 := Lib.hid ((hB4.block R (by have := HRE.out; have := HS3.out; omega)).trans HH.out.2.2)
    have HC4 := Lib.hid ((hB4.block (w.heap.size + 1) (by have := HRE.out; have := HS3.out; omega)).trans HH.out.2.1)
    have hg4 := (hB4.cell (p := ⟨w.heap.size, 0, none⟩) (by have := HS3.out; simp only; omega)).trans HG0.out
    have hs4 : w.heap.size + 3 ≤ w4.heap.size := by have := hB4.size; have := HS3.out; omega
    have HG4 := Lib.hid hg4
    obtain ⟨n, hne⟩ : ∃ n, n = gs.length := ⟨_, rfl⟩
    rw [← hne] at hn400 hg4
    have HN := Lib.hid hne
    clear ho4 hB4 hg0
    obtain ⟨M, hM⟩ : ∃ M, M = w4.heap.size := ⟨_, rfl⟩
    have HM := Lib.hid hM
    have hMw : w.heap.size + 3 ≤ M := by rw [hM]; exact hs4
    rw [← hne]
    clear hne hM
    go_wp2_with (first | (at_make; refine wpList_make_own _ rfl _ _ 23 rfl w4.heap.size 22 i0 (.slice none 0 0) 1 Try.underlying23 hi hz0 hz1 .i64 .i64 _ n rfl rfl rfl (by rw [hz2]; omega) (by unfold maxLen; omega) (Nat.le_refl _) ?_))
    intro w5 hown hgr
    have hB5 := below_of_grown hgr
    have hg5 := (hB5.cell (p := ⟨w.heap.size, 0, none⟩) (lt_of_cell HG4.out)).trans HG4.out
    rw [← HN.out] at hg5
    rw [← HM.out] at hown hB5 ⊢
    have HST : Hid (SwSt p gs w4 M n 0 (.slice (some ⟨M, 0, none⟩) 0 n) w5) := Lib.hid ⟨rfl, ⟨[], rfl, hown, fun i u hu => by simp at hu⟩, hB5⟩
    clear hown hgr hB5
    go_wp2_with fail
    clear hg5
    go_loopw [8, 10, 11, 12, 28] (fun vv _ _ _ i wr => ∃ k : Nat, k ≤ n ∧ i = .int .i64 k ∧ SwSt p gs w4 M n k vv wr) (fun _ _ _ _ i _ => n - (intOf i).toNat)
    case atStart => exact ⟨0, Nat.zero_le _, rfl, HST.out⟩
    case round =>
      obtain ⟨k, hk, rfl, hst⟩ := hrel
      obtain ⟨wo, rfl⟩ : ∃ wo : World, wo = wr := ⟨_, rfl⟩
      have HSX := Lib.hid hst
      obtain ⟨rfl, ⟨U, hUl, hown, hrows⟩, hB⟩ := hst
      have hB' : Below w4.heap.size w4 wo := by rw [← HM.out]; exact hB
      have hBw := HB4.out.trans (hB'.mono HB4.out.size)
      have hMl : M < wo.heap.size := (hown.lt M rfl).2
      by_cases hkn : k < n
      · have hkg : k < gs.length := by rw [← HN.out]; exact hkn
        obtain ⟨Ay, cy, hvy, hcy⟩ := HRU.out wo hBw
        injection hvy with hvA _ hvc
        subst hvA hvc
        rcases hcy with hn0 | ⟨g, rfl, hg, hc⟩
        · rw [hn0] at hkg; simp at hkg
        obtain ⟨a0, a1, a2⟩ := rules_cells hc hkg
        have hfit := fits_at HFIT.out k hkg
        have hCo := (hB'.block (w.heap.size + 1) (by omega)).trans HC4.out
        have hc4 := cell_of_row _ _ 1 _ _ _ hCo
        have hc5 := cell_of_row _ _ 2 _ _ _ hCo
        have hc4 : wo.cell? ⟨w.heap.size + 1, 1, none⟩ = some (swL PB) := hc4
        have hc5 : wo.cell? ⟨w.heap.size + 1, 2, none⟩ = some (swT PB) := hc5
        have hCl : w.heap.size + 1 < wo.heap.size := lt_of_cell hc5
        have HRW := Lib.hid hrows
        have HUL := Lib.hid hUl
        have HBM := Lib.hid hB
        have k0 : (0 : Int) ≤ (k : Int) := by omega
        have k1 : (k : Int) < (n : Int) := by omega
        have HOW := Lib.hid hown
        have HBW0 := Lib.hid hBw
        clear hc hB hB' hCo
        by_cases h0 : gs[k].L.size = 0
        · have hp' := (ok_pair h0).1 hfit
          have HK := Lib.hid (fun W => kind_pair gs[k] h0 W)
          have HT1 := tt_pl
          have HT2 := tt_pp
          obtain ⟨a, ha⟩ : ∃ a : Nat, gs[k].l = a := ⟨gs[k].l.toNat, by omega⟩
          obtain ⟨b, hb⟩ : ∃ b : Nat, gs[k].r = b := ⟨gs[k].r.toNat, by omega⟩
          have hak : a < k := by omega
          have hbk : b < k := by omega
          have hoa := swAt_ok (p := p) hp0 HOK.out (k := a) (by omega)
          have hob := swAt_ok (p := p) hp0 HOK.out (k := b) (by omega)
          have hla := small_at (gOk_iff.1 HOK.out).2.2 a (by omega)
          have hlb := small_at (gOk_iff.1 HOK.out).2.2 b (by omega)
          have hvk : swAt p gs k = swJ p.size (swAt p gs a) (swAt p gs b) := valAt_pair HFIT.out hkg h0 ha hb hak hbk
          have ga : U[a]? = some U[a] := List.getElem?_eq_getElem (by omega)
          have gb : U[b]? = some U[b] := List.getElem?_eq_getElem (by omega)
          have xa : wo.cell? ⟨M, a, none⟩ = U[a]? := hown.cellAt a (by omega)
          have xb : wo.cell? ⟨M, b, none⟩ = U[b]? := hown.cellAt b (by omega)
          have hra := hrows a _ ga
          have hrb := hrows b _ gb
          rw [ga] at xa
          rw [gb] at xb
          have HTA := Lib.hid (fun (w6 : World) (y : Value) (h : w6.ownsRow M 22 1 (.slice (some ⟨M, 0, none⟩) (k + 1) n) (k + 1) (U ++ [y])) => (h.cellAt a (by omega)).trans ((List.getElem?_append_left (by omega)).trans ga))
          have HTB := Lib.hid (fun (w6 : World) (y : Value) (h : w6.ownsRow M 22 1 (.slice (some ⟨M, 0, none⟩) (k + 1) n) (k + 1) (U ++ [y])) => (h.cellAt b (by omega)).trans ((List.getElem?_append_left (by omega)).trans gb))
          clear ga gb
          generalize U[a] = ua at *
          generalize U[b] = ub at *
          have HTH := Lib.hid (fun W (hb' : Below wo.heap.size wo W) => sw2_any PB p ua ub (swAt p gs a) (swAt p gs b) W hp0 hp ⟨hoa.1, fun o ho => by have := hoa.2 o ho; omega⟩ ⟨hob.1, fun o ho => by have := hob.2 o ho; omega⟩ (IsL.of_own (own_below hra hb' (Nat.le_refl _))) (IsL.of_own (own_below hrb hb' (Nat.le_refl _))) (HWS.out W (hBw.trans (hb'.mono hBw.size))))
          obtain ⟨Aa, na, ca, rfl⟩ : ∃ A n c, ua = .slice A n c := (own_slice hra).imp fun A ⟨c, e⟩ => ⟨_, c, e⟩
          obtain ⟨Ab, nb, cb, rfl⟩ : ∃ A n c, ub = .slice A n c := (own_slice hrb).imp fun A ⟨c, e⟩ => ⟨_, c, e⟩
          have HVK := Lib.hid hvk
          generalize gs[k] = Rk at *
          obtain ⟨L, l, r⟩ := Rk
          simp only at ha hb a0 a1 a2 HK
          subst ha hb
          have a0' : (0 : Int) ≤ (a : Int) := by omega
          have a1' : (a : Int) < (k : Int) := by omega
          have b0' : (0 : Int) ≤ (b : Int) := by omega
          have b1' : (b : Int) < (k : Int) := by omega
          clear hla hlb hoa hob hra hrb hvk hown hrows hUl hfit h0 hp' hBw
          go_wp2_with fail
          refine (HK.out _).mono ?_
          rintro e w7 ⟨rfl, hB7⟩
          have hb7 := ((Below.refl _ wo).alloc (Nat.le_refl _) (.cells #[.string L, .int .i64 a, .int .i64 b] 127)).trans (hB7.mono (by simp))
          have hb8 := hb7.alloc hb7.size (.cells #[.string L, .int .i64 a, .int .i64 b] 198)
          have kcs := heap_alloc_new w7 (.cells #[.string L, .int .i64 a, .int .i64 b] 198)
          have kc1 : (w7.alloc (.cells #[.string L, .int .i64 a, .int .i64 b] 198)).cell? ⟨w7.heap.size, 1, none⟩ = some (.int .i64 a) := by rw [cell_of_row _ _ _ _ _ _ kcs]; rfl
          have kc2 : (w7.alloc (.cells #[.string L, .int .i64 a, .int .i64 b] 198)).cell? ⟨w7.heap.size, 2, none⟩ = some (.int .i64 b) := by rw [cell_of_row _ _ _ _ _ _ kcs]; rfl
          have HB8 := Lib.hid hb8
          obtain ⟨Kp, hKp⟩ : ∃ Kp, Kp = w7.heap.size := ⟨_, rfl⟩
          have hM7 : wo.heap.size ≤ w7.heap.size := hb7.size
          clear a0 a1 a2 hB7 hb7 kcs
          go_upto_region 14 with fail
          have hKM : Kp ≠ M := by omega
          rw [← hKp] at kc1 kc2 ⊢
          generalize w7.alloc (.cells #[.string L, .int .i64 a, .int .i64 b] 198) = w8 at *
          have c5 := cells_below hb8 _ _ hc5
          have ca0 := cells_below hb8 _ _ xa
          have cb0 := cells_below hb8 _ _ xb
          have HF : Hid (w8.cell? ⟨w.heap.size + 1, 2, none⟩ = some (swT PB) ∧ w8.cell? ⟨Kp, 1, none⟩ = some (.int .i64 (a : Int)) ∧ w8.cell? ⟨Kp, 2, none⟩ = some (.int .i64 (b : Int)) ∧ w8.cell? ⟨M, a, none⟩ = some (.slice Aa na ca) ∧ w8.cell? ⟨M, b, none⟩ = some (.slice Ab nb cb)) := Lib.hid ⟨c5, kc1, kc2, ca0, cb0⟩
          have HTM := Lib.hid (fun m => HTH.out (w8.drewN m) (below_drewN hb8 m))
          clear hKp hM7 hc4 hc5 xa xb
          go_region_held3 (fun w' => w'.cell? ⟨w.heap.size + 1, 2, none⟩ = some (swT PB) ∧ w'.cell? ⟨Kp, 1, none⟩ = some (.int .i64 (a : Int)) ∧ w'.cell? ⟨Kp, 2, none⟩ = some (.int .i64 (b : Int)) ∧ w'.cell? ⟨M, a, none⟩ = some (.slice Aa na ca) ∧ w'.cell? ⟨M, b, none⟩ = some (.slice Ab nb cb))
            (first | go_keep | exact HS9.out | exact HS10.out)
            (first
              | (go_at_call 141
                 refine (HTM.out _).mono ?_
                 rintro e w9 ⟨y, rfl, hy9, hB9⟩
                 have hB9 := below_undrew hB9
                 have HS9 := Lib.hid (s5s HF.out (cells_below hB9))
                 have HB9 := Lib.hid (HB8.out.trans (hB9.mono HB8.out.size))
                 have HY9 : Hid (OwnsI w9 wo.heap.size y (swAt p gs k)) := Lib.hid (by rw [HVK.out]; exact own_lower hy9 HB8.out.size)
                 obtain ⟨A9, c9, rfl⟩ := own_slice hy9
                 clear hB9 hy9)
              | (refine step_append_fits (by rfl) _ _ 23 (by rfl) M 22 i0 1 Try.underlying23 hi hz1 M k n U (by rfl) ?_ ⟨w9.heap.size, 0, none⟩ 1 1 [.slice A9 (swJ p.size (swAt p gs a) (swAt p gs b)).length c9] (by rfl) (by rfl) ?_ (one_slice _ _ _) (by omega) ?_
                 exact World.ownsRow.alloc (own_below HOW.out HB9.out (Nat.le_refl _)) _
                 exact one_new w9 _ _
                 intro w10 hown' hgrow
                 have HN10 := Lib.hid (swSt_next hMl HUL.out HRW.out HBM.out HB9.out HY9.out hown' hgrow)
                 have hkp : ∀ p v, w9.cell? p = some v → p.block ≠ M → w10.cell? p = some v := fun p v h hne => (World.cell?_of_block (hgrow.block p.block (by have := lt_of_cell h; simp; omega) (fun e => hne (by injection e)))).trans ((((Below.refl _ w9).alloc (Nat.le_refl _) _).cell (lt_of_cell h)).trans h)
                 have da := HTA.out _ _ hown'
                 have db := HTB.out _ _ hown'
                 have HS10 := Lib.hid (And.intro (hkp _ _ HS9.out.1 (by simp only; omega)) (And.intro (hkp _ _ HS9.out.2.1 hKM) (And.intro (hkp _ _ HS9.out.2.2.1 hKM) (And.intro da db))))
                 clear hown' hgrow hkp da db))
          go_wp2_with fail
          go_roundw
          all_goals first | exact ⟨k + 1, by omega, by go_num, HN10.out⟩ | ((repeat apply Exists.intro); exact ⟨⟨k + 1, by omega, by go_num, HN10.out⟩, rfl⟩) | (simp [intOf]; done) | (simp [intOf]; omega) | omega
        · obtain ⟨bt, hL, hb1, hb2, hno⟩ := letter_byte h0 hfit
          have HK := Lib.hid (fun W => kind_letter gs[k] h0 W)
          have HT := tt_ll
          obtain ⟨d, hd⟩ : ∃ d : Nat, d = bt.toNat - 97 := ⟨_, rfl⟩
          have hd1 : (bt.toNat : Int) = (d : Int) + 97 := by omega
          have hd4 : d < 4 := by omega
          have HIX := Lib.hid (fun W => idx_letter bt d hd1 hd4 W)
          have hvk : swAt p gs k = swF p d := by
            rw [hd, ← hno]
            exact valAt_letter hkg h0
          have hlt : ∀ W, Below w.heap.size w W → Calls Try.prog 139 #[.int .i64 (d : Int), .pointer (some ⟨PB, 0, none⟩)] W fun e w' => ∃ y, e = .returned y ∧ OwnsI w' W.heap.size y (swF p d) ∧ Below W.heap.size W w' := fun W hb => sw1_any d hd4 PB p W hp (HWS.out W hb)
          have HLT := Lib.hid hlt
          have HVK := Lib.hid hvk
          have HLB := Lib.hid hL
          generalize gs[k] = Rk at *
          clear hown hrows hUl hfit h0 hvk hlt hd hd1 hno hL hb1 hb2 hBw
          go_wp2_with fail
          refine (HK.out _).mono ?_
          rintro e w7 ⟨rfl, hB7⟩
          have hb7 := ((Below.refl _ wo).alloc (Nat.le_refl _) (.cells #[.string Rk.L, .int .i64 Rk.l, .int .i64 Rk.r] 127)).trans (hB7.mono (by simp))
          have hb8 := hb7.alloc hb7.size (.cells #[.string Rk.L, .int .i64 Rk.l, .int .i64 Rk.r] 211)
          have kc0 : (w7.alloc (.cells #[.string Rk.L, .int .i64 Rk.l, .int .i64 Rk.r] 211)).cell? ⟨w7.heap.size, 0, none⟩ = some (.string ⟨#[bt]⟩) := by rw [cell_of_row _ _ _ _ _ _ (heap_alloc_new w7 _), ← HLB.out]; rfl
          have HB8 := Lib.hid hb8
          obtain ⟨Kp, hKp⟩ : ∃ Kp, Kp = w7.heap.size := ⟨_, rfl⟩
          have hM7 : wo.heap.size ≤ w7.heap.size := hb7.size
          clear a0 a1 a2 hB7 hb7
          go_upto_region 11 with fail
          have hKM : Kp ≠ M := by omega
          rw [← hKp] at kc0 ⊢
          generalize w7.alloc (.cells #[.string Rk.L, .int .i64 Rk.l, .int .i64 Rk.r] 211) = w8 at *
          have c4 := cells_below hb8 _ _ hc4
          have HF : Hid (w8.cell? ⟨w.heap.size + 1, 1, none⟩ = some (swL PB) ∧ w8.cell? ⟨Kp, 0, none⟩ = some (.string ⟨#[bt]⟩)) := Lib.hid ⟨c4, kc0⟩
          have HLM := Lib.hid (fun m => HLT.out (w8.drewN m) (below_drewN (HBW0.out.trans (HB8.out.mono HBW0.out.size)) m))
          clear hKp hM7 hc4 hc5 hb8
          go_region_held3 (fun w' => w'.cell? ⟨w.heap.size + 1, 1, none⟩ = some (swL PB) ∧ w'.cell? ⟨Kp, 0, none⟩ = some (.string ⟨#[bt]⟩))
            (first | go_keep | exact HS9.out | exact HS10.out)
            (first
              | (go_at_call 183
                 refine (HIX.out _).mono ?_
                 rintro e w0 ⟨rfl, rfl⟩)
              | (go_at_call 139
                 refine (HLM.out _).mono ?_
                 rintro e w9 ⟨y, rfl, hy9, hB9⟩
                 have hB9 := below_undrew hB9
                 have HS9 := Lib.hid (And.intro (cells_below hB9 _ _ HF.out.1) (cells_below hB9 _ _ HF.out.2))
                 have HB9 := Lib.hid (HB8.out.trans (hB9.mono HB8.out.size))
                 have HY9 : Hid (OwnsI w9 wo.heap.size y (swAt p gs k)) := Lib.hid (by rw [HVK.out]; exact own_lower hy9 HB8.out.size)
                 obtain ⟨A9, c9, rfl⟩ := own_slice hy9
                 clear hB9 hy9)
              | (refine step_append_fits (by rfl) _ _ 23 (by rfl) M 22 i0 1 Try.underlying23 hi hz1 M k n U (by rfl) ?_ ⟨w9.heap.size, 0, none⟩ 1 1 [.slice A9 (swF p d).length c9] (by rfl) (by rfl) ?_ (one_slice _ _ _) (by omega) ?_
                 exact World.ownsRow.alloc (own_below HOW.out HB9.out (Nat.le_refl _)) _
                 exact one_new w9 _ _
                 intro w10 hown' hgrow
                 have HN10 := Lib.hid (swSt_next hMl HUL.out HRW.out HBM.out HB9.out HY9.out hown' hgrow)
                 have hkp : ∀ p v, w9.cell? p = some v → p.block ≠ M → w10.cell? p = some v := fun p v h hne => (World.cell?_of_block (hgrow.block p.block (by have := lt_of_cell h; simp; omega) (fun e => hne (by injection e)))).trans ((((Below.refl _ w9).alloc (Nat.le_refl _) _).cell (lt_of_cell h)).trans h)
                 have HS10 := Lib.hid (And.intro (hkp _ _ HS9.out.1 (by simp only; omega)) (hkp _ _ HS9.out.2 hKM))
                 clear hown' hgrow hkp))
          go_wp2_with fail
          go_roundw
          all_goals first | exact ⟨k + 1, by omega, by go_num, HN10.out⟩ | ((repeat apply Exists.intro); exact ⟨⟨k + 1, by omega, by go_num, HN10.out⟩, rfl⟩) | (simp [intOf]; done) | (simp [intOf]; omega) | omega
      · obtain rfl : k = n := by omega
        have HBW := Lib.hid hBw
        have HRo := Lib.hid ((hB'.block R (by have := HRE.out; omega)).trans HR4.out)
        have HCo := Lib.hid ((hB'.block (w.heap.size + 1) (by omega)).trans HC4.out)
        have hgo := (hB'.cell (p := ⟨w.heap.size, 0, none⟩) (lt_of_cell HG4.out)).trans HG4.out
        have HRW : Hid (w.heap.size ≤ R ∧ R < M) := Lib.hid ⟨by rw [HRE.out]; omega, by rw [HRE.out]; omega⟩
        have HFIN : Hid (IsSw (wo.setRow R (swAll A0 n0 c0 PB (.slice Av gs.length cv) (.slice Ax (lens gs).length cx) (.slice (some ⟨M, 0, none⟩) k k))) w.heap.size A0 n0 c0 PB p (.agg (swAll A0 n0 c0 PB (.slice Av gs.length cv) (.slice Ax (lens gs).length cx) (.slice (some ⟨M, 0, none⟩) k k))) (.slice Av gs.length cv) gs) := Lib.hid (by
          have hs3' := HS3.out
          have g1 : wo.grownBy (wo.setRow R (swAll A0 n0 c0 PB (.slice Av gs.length cv) (.slice Ax (lens gs).length cx) (.slice (some ⟨M, 0, none⟩) k k))) (some R) := grown_setRow wo R _
          have hne : ∀ u zs, OwnsI wo (M + 1) u zs → u.ownBlock = none ∨ u.ownBlock ≠ some R := fun u zs h => by
            cases e : u.ownBlock with
            | none => exact .inl rfl
            | some q => exact .inr (fun e' => by have h1 := (h.lt q e).1; injection e' with e'; have h2 := HRW.out.2; omega)
          refine ⟨_, _, U, rfl, ?_, ?_, by rw [hUl, HN.out], fun i u hu => own_lower (World.ownsRow.kept (hrows i u hu) g1 (hne u _ (hrows i u hu))) (by omega)⟩
          · refine own_lower (World.ownsRow.kept (own_below HO4.out hB' (Nat.le_refl _)) g1 (.inr ?_)) (by omega)
            intro e
            have := (HO4.out.lt R e).1
            have := HRE.out
            omega
          · have ho : wo.ownsRow M 22 1 (.slice (some ⟨M, 0, none⟩) k k) gs.length U := by rw [← HN.out]; exact hown
            refine own_lower (World.ownsRow.kept ho g1 (.inr ?_)) (by omega)
            intro e
            injection e with e
            have := HRW.out.2
            simp only at e
            omega)
        rw [← HN.out] at hgo HFIN
        have HCS := Lib.hid (size_swCnt A0 n0 c0 PB)
        have HSA := Lib.hid (size_swFold A0 n0 c0 PB (.slice Av k cv) (.slice Ax (lens gs).length cx) (.slice (some ⟨M, 0, none⟩) k k))
        have HON : Hid ((swAll A0 n0 c0 PB (.slice Av k cv) (.slice Ax (lens gs).length cx) (.slice (some ⟨M, 0, none⟩) k k)).all (·.oneCell') = true) := Lib.hid (all_oneCell_toArray (cs := [.slice A0 n0 c0, swL PB, swT PB, .slice Av k cv, .slice Ax (lens gs).length cx, .slice (some ⟨M, 0, none⟩) k k]) (by intro v hv; simp only [List.mem_cons, List.not_mem_nil, or_false] at hv; rcases hv with rfl | rfl | rfl | rfl | rfl | rfl <;> rfl))
        obtain ⟨dc, huc, hdc⟩ := und_swCnt
        have HUC := Lib.hid huc
        have HDC := Lib.hid hdc
        clear huc hdc hown hrows hUl hB hB' hBw
        go_wp2_with (first
          | (with_reducible refine wpList_load_rowD HDC.out rfl 174 _ rfl (w.heap.size + 1) rfl 174 _ _ HCo.out HUC.out HCS.out ?_)
          | (with_reducible refine wpList_store_row rfl 176 _ _ rfl R _ rfl rfl 176 _ HRo.out HSA.out rfl HON.out ?_))
        refine bodyPost_ret (v := .tuple #[.agg (swAll A0 n0 c0 PB (.slice Av k cv) (.slice Ax (lens gs).length cx) (.slice (some ⟨M, 0, none⟩) k k)), .bool true]) (results_row_slot rfl _ _ R 176 _ (0, 0) _ rfl (setRow_heap _ R _ _ _ _ HRo.out) HU.out.1 HU.out.2 HSA.out _ rfl) rfl ⟨_, rfl, fun _ => (by rw [← HN.out]; exact HFIN.out), fun h => (by cases h), bSetRow HBW.out HRW.out.1 _⟩
end Go.Proofs.Ytaffachjopjbgaa
namespace Go.Proofs.Ytaffachjopjbgaa
open Go.RowKit
set_option linter.unusedVariables false
namespace Wd
/-- covers are short -/
theorem cover_pre {gs : List Rl} (hok : gOk gs = true) (i j : Int) : ∀ f k s, k < f → k < gs.length → i ≤ s → (coverF gs i j f k s).length ≤ k + 1
  | 0, _, _, h, _, _ => by omega
  | f + 1, k, s, h, hk, hs => by
    by_cases h1 : s + (lens gs).getD k 0 ≤ i ∨ j ≤ s
    · rw [cover_out h1]; simp
    · by_cases h2 : i ≤ s ∧ s + (lens gs).getD k 0 ≤ j
      · rw [cover_in h1 h2]; simp
      · have h0 := cut_pair hok hk h1 h2
        obtain ⟨a, b, ha, hb, hak, hbk, hs2, p1, _, p2, _⟩ := pair_parts hok hk h0
        rw [cover_pair hk ha hb h1 h2, List.length_append]
        obtain ⟨f', hf'⟩ : ∃ f', f = f' + 1 := ⟨f - 1, by omega⟩
        by_cases h3 : s + (lens gs).getD a 0 ≤ j
        · have e2 := cover_pre hok i j f b (s + (lens gs).getD a 0) (by omega) (by omega) (by omega)
          rw [show coverF gs i j f a s = [(a : Int)] from by rw [hf']; exact cover_in (by omega) ⟨hs, h3⟩]
          simp only [List.length_singleton]
          omega
        · have e1 := cover_pre hok i j f a s (by omega) (by omega) hs
          rw [show coverF gs i j f b (s + (lens gs).getD a 0) = [] from by rw [hf']; exact cover_out (.inr (by omega))]
          simp only [List.length_nil]
          omega
theorem cover_suf {gs : List Rl} (hok : gOk gs = true) (i j : Int) : ∀ f k s, k < f → k < gs.length → s + (lens gs).getD k 0 ≤ j → (coverF gs i j f k s).length ≤ k + 1
  | 0, _, _, h, _, _ => by omega
  | f + 1, k, s, h, hk, hs => by
    by_cases h1 : s + (lens gs).getD k 0 ≤ i ∨ j ≤ s
    · rw [cover_out h1]; simp
    · by_cases h2 : i ≤ s ∧ s + (lens gs).getD k 0 ≤ j
      · rw [cover_in h1 h2]; simp
      · have h0 := cut_pair hok hk h1 h2
        obtain ⟨a, b, ha, hb, hak, hbk, hs2, p1, _, p2, _⟩ := pair_parts hok hk h0
        rw [cover_pair hk ha hb h1 h2, List.length_append]
        obtain ⟨f', hf'⟩ : ∃ f', f = f' + 1 := ⟨f - 1, by omega⟩
        by_cases h3 : i ≤ s + (lens gs).getD a 0
        · have e1 := cover_suf hok i j f a s (by omega) (by omega) (by omega)
          rw [show coverF gs i j f b (s + (lens gs).getD a 0) = [(b : Int)] from by rw [hf']; exact cover_in (by omega) ⟨h3, by omega⟩]
          simp only [List.length_singleton]
          omega
        · have e2 := cover_suf hok i j f b (s + (lens gs).getD a 0) (by omega) (by omega) (by omega)
          rw [show coverF gs i j f a s = [] from by rw [hf']; exact cover_out (.inl (by omega))]
          simp only [List.length_nil]
          omega
theorem cover_bd {gs : List Rl} (hok : gOk gs = true) (i j : Int) : ∀ f k s, k < f → k < gs.length → (coverF gs i j f k s).length ≤ 2 * k + 2
  | 0, _, _, h, _ => by omega
  | f + 1, k, s, h, hk => by
    by_cases h1 : s + (lens gs).getD k 0 ≤ i ∨ j ≤ s
    · rw [cover_out h1]; simp
    · by_cases h2 : i ≤ s ∧ s + (lens gs).getD k 0 ≤ j
      · rw [cover_in h1 h2]; simp
      · have h0 := cut_pair hok hk h1 h2
        obtain ⟨a, b, ha, hb, hak, hbk, hs2, p1, _, p2, _⟩ := pair_parts hok hk h0
        rw [cover_pair hk ha hb h1 h2, List.length_append]
        obtain ⟨f', hf'⟩ : ∃ f', f = f' + 1 := ⟨f - 1, by omega⟩
        by_cases h3 : s + (lens gs).getD a 0 ≤ i
        · have e2 := cover_bd hok i j f b (s + (lens gs).getD a 0) (by omega) (by omega)
          rw [show coverF gs i j f a s = [] from by rw [hf']; exact cover_out (.inl h3)]
          simp only [List.length_nil]
          omega
        · by_cases h4 : j ≤ s + (lens gs).getD a 0
          · have e1 := cover_bd hok i j f a s (by omega) (by omega)
            rw [show coverF gs i j f b (s + (lens gs).getD a 0) = [] from by rw [hf']; exact cover_out (.inr h4)]
            simp only [List.length_nil]
            omega
          · have e1 := cover_suf hok i j f a s (by omega) (by omega) (by omega)
            have e2 := cover_pre hok i j f b (s + (lens gs).getD a 0) (by omega) (by omega) (by omega)
            omega
/-- the cover of a part -/
def covA (gs : List Rl) (i j : Int) : List Int := coverF gs i j gs.length (gs.length - 1) 0
theorem covA_lt {gs : List Rl} (hok : gOk gs = true) (hg : 0 < gs.length) (i j : Int) : ∀ q ∈ covA gs i j, 0 ≤ q ∧ q < (gs.length : Int) := cover_lt hok i j _ _ _ (by omega) (by omega)
theorem covA_few {gs : List Rl} (hok : gOk gs = true) (hg : 0 < gs.length) (i j : Int) : (covA gs i j).length ≤ 1048576 := by
  have h1 := cover_bd hok i j gs.length (gs.length - 1) 0 (by omega) (by omega)
  have h2 := gOk_len hok
  unfold covA
  omega
end Wd
end Go.Proofs.Ytaffachjopjbgaa
namespace Go.Proofs.Ytaffachjopjbgaa
open Go.RowKit
set_option linter.unusedVariables false
namespace Wd
def lenC (gs : List Rl) (c : List Int) : Int := (c.map fun q => (lens gs).getD q.toNat 0).sum
theorem lenC_app (gs) (c d : List Int) : lenC gs (c ++ d) = lenC gs c + lenC gs d := by simp [lenC]
theorem lenC_cover {gs : List Rl} (hok : gOk gs = true) (i j : Int) : ∀ f k s, k < f → k < gs.length → lenC gs (coverF gs i j f k s) ≤ (lens gs).getD k 0
  | 0, _, _, h, _ => by omega
  | f + 1, k, s, h, hk => by
    have hp := lens_pos hk fun q hq _ => fits_at (gOk_iff.1 hok).2.1 q hq
    by_cases h1 : s + (lens gs).getD k 0 ≤ i ∨ j ≤ s
    · rw [cover_out h1, show lenC gs [] = 0 from rfl]; omega
    · by_cases h2 : i ≤ s ∧ s + (lens gs).getD k 0 ≤ j
      · rw [cover_in h1 h2]; simp [lenC]
      · have h0 := cut_pair hok hk h1 h2
        obtain ⟨a, b, ha, hb, hak, hbk, hs, _⟩ := pair_parts hok hk h0
        rw [cover_pair hk ha hb h1 h2, lenC_app]
        have e1 := lenC_cover hok i j f a s (by omega) (by omega)
        have e2 := lenC_cover hok i j f b (s + (lens gs).getD a 0) (by omega) (by omega)
        omega
theorem lenC_pos {gs : List Rl} (hok : gOk gs = true) : ∀ c : List Int, (∀ q ∈ c, 0 ≤ q ∧ q < (gs.length : Int)) → 0 ≤ lenC gs c
  | [], _ => by simp [lenC]
  | q :: c, h => by
    have h1 := lenC_pos hok c fun x hx => h x (by simp [hx])
    have hq := h q (by simp)
    have hp := lens_pos (gs := gs) (k := q.toNat) (by omega) fun q hq _ => fits_at (gOk_iff.1 hok).2.1 q hq
    simp only [lenC, List.map_cons, List.sum_cons] at h1 ⊢
    omega
theorem lenC_take {gs : List Rl} (hok : gOk gs = true) {c : List Int} (h : ∀ q ∈ c, 0 ≤ q ∧ q < (gs.length : Int)) (m : Nat) : lenC gs (c.take m) ≤ lenC gs c := by
  have h1 := lenC_app gs (c.take m) (c.drop m)
  rw [List.take_append_drop] at h1
  have h2 := lenC_pos hok (c.drop m) fun q hq => h q (List.mem_of_mem_drop hq)
  omega
/-- bounds of what is joined so far -/
theorem acc_all {gs : List Rl} {J : List Int → List Int → List Int} {V : Nat → List Int} (P : Int → List Int → Prop) (hJ : ∀ m n u v, 0 ≤ m → 1 ≤ n → P m u → P n v → P (m + n) (J u v)) (hV : ∀ k, k < gs.length → 1 ≤ (lens gs).getD k 0 ∧ P ((lens gs).getD k 0) (V k)) :
    ∀ (c : List Int) (m : Int) (e : List Int), 0 ≤ m → (∀ q ∈ c, 0 ≤ q ∧ q < (gs.length : Int)) → P m e → P (m + lenC gs c) (accV J e V c)
  | [], m, e, _, _, he => by simpa [lenC, accV] using he
  | q :: c, m, e, hm, h, he => by
    have hq := h q (by simp)
    have hv := hV q.toNat (by omega)
    have := acc_all P hJ hV c (m + (lens gs).getD q.toNat 0) (J e (V q.toNat)) (by omega) (fun x hx => h x (by simp [hx])) (hJ _ _ _ _ hm hv.1 he hv.2)
    simp only [lenC, List.map_cons, List.sum_cons, accV, List.foldl_cons] at this ⊢
    rwa [← Int.add_assoc]
theorem acc_take (J e V) (c : List Int) (m : Nat) (h : m < c.length) : accV J e V (c.take (m + 1)) = J (accV J e V (c.take m)) (V (c[m]).toNat) := by
  rw [List.take_succ_eq_append_getElem h, accV_snoc]
theorem covA_len {gs : List Rl} (hok : gOk gs = true) (hg : 0 < gs.length) (i j : Int) : lenC gs (covA gs i j) ≤ (lens gs).getD (gs.length - 1) 0 := lenC_cover hok i j _ _ _ (by omega) (by omega)
end Wd
end Go.Proofs.Ytaffachjopjbgaa
namespace Go.Proofs.Ytaffachjopjbgaa
open Go.RowKit
open Wd
set_option linter.unusedVariables false

abbrev takeV (bl bi bj bc br bt : Nat) : Value := .func (.func 232) #[] #[.pointer (some ⟨bl, 0, none⟩), .pointer (some ⟨bi, 0, none⟩), .pointer (some ⟨bj, 0, none⟩), .pointer (some ⟨bc, 0, none⟩), .pointer (some ⟨br, 0, none⟩), .pointer (some ⟨bt, 0, none⟩)]
/-- what the closure has captured -/
structure TStC (B bl bi bj bc br bt : Nat) (i j : Int) (gs : List Rl) (cov : List Int) (w : World) : Prop where
  l : ∃ L c, w.cell? ⟨bl, 0, none⟩ = some (.slice (some ⟨L, 0, none⟩) gs.length c) ∧ L < B ∧ ∀ k, k < gs.length → w.cell? ⟨L, k, none⟩ = some (.int .i64 ((lens gs).getD k 0))
  i : w.cell? ⟨bi, 0, none⟩ = some (.int .i64 i)
  j : w.cell? ⟨bj, 0, none⟩ = some (.int .i64 j)
  r : ∃ v, w.cell? ⟨br, 0, none⟩ = some v ∧ RulesU B w v gs
  t : Var w bt (takeV bl bi bj bc br bt) 268
  c : ∃ yv, Var w bc yv 22 ∧ w.ownsRow B 2 1 yv cov.length (iv cov)
  hl : bl < B
  hi : bi < B
  hj : bj < B
  hr : br < B
  hc : B ≤ bc
  ht : B ≤ bt
  htc : bt ≠ bc
  hs : B ≤ w.heap.size
abbrev Oth64 (b : Nat) (w w' : World) : Prop := Lib.OthersKept 2 (some b) w w'
theorem rulesU_kept' {B : Nat} {w w' : World} {v : Value} {gs : List Rl} (h : RulesU B w v gs) (hb : Below B w w') : RulesU B w' v gs := by
  obtain ⟨A, c, hv, h | ⟨g, hA, hg, hc⟩⟩ := h
  · exact ⟨A, c, hv, .inl h⟩
  · exact ⟨A, c, hv, .inr ⟨g, hA, hg, fun j u hu => by rw [World.cell?_of_block (a := ⟨g, j, none⟩) (hb.block g hg)]; exact hc j u hu⟩⟩
theorem cell_b {B : Nat} {w w' : World} (hb : Below B w w') {x o : Nat} {v : Value} (hx : x < B) (h : w.cell? ⟨x, o, none⟩ = some v) : w'.cell? ⟨x, o, none⟩ = some v := by
  rw [World.cell?_of_block (a := ⟨x, o, none⟩) (hb.block x hx)]; exact h
theorem oth_belowT {e : TypeId} {o : Option Nat} {w w' : World} (hb : Below w.heap.size w w') : Lib.OthersKept e o w w' := fun k x hk _ _ => (hb.block k (Array.getElem?_eq_some_iff.1 hk).1).trans hk
theorem var_set {w : World} {b : Nat} {v : Value} {t : TypeId} (h : Var w b v t) (u : Value) : Var (w.setCell ⟨b, 0, none⟩ u) b u t := by
  unfold Var at h ⊢
  simp [World.setCell, Array.getElem?_modify, h]
/-- new variables and a new cover, the rest being as it was -/
theorem TStC.next {B bl bi bj bc br bt : Nat} {i j : Int} {gs : List Rl} {cov cov' : List Int} {w w' : World} (h : TStC B bl bi bj bc br bt i j gs cov w) (hb : Below B w w')
    (ht : Var w' bt (takeV bl bi bj bc br bt) 268) (hc : ∃ yv, Var w' bc yv 22 ∧ w'.ownsRow B 2 1 yv cov'.length (iv cov')) : TStC B bl bi bj bc br bt i j gs cov' w' := by
  obtain ⟨L, c, h1, h2, h3⟩ := h.l
  obtain ⟨v, r1, r2⟩ := h.r
  exact ⟨⟨L, c, cell_b hb h.hl h1, h2, fun k hk => cell_b hb h2 (h3 k hk)⟩, cell_b hb h.hi h.i, cell_b hb h.hj h.j, ⟨v, cell_b hb h.hr r1, rulesU_kept' r2 hb⟩, ht, hc, h.hl, h.hi, h.hj, h.hr, h.hc, h.ht, h.htc, Nat.le_trans h.hs hb.size⟩
theorem TStC.kept {B bl bi bj bc br bt : Nat} {i j : Int} {gs : List Rl} {cov : List Int} {w w' : World} (h : TStC B bl bi bj bc br bt i j gs cov w) (hb : Below w.heap.size w w') : TStC B bl bi bj bc br bt i j gs cov w' := by
  obtain ⟨yv, c1, c2⟩ := h.c
  exact h.next (hb.mono h.hs) (h.t.kept hb) ⟨yv, c1.kept hb, own_below c2 hb (Nat.le_refl _)⟩
def TkPost (B bl bi bj bc br bt : Nat) (i j : Int) (gs : List Rl) (cov : List Int) (W : World) (e : Ending) (w' : World) : Prop :=
  e = .returned (.tuple #[]) ∧ TStC B bl bi bj bc br bt i j gs cov w' ∧ Below B W w' ∧ Oth64 bc W w'
abbrev TkArgs (bl bi bj bc br bt : Nat) (k : Nat) (s : Int) : Array Value := #[.int .i64 k, .int .i64 s, .pointer (some ⟨bl, 0, none⟩), .pointer (some ⟨bi, 0, none⟩), .pointer (some ⟨bj, 0, none⟩), .pointer (some ⟨bc, 0, none⟩), .pointer (some ⟨br, 0, none⟩), .pointer (some ⟨bt, 0, none⟩)]

set_option maxRecDepth 100000 in
set_option maxHeartbeats 1600000 in
theorem take_out (B bl bi bj bc br bt : Nat) (i j : Int) (gs : List Rl) (cov : List Int) (k : Nat) (s E : Int) (W : World) (hk : k < gs.length) (hn : gs.length ≤ 400) (hE : E = (lens gs).getD k 0) (hE0 : 0 ≤ E ∧ E ≤ 1000000000000000) (hs0 : 0 ≤ s ∧ s ≤ 1000000000000000)
    (h : TStC B bl bi bj bc br bt i j gs cov W) (h1 : s + E ≤ i ∨ j ≤ s) :
    Calls Try.prog 232 (TkArgs bl bi bj bc br bt k s) W (TkPost B bl bi bj bc br bt i j gs cov W) := by
  obtain ⟨L, c, l1, l2, l3⟩ := h.l
  have l4 := l3 k hk
  rw [← hE] at l4
  have ci := h.i
  have cj := h.j
  have HE := Lib.hid (show TkPost B bl bi bj bc br bt i j gs cov W (.returned (.tuple #[])) W from ⟨rfl, h, Below.refl _ _, Lib.OthersKept.refl _ _ _⟩)
  unfold TkArgs
  clear h hE l3
  by_cases h2 : s + E ≤ i
  · clear h1
    go_enter Try.func232, Try.ntmps232
    go_wp2_with fail
    go_end0
    exact HE.out
  · have h3 : j ≤ s := by omega
    have h2d : decide (s + E ≤ i) = false := decide_eq_false h2
    clear h1
    go_enter Try.func232, Try.ntmps232
    go_wp2_with fail
    go_end0
    exact HE.out

set_option maxRecDepth 100000 in
set_option maxHeartbeats 3200000 in
theorem take_in (B bl bi bj bc br bt : Nat) (i j : Int) (gs : List Rl) (cov : List Int) (k : Nat) (s E : Int) (W : World) (hk : k < gs.length) (hn : gs.length ≤ 400) (hE : E = (lens gs).getD k 0) (hE0 : 0 ≤ E ∧ E ≤ 1000000000000000) (hs0 : 0 ≤ s ∧ s ≤ 1000000000000000)
    (h : TStC B bl bi bj bc br bt i j gs cov W) (hl : cov.length ≤ 1048576) (h1 : ¬ (s + E ≤ i ∨ j ≤ s)) (h2 : i ≤ s ∧ s + E ≤ j) :
    Calls Try.prog 232 (TkArgs bl bi bj bc br bt k s) W (TkPost B bl bi bj bc br bt i j gs (cov ++ [(k : Int)]) W) := by
  obtain ⟨i0, hi, hz0, hz1, hz2⟩ := info_parts Try.info_i64
  obtain ⟨L, c, l1, l2, l3⟩ := h.l
  have l4 := l3 k hk
  rw [← hE] at l4
  have ci := h.i
  have cj := h.j
  obtain ⟨yv, c1, c2⟩ := h.c
  obtain ⟨yc, yf⟩ := c1.cell
  have hBs := h.hs
  have HT := Lib.hid h
  have HO := Lib.hid c2
  have HV := Lib.hid c1
  obtain ⟨Ay, cy, rfl⟩ := own_slice c2
  have d1 : decide (s + E ≤ i) = false := decide_eq_false (by omega)
  have d2 : decide (j ≤ s) = false := decide_eq_false (by omega)
  have e1 : i ≤ s := h2.1
  have e2 : s + E ≤ j := h2.2
  unfold TkArgs
  clear h hE l3 c1 c2 h1 h2
  go_enter Try.func232, Try.ntmps232
  go_wp2_with (first | (at_builtin; refine wpList_append_own _ rfl _ _ 22 rfl B 2 i0 (.int .i64 0) 1 8 Try.underlying22 hi hz0 hz1 hz2 rfl (by decide) _ _ _ rfl (World.ownsRow.alloc HO.out _) ⟨W.heap.size, 0, none⟩ 1 1 [.int .i64 (k : Int)] rfl rfl (one_new _ _ _) (one_int _ _) (by unfold maxLen; omega) (by omega) (by simp; omega) ?_))
  intro v' w1 hown hgr _
  obtain ⟨A3, c3, rfl⟩ := own_slice hown
  have hne := own_var_ne HO.out HV.out (by decide)
  have hba : Below W.heap.size W (W.alloc (.cells #[.int .i64 (k : Int)] 2)) := (Below.refl _ W).alloc (Nat.le_refl _) _
  have v1 : Var w1 bc (.slice Ay cov.length cy) 22 := (hgr.block bc (Nat.lt_of_lt_of_le HV.out.lt hba.size) (fun e => hne e.symm)).trans (HV.out.kept hba)
  obtain ⟨x0, x1⟩ := v1.cell
  have hB1 : Below B W w1 := (hba.mono hBs).grown hgr (Nat.le_trans hBs hba.size) (fun q hq => (HO.out.lt q hq).1)
  have ho1 : Oth64 bc W w1 := (oth_belowT hba).grown hgr (fun g hg => by
    rcases HO.out.2 with ⟨hn0, _⟩ | ⟨g', cap, cur, hv, _, hgg, _⟩
    · rw [hn0] at hg; simp [Value.ownBlock] at hg
    · rw [hv] at hg
      have : g' = g := by simpa [Value.ownBlock] using hg
      subst this
      exact ⟨cur, (0, 0), (hba.block _ (Array.getElem?_eq_some_iff.1 hgg).1).trans hgg⟩)
  have vt : Var w1 bt (takeV bl bi bj bc br bt) 268 := (hgr.block bt (Nat.lt_of_lt_of_le HT.out.t.lt hba.size) (fun e => own_var_ne HO.out HT.out.t (by decide) e.symm)).trans (HT.out.t.kept hba)
  have HE : Hid (TkPost B bl bi bj bc br bt i j gs (cov ++ [(k : Int)]) W (.returned (.tuple #[])) (w1.setCell ⟨bc, 0, none⟩ (.slice A3 (cov.length + 1) c3))) := Lib.hid (by
    have hB2 : Below B W (w1.setCell ⟨bc, 0, none⟩ (.slice A3 (cov.length + 1) c3)) := hB1.setCell (p := ⟨bc, 0, none⟩) HT.out.hc _
    have hown' : w1.ownsRow B 2 1 (.slice A3 (cov.length + 1) c3) (cov ++ [(k : Int)]).length (iv (cov ++ [(k : Int)])) := by
      rw [List.length_append, iv_app]; exact hown
    have hne' := own_var_ne hown' v1 (by decide)
    refine ⟨rfl, HT.out.next hB2 (vt.far _ _ HT.out.htc) ⟨_, var_set v1 _, World.ownsRow.kept hown' (only_setCell (World.grownBy.refl w1 (some bc)) (p := ⟨bc, 0, none⟩) (.inl rfl) _) (.inr hne')⟩, hB2, ho1.setCell ⟨bc, 0, none⟩ rfl _⟩)
  clear hown hgr v1 hB1 ho1 vt hba
  go_wp2_with fail
  go_end0
  exact HE.out
end Go.Proofs.Ytaffachjopjbgaa
namespace Go.Proofs.Ytaffachjopjbgaa
open Go.RowKit
open Wd
set_option linter.unusedVariables false

set_option maxRecDepth 100000 in
set_option maxHeartbeats 6400000 in
theorem take_cut (B bl bi bj bc br bt : Nat) (i j : Int) (gs : List Rl) (cov cov1 cov2 : List Int) (k x y : Nat) (s E Ex : Int) (W : World) (hk : k < gs.length) (hn : gs.length ≤ 400) (hE : E = (lens gs).getD k 0) (hE0 : 0 ≤ E ∧ E ≤ 1000000000000000) (hs0 : 0 ≤ s ∧ s ≤ 1000000000000000)
    (h0 : gs[k].L.size = 0) (hx : gs[k].l = x) (hy : gs[k].r = y) (hxk : x < k) (hyk : y < k) (hEx : Ex = (lens gs).getD x 0) (hEx0 : 0 ≤ Ex ∧ Ex ≤ 1000000000000000)
    (h : TStC B bl bi bj bc br bt i j gs cov W) (h1 : ¬ (s + E ≤ i ∨ j ≤ s)) (h2 : ¬ (i ≤ s ∧ s + E ≤ j))
    (c1 : ∀ w, TStC B bl bi bj bc br bt i j gs cov w → Calls Try.prog 232 (TkArgs bl bi bj bc br bt x s) w (TkPost B bl bi bj bc br bt i j gs cov1 w))
    (c2 : ∀ w, TStC B bl bi bj bc br bt i j gs cov1 w → Calls Try.prog 232 (TkArgs bl bi bj bc br bt y (s + Ex)) w (TkPost B bl bi bj bc br bt i j gs cov2 w)) :
    Calls Try.prog 232 (TkArgs bl bi bj bc br bt k s) W (TkPost B bl bi bj bc br bt i j gs cov2 W) := by
  obtain ⟨L, c, l1, l2, l3⟩ := h.l
  have l4 := l3 k hk
  rw [← hE] at l4
  have l5 := l3 x (by omega)
  rw [← hEx] at l5
  have ci := h.i
  have cj := h.j
  have hBs := h.hs
  have hbcl : bc < W.heap.size := by obtain ⟨_, v, _⟩ := h.c; exact v.lt
  have ctk := h.t.cell.1
  obtain ⟨v, r1, A, cr, rfl, hr⟩ := h.r
  rcases hr with hr | ⟨g, rfl, hg, hc⟩
  · rw [hr] at hk; simp at hk
  obtain ⟨a0, a1, a2⟩ := rules_cells hc hk
  rw [hx] at a1
  rw [hy] at a2
  have HT := Lib.hid h
  have HC1 := Lib.hid c1
  have HC2 := Lib.hid c2
  have HL1 := Lib.hid l1
  have HL5 := Lib.hid l5
  have d1 : decide (s + E ≤ i) = false := decide_eq_false (by omega)
  have d2 : decide (j ≤ s) = false := decide_eq_false (by omega)
  have he := empty_arr h0
  rw [he] at a0
  have HBA := Lib.hid (fun W' (hb : Below W.heap.size W W') => HT.out.kept hb)
  have hq1 : (0 : Int) ≤ (x : Int) := by omega
  have hq2 : (x : Int) < (gs.length : Int) := by omega
  unfold TkArgs
  have h2' : ¬ i ≤ s ∨ (i ≤ s ∧ ¬ s + E ≤ j) := by
    by_cases h3 : i ≤ s
    · exact .inr ⟨h3, fun h4 => h2 ⟨h3, h4⟩⟩
    · exact .inl h3
  have hb2 : Below W.heap.size W (W.alloc (.cells #[.string ⟨#[]⟩, .int .i64 (x : Int), .int .i64 (y : Int)] 127)) := (Below.refl _ W).alloc (Nat.le_refl _) _
  have HB2 := Lib.hid hb2
  have ct2 := (HT.out.kept hb2).t.cell.1
  have hbt : bt < W.heap.size := HT.out.t.lt
  clear h c1 c2 h0 h1 h2 hE hEx l3 hc hx hy hb2
  rcases h2' with h3 | ⟨h3, h4⟩
  · have d3 : decide (i ≤ s) = false := decide_eq_false h3
    go_enter Try.func232, Try.ntmps232
    go_wp2_with fail
    have HV := Lib.hid (heap_alloc_new W (.cells #[.string ⟨#[]⟩, .int .i64 (x : Int), .int .i64 (y : Int)] 127))
    have HT2 := Lib.hid (HBA.out _ HB2.out)
    obtain ⟨V, hV⟩ : ∃ V, V = W.heap.size := ⟨_, rfl⟩
    rw [← hV] at HV ⊢
    have hVc : some V ≠ some bc := fun e => by have : V = bc := Option.some.inj e; omega
    generalize W.alloc (.cells #[.string ⟨#[]⟩, .int .i64 (x : Int), .int .i64 (y : Int)] 127) = w2 at *
    clear hV
    refine (HC1.out _ HT2.out).mono ?_
    rintro e w3 ⟨rfl, hT3, hB3, hO3⟩
    have hV3 := hO3 V _ HV.out hVc (fun c fz e => by injection e with _ ht; exact absurd ht (by decide))
    obtain ⟨⟨b0, b1, b2⟩, _⟩ := blk3_cells hV3
    have t3 := hT3.t.cell.1
    have hBW3 := (HB2.out.mono hBs).trans hB3
    have l13 := cell_b hBW3 HT.out.hl HL1.out
    have l53 := cell_b hBW3 l2 HL5.out
    have HT3 := Lib.hid hT3
    have HB3 := Lib.hid hBW3
    have HO3 := Lib.hid ((oth_belowT HB2.out : Oth64 bc W w2).trans hO3)
    clear hT3 hB3 hO3 hV3 hBW3
    go_wp2_with fail
    go_still_tail 10, (by kernel_rfl)
    change wpList _ _ _ _ _ w3.drew
    have hT3d : TStC B bl bi bj bc br bt i j gs cov1 w3.drew := HT3.out.kept (Below.refl _ w3).drew
    have HT3D := Lib.hid hT3d
    clear hT3d
    go_wp2_with fail
    refine (HC2.out _ HT3D.out).mono ?_
    rintro e w4 ⟨rfl, hT4, hB4, hO4⟩
    have HE : Hid (TkPost B bl bi bj bc br bt i j gs cov2 W (.returned (.tuple #[])) w4) := Lib.hid ⟨rfl, hT4, HB3.out.trans ((Below.refl B w3).drew.trans hB4), HO3.out.trans ((Lib.OthersKept.refl _ _ w3).drew.trans hO4)⟩
    clear hT4 hB4 hO4
    go_wp2_with fail
    go_end0
    exact HE.out
  · have d3 : decide (s + E ≤ j) = false := decide_eq_false h4
    go_enter Try.func232, Try.ntmps232
    go_wp2_with fail
    have HV := Lib.hid (heap_alloc_new W (.cells #[.string ⟨#[]⟩, .int .i64 (x : Int), .int .i64 (y : Int)] 127))
    have HT2 := Lib.hid (HBA.out _ HB2.out)
    obtain ⟨V, hV⟩ : ∃ V, V = W.heap.size := ⟨_, rfl⟩
    rw [← hV] at HV ⊢
    have hVc : some V ≠ some bc := fun e => by have : V = bc := Option.some.inj e; omega
    generalize W.alloc (.cells #[.string ⟨#[]⟩, .int .i64 (x : Int), .int .i64 (y : Int)] 127) = w2 at *
    clear hV
    refine (HC1.out _ HT2.out).mono ?_
    rintro e w3 ⟨rfl, hT3, hB3, hO3⟩
    have hV3 := hO3 V _ HV.out hVc (fun c fz e => by injection e with _ ht; exact absurd ht (by decide))
    obtain ⟨⟨b0, b1, b2⟩, _⟩ := blk3_cells hV3
    have t3 := hT3.t.cell.1
    have hBW3 := (HB2.out.mono hBs).trans hB3
    have l13 := cell_b hBW3 HT.out.hl HL1.out
    have l53 := cell_b hBW3 l2 HL5.out
    have HT3 := Lib.hid hT3
    have HB3 := Lib.hid hBW3
    have HO3 := Lib.hid ((oth_belowT HB2.out : Oth64 bc W w2).trans hO3)
    clear hT3 hB3 hO3 hV3 hBW3
    go_wp2_with fail
    go_still_tail 10, (by kernel_rfl)
    change wpList _ _ _ _ _ w3.drew
    have hT3d : TStC B bl bi bj bc br bt i j gs cov1 w3.drew := HT3.out.kept (Below.refl _ w3).drew
    have HT3D := Lib.hid hT3d
    clear hT3d
    go_wp2_with fail
    refine (HC2.out _ HT3D.out).mono ?_
    rintro e w4 ⟨rfl, hT4, hB4, hO4⟩
    have HE : Hid (TkPost B bl bi bj bc br bt i j gs cov2 W (.returned (.tuple #[])) w4) := Lib.hid ⟨rfl, hT4, HB3.out.trans ((Below.refl B w3).drew.trans hB4), HO3.out.trans ((Lib.OthersKept.refl _ _ w3).drew.trans hO4)⟩
    clear hT4 hB4 hO4
    go_wp2_with fail
    go_end0
    exact HE.out

theorem take_any (B bl bi bj bc br bt : Nat) (i j : Int) (gs : List Rl) (hok : gOk gs = true) : ∀ m k, k < m → k < gs.length → ∀ (s : Int) (cov : List Int) (W : World), 0 ≤ s → s + (lens gs).getD k 0 ≤ 1000000000000000 → (cov.length : Int) + ((coverF gs i j m k s).length : Int) ≤ 1048576 → TStC B bl bi bj bc br bt i j gs cov W →
    Calls Try.prog 232 (TkArgs bl bi bj bc br bt k s) W (TkPost B bl bi bj bc br bt i j gs (cov ++ coverF gs i j m k s) W)
  | 0, k, hm, _, _, _, _, _, _, _, _ => by omega
  | m + 1, k, hm, hk, s, cov, W, hs0, hs1, hl, h => by
    have hn := gOk_len hok
    have hp := lens_pos hk fun q hq _ => fits_at (gOk_iff.1 hok).2.1 q hq
    by_cases h1 : s + (lens gs).getD k 0 ≤ i ∨ j ≤ s
    · rw [cover_out h1, List.append_nil]
      exact take_out B bl bi bj bc br bt i j gs cov k s _ W hk hn rfl (by omega) (by omega) h h1
    · by_cases h2 : i ≤ s ∧ s + (lens gs).getD k 0 ≤ j
      · rw [cover_in h1 h2]
        exact take_in B bl bi bj bc br bt i j gs cov k s _ W hk hn rfl (by omega) (by omega) h (by omega) h1 h2
      · have h0 := cut_pair hok hk h1 h2
        obtain ⟨x, y, hx, hy, hxk, hyk, hsum, p1, p2, p3, p4⟩ := pair_parts hok hk h0
        rw [cover_pair hk hx hy h1 h2, List.length_append] at hl
        rw [cover_pair hk hx hy h1 h2, ← List.append_assoc]
        refine take_cut B bl bi bj bc br bt i j gs cov _ _ k x y s _ _ W hk hn rfl (by omega) (by omega) h0 hx hy hxk hyk rfl (by omega) h h1 h2
          (fun w hw => take_any B bl bi bj bc br bt i j gs hok m x (by omega) (by omega) s cov w hs0 (by omega) (by omega) hw)
          (fun w hw => take_any B bl bi bj bc br bt i j gs hok m y (by omega) (by omega) _ _ w (by omega) (by omega) (by rw [List.length_append]; omega) hw)
end Go.Proofs.Ytaffachjopjbgaa
namespace Go.Proofs.Ytaffachjopjbgaa
open Go.RowKit
open Wd
set_option linter.unusedVariables false

theorem nest_get {w : World} {o x : Obj} {k : Nat} (h : w.heap[k]? = some x) : (w.alloc o).heap[k]? = some x := (Below.heap_alloc w o k (Array.getElem?_eq_some_iff.1 h).1).trans h
theorem nest_new (w : World) (o : Obj) (k : Nat) (hk : k = w.heap.size) : (w.alloc o).heap[k]? = some o := by subst hk; exact heap_alloc_new w o
theorem cell_of_var {w : World} {b : Nat} {v : Value} {t : TypeId} (h : w.heap[b]? = some (.cells #[v] t (0, 0))) : w.cell? ⟨b, 0, none⟩ = some v := by rw [cell_of_row _ _ _ _ _ _ h]; rfl
/-- the variables, as they are made -/
def covW (w : World) (v lv : Value) (i j : Int) : World :=
  ((((((w.alloc (.cells #[v] 35)).alloc (.cells #[lv] 22)).alloc (.cells #[.int .i64 i] 2)).alloc (.cells #[.int .i64 j] 2)).alloc (.cells #[] 2)).alloc (.cells #[.slice (some ⟨w.heap.size + 4, 0, none⟩) 0 0] 22)).alloc (.cells #[takeV (w.heap.size + 1) (w.heap.size + 2) (w.heap.size + 3) (w.heap.size + 5) w.heap.size (w.heap.size + 6)] 268)
theorem covW_below (w : World) (v lv : Value) (i j : Int) : Below w.heap.size w (covW w v lv i j) ∧ (covW w v lv i j).heap.size = w.heap.size + 7 := by
  unfold covW
  refine ⟨?_, by simp⟩
  repeat (refine Below.alloc ?_ (by simp; try omega) _)
  exact Below.refl _ _
theorem tst_start {w : World} {v lv : Value} {gs : List Rl} {i j : Int} {L c : Nat} (hr : Rules w v gs) (hlv : lv = .slice (some ⟨L, 0, none⟩) gs.length c) (hL : L < w.heap.size) (hl : ∀ k, k < gs.length → w.cell? ⟨L, k, none⟩ = some (.int .i64 ((lens gs).getD k 0))) :
    TStC (w.heap.size + 4) (w.heap.size + 1) (w.heap.size + 2) (w.heap.size + 3) (w.heap.size + 5) w.heap.size (w.heap.size + 6) i j gs [] (covW w v lv i j) := by
  obtain ⟨hb, hsz⟩ := covW_below w v lv i j
  have hru := (hr.under hb)
  have hl' : ∀ k, k < gs.length → (covW w v lv i j).cell? ⟨L, k, none⟩ = some (.int .i64 ((lens gs).getD k 0)) := fun k hk => (hb.cell (p := ⟨L, k, none⟩) hL).trans (hl k hk)
  have x0 : (covW w v lv i j).heap[w.heap.size]? = some (.cells #[v] 35 (0, 0)) := by
    unfold covW; exact nest_get (nest_get (nest_get (nest_get (nest_get (nest_get (nest_new _ _ _ (by simp)))))))
  have x1 : (covW w v lv i j).heap[w.heap.size + 1]? = some (.cells #[lv] 22 (0, 0)) := by
    unfold covW; exact nest_get (nest_get (nest_get (nest_get (nest_get (nest_new _ _ _ (by simp))))))
  have x2 : (covW w v lv i j).heap[w.heap.size + 2]? = some (.cells #[.int .i64 i] 2 (0, 0)) := by
    unfold covW; exact nest_get (nest_get (nest_get (nest_get (nest_new _ _ _ (by simp)))))
  have x3 : (covW w v lv i j).heap[w.heap.size + 3]? = some (.cells #[.int .i64 j] 2 (0, 0)) := by
    unfold covW; exact nest_get (nest_get (nest_get (nest_new _ _ _ (by simp))))
  have x4 : (covW w v lv i j).heap[w.heap.size + 4]? = some (.cells #[] 2 (0, 0)) := by
    unfold covW; exact nest_get (nest_get (nest_new _ _ _ (by simp)))
  have x5 : (covW w v lv i j).heap[w.heap.size + 5]? = some (.cells #[.slice (some ⟨w.heap.size + 4, 0, none⟩) 0 0] 22 (0, 0)) := by
    unfold covW; exact nest_get (nest_new _ _ _ (by simp))
  have x6 : (covW w v lv i j).heap[w.heap.size + 6]? = some (.cells #[takeV (w.heap.size + 1) (w.heap.size + 2) (w.heap.size + 3) (w.heap.size + 5) w.heap.size (w.heap.size + 6)] 268 (0, 0)) := by
    unfold covW; exact nest_new _ _ _ (by simp)
  generalize covW w v lv i j = W at *
  obtain ⟨A, cc, e1, h9⟩ := hru
  refine ⟨⟨L, c, by rw [← hlv]; exact cell_of_var x1, by omega, hl'⟩, cell_of_var x2, cell_of_var x3, ⟨v, cell_of_var x0, A, cc, e1, ?_⟩, x6, ⟨_, x5, ⟨rfl, .inr ⟨w.heap.size + 4, 0, #[], rfl, Nat.le_refl _, x4, Nat.le_refl _, by unfold maxLen; omega, rfl, rfl⟩⟩⟩, by omega, by omega, by omega, by omega, by omega, by omega, by omega, by omega⟩
  rcases h9 with h9 | ⟨g, hA, hg, hc⟩
  · exact .inl h9
  · exact .inr ⟨g, hA, by omega, hc⟩

set_option maxRecDepth 100000 in
set_option maxHeartbeats 3200000 in
theorem coverOf_any (v lv : Value) (gs : List Rl) (i j : Int) (L c : Nat) (w : World) (hok : gOk gs = true) (hg : 0 < gs.length) (hr : Rules w v gs) (hlv : lv = .slice (some ⟨L, 0, none⟩) gs.length c) (hL : L < w.heap.size) (hl : ∀ k, k < gs.length → w.cell? ⟨L, k, none⟩ = some (.int .i64 ((lens gs).getD k 0)))
    (hfew : (coverF gs i j gs.length (gs.length - 1) 0).length ≤ 1048576) :
    Calls Try.prog 219 #[v, lv, .int .i64 i, .int .i64 j] w fun e w' => ∃ y, e = .returned y ∧ OwnsI w' w.heap.size y (coverF gs i j gs.length (gs.length - 1) 0) ∧ Below w.heap.size w w' := by
  have hn := gOk_len hok
  have hB := covW_below w v lv i j
  have hsm := (gOk_iff.1 hok).2.2
  have hc7 : (covW w v lv i j).cell? ⟨w.heap.size, 0, none⟩ = some v := by
    refine cell_of_var (t := 35) ?_
    unfold covW; exact nest_get (nest_get (nest_get (nest_get (nest_get (nest_get (nest_new _ _ _ (by simp)))))))
  have hT := tst_start (i := i) (j := j) hr hlv hL hl
  obtain ⟨m, hm⟩ : ∃ m, gs.length - 1 = m := ⟨_, rfl⟩
  rw [hm] at hfew ⊢
  have HTA := Lib.hid (fun W hW => take_any (w.heap.size + 4) (w.heap.size + 1) (w.heap.size + 2) (w.heap.size + 3) (w.heap.size + 5) w.heap.size (w.heap.size + 6) i j gs hok gs.length m (by omega) (by omega) 0 [] W (by omega) (by have := small_at hsm m (by omega); omega) (by rw [List.length_nil]; omega) hW)
  obtain ⟨A, cr, rfl, _⟩ := hr
  subst hlv
  have HLA : Hid (∀ W, Calls Try.prog 135 #[.slice A gs.length cr] W fun e w' => e = .returned (.int .i64 (m : Int)) ∧ w' = W) := Lib.hid (fun W => (lastA A gs.length cr (by omega) W).mono fun e w' h => ⟨h.1.trans (ret_int (by omega)), h.2⟩)
  have HB := Lib.hid hB
  have HT := Lib.hid hT
  have HC := Lib.hid hc7
  clear hl hsm hok hB hT hc7 hm
  go_enter Try.func219, Try.ntmps219
  go_wp2_with fail
  change Code.wp _ _ _ _ (covW w (.slice A gs.length cr) (.slice (some ⟨L, 0, none⟩) gs.length c) i j)
  generalize covW w (.slice A gs.length cr) (.slice (some ⟨L, 0, none⟩) gs.length c) i j = W7 at HT HB HC ⊢
  have t7 : W7.cell? ⟨w.heap.size + 1 + 1 + 1 + 1 + 1 + 1, 0, none⟩ = some (takeV (w.heap.size + 1) (w.heap.size + 1 + 1) (w.heap.size + 1 + 1 + 1) (w.heap.size + 1 + 1 + 1 + 1 + 1) w.heap.size (w.heap.size + 1 + 1 + 1 + 1 + 1 + 1)) := HT.out.t.cell.1
  have r7 := HC.out
  refine wp_region_still_tail 3 (by kernel_rfl) (by kernel_rfl) ?_
  simp only [List.take_succ_cons, List.take_zero, List.drop_succ_cons, List.drop_zero]
  still_step
  still_step
  still_call (HLA.out _)
  refine wpStill_nil ?_
  change wpList _ _ _ _ _ W7.drew
  have HT2 : Hid (TStC (w.heap.size + 4) (w.heap.size + 1) (w.heap.size + 2) (w.heap.size + 3) (w.heap.size + 5) w.heap.size (w.heap.size + 6) i j gs [] W7.drew) := Lib.hid (HT.out.kept (Below.refl _ W7).drew)
  have HB2 := Lib.hid HB.out.1.drew
  clear t7 r7
  go_wp2_with fail
  refine (HTA.out _ HT2.out).mono ?_
  rintro e w8 ⟨rfl, hT8, hB8, _⟩
  obtain ⟨yv, y1, y2⟩ := hT8.c
  obtain ⟨Ay, cy, rfl⟩ := own_slice y2
  have HO := Lib.hid y2
  have HB8 := Lib.hid (HB2.out.trans (hB8.mono (by omega)))
  have y8 : w8.cell? ⟨w.heap.size + 1 + 1 + 1 + 1 + 1, 0, none⟩ = _ := y1.cell.1
  clear hT8 y1 y2 hB8
  go_wp2_with fail
  go_ret
  exact ⟨_, rfl, own_lower HO.out (by omega), HB8.out⟩
end Go.Proofs.Ytaffachjopjbgaa
namespace Go.Proofs.Ytaffachjopjbgaa
open Go.RowKit
open Wd
set_option linter.unusedVariables false
namespace Wd
/-- what the whole word passes -/
def swW (p : ByteArray) (gs : List Rl) : List Int := if gs.length = 0 then List.replicate p.size 0 else swAt p gs (gs.length - 1)
end Wd
theorem swJ_nil {n : Nat} {v : List Int} (h : v.length = n) : swJ n (List.replicate n 0) v = v := by
  unfold swJ
  rw [← rowF_self h]
  refine rowF_congr (fun o ho => ?_)
  have e : (List.replicate n (0 : Int)).getD o 0 = 0 := by
    rw [List.getD_eq_getElem?_getD, List.getElem?_replicate, if_pos ho]; rfl
  rw [e, rowF_getD (by rw [show (0 : Int).toNat = 0 from rfl, Nat.add_zero, Nat.mod_eq_of_lt ho]; exact ho), show (0 : Int).toNat = 0 from rfl, Nat.add_zero, Nat.mod_eq_of_lt ho, Int.zero_add]
theorem swNil_ok (n : Nat) : swOk n 1000000000000000 (List.replicate n 0) := ⟨by simp, fun o ho => by
  rw [List.getD_eq_getElem?_getD, List.getElem?_replicate, if_pos ho]
  exact ⟨by decide, by decide⟩⟩
theorem IsSw.shape {w : World} {lo : Nat} {A0 : Option Addr} {n0 c0 PB : Nat} {p : ByteArray} {fv gv : Value} {gs : List Rl} (h : IsSw w lo A0 n0 c0 PB p fv gv gs) : ∃ A1 c1 A2 c2 U, fv = .agg (swAll A0 n0 c0 PB gv (.slice A1 gs.length c1) (.slice A2 gs.length c2)) ∧ OwnsI w lo (.slice A1 gs.length c1) (lens gs) ∧ w.ownsRow lo 22 1 (.slice A2 gs.length c2) gs.length U ∧ U.length = gs.length ∧ SwRows w lo p gs U := by
  obtain ⟨lv, vv, U, h0, h1, h2, h3, h4⟩ := h
  obtain ⟨A1, c1, rfl⟩ := own_slice h1
  obtain ⟨A2, c2, rfl⟩ := own_slice h2
  rw [lens_len] at h0 h1
  exact ⟨A1, c1, A2, c2, U, h0, h1, h2, h3, h4⟩
set_option maxRecDepth 100000 in
theorem swLength_any (A0 : Option Addr) (n0 c0 PB : Nat) (p : ByteArray) (fv gv : Value) (gs : List Rl) (lo : Nat) (w : World) (hn : gs.length ≤ 1048576) (h : IsSw w lo A0 n0 c0 PB p fv gv gs) (Ag : Option Addr) (ng cg : Nat) (hgv : gv = .slice Ag ng cg) :
    Calls Try.prog 185 #[fv] w fun e w' => e = .returned (.int .i64 (wordLen gs)) ∧ Below w.heap.size w w' := by
  subst hgv
  obtain ⟨A1, c1, A2, c2, U, rfl, h1, _, _, _⟩ := h.shape
  have HL := Lib.hid (wordLength_any _ gs lo _ hn (h1.alloc (.cells (swAll A0 n0 c0 PB (.slice Ag ng cg) (.slice A1 gs.length c1) (.slice A2 gs.length c2)) 176)))
  have h7 := cell_of_row _ _ 4 _ _ _ (heap_alloc_new w (.cells (swAll A0 n0 c0 PB (.slice Ag ng cg) (.slice A1 gs.length c1) (.slice A2 gs.length c2)) 176))
  have h7 : (w.alloc (.cells (swAll A0 n0 c0 PB (.slice Ag ng cg) (.slice A1 gs.length c1) (.slice A2 gs.length c2)) 176)).cell? ⟨w.heap.size, 4, none⟩ = some (.slice A1 gs.length c1) := h7
  have HN := Lib.hid (lens_len gs)
  clear h h1 hn
  go_enter Try.func185, Try.ntmps185
  go_wp2_with fail
  refine HL.out.mono ?_
  rintro e w1 ⟨rfl, rfl⟩
  go_wp2_with fail
  go_ret
  exact ⟨rfl, (Below.refl _ w).alloc (Nat.le_refl _) _⟩
set_option maxRecDepth 100000 in
set_option maxHeartbeats 6400000 in
theorem swPart_any (A0 : Option Addr) (n0 c0 PB : Nat) (p : ByteArray) (fv gv : Value) (gs : List Rl) (lo : Nat) (w : World) (hp0 : 0 < p.size) (hp : p.size ≤ 2000) (hok : gOk gs = true) (hr : Rules w gv gs) (h : IsSw w lo A0 n0 c0 PB p fv gv gs) (hev : IsL w (.slice A0 n0 c0) (List.replicate p.size 0)) (hw : w.cell? ⟨PB, 0, none⟩ = some (.string p)) :
    Calls Try.prog 184 #[fv, .int .i64 0, .int .i64 (wordLen gs)] w fun e w' => ∃ y, e = .returned y ∧ IsL w' y (swW p gs) ∧ Below w.heap.size w w' := by
  obtain ⟨A1, c1, A2, c2, U, rfl, h1, h2, hUl, hrows⟩ := h.shape
  obtain ⟨Ag, cg, rfl, _⟩ := id hr
  have hF := heap_alloc_new w (.cells (swAll A0 n0 c0 PB (.slice Ag gs.length cg) (.slice A1 gs.length c1) (.slice A2 gs.length c2)) 176)
  have hB1 := (Below.refl _ w).alloc (Nat.le_refl _) (.cells (swAll A0 n0 c0 PB (.slice Ag gs.length cg) (.slice A1 gs.length c1) (.slice A2 gs.length c2)) 176)
  have hs1 : (w.alloc (.cells (swAll A0 n0 c0 PB (.slice Ag gs.length cg) (.slice A1 gs.length c1) (.slice A2 gs.length c2)) 176)).heap.size = w.heap.size + 1 := by simp
  have hn400 := gOk_len hok
  rcases Nat.eq_zero_or_pos gs.length with hg | hg
  · have hwz := wordLen_zero hg
    rw [hwz]
    have HEV := Lib.hid (hev.kept hB1)
    have HW : Hid (swW p gs = List.replicate p.size 0) := Lib.hid (by unfold swW; rw [if_pos hg])
    have HB := Lib.hid hB1
    have HGL : Hid (gs.length = 0) := Lib.hid hg
    obtain ⟨NG, hNG⟩ : ∃ NG, NG = gs.length := ⟨_, rfl⟩
    rw [← hNG] at HB HEV ⊢
    clear h h1 h2 hF hB1 hs1 hrows hev hw hr hwz hg hNG hUl hn400
    go_enter Try.func184, Try.ntmps184
    go_wp2_with fail
    go_ret
    exact ⟨_, rfl, by rw [HW.out]; exact HEV.out, HB.out⟩
  · have hwl := wordLen_bd' hok
    have hwp : 0 < wordLen gs := by
      have := lens_pos (show gs.length - 1 < gs.length by omega) fun q hq _ => fits_at (gOk_iff.1 hok).2.1 q hq
      unfold wordLen
      omega
    have h1' : w.ownsRow lo 2 1 (.slice A1 gs.length c1) gs.length (iv (lens gs)) := by
      have := h1
      unfold OwnsI at this
      rw [lens_len] at this
      exact this
    obtain ⟨L, rfl, _, hL⟩ := own_addr h1' hg
    obtain ⟨M, rfl, _, hM⟩ := own_addr h2 hg
    have hlc : ∀ k, k < gs.length → w.cell? ⟨L, k, none⟩ = some (.int .i64 ((lens gs).getD k 0)) := fun k hk => by
      rw [h1'.cellAt k (by omega)]
      exact iv_at (by rw [lens_len]; exact hk)
    have hcov := fun W (hb : Below w.heap.size w W) => coverOf_any (.slice Ag gs.length cg) (.slice (some ⟨L, 0, none⟩) gs.length c1) gs 0 (wordLen gs) L c1 W hok hg (hr.kept hb) rfl (Nat.lt_of_lt_of_le hL hb.size) (fun k hk => (hb.cell (p := ⟨L, k, none⟩) hL).trans (hlc k hk)) (covA_few hok hg 0 (wordLen gs))
    have hcw : coverF gs 0 (wordLen gs) gs.length (gs.length - 1) 0 = [((gs.length - 1 : Nat) : Int)] := cover_whole hok hg
    have HCV := Lib.hid (hcov _ hB1)
    obtain ⟨q, hq⟩ : ∃ q, q = gs.length - 1 := ⟨_, rfl⟩
    rw [hcw, ← hq] at HCV
    have hql : q < gs.length := by omega
    have HW : Hid (swW p gs = swAt p gs q) := Lib.hid (by unfold swW; rw [if_neg (by omega), hq])
    have hoq := swAt_ok (p := p) hp0 hok hql
    have hlq := small_at (gOk_iff.1 hok).2.2 q hql
    have gq : U[q]? = some U[q] := List.getElem?_eq_getElem (by omega)
    have xq : w.cell? ⟨M, q, none⟩ = U[q]? := h2.cellAt q (by omega)
    have hrq := hrows q _ gq
    rw [gq] at xq
    clear gq
    generalize U[q] = uq at *
    have HTH := Lib.hid (fun W (hb' : Below w.heap.size w W) => sw2_any PB p (.slice A0 n0 c0) uq (List.replicate p.size 0) (swAt p gs q) W hp0 hp (swNil_ok _) ⟨hoq.1, fun o ho => by have := hoq.2 o ho; omega⟩ (hev.kept hb') (IsL.of_own (own_below hrq hb' (Nat.le_refl _))) ((hb'.cell (p := ⟨PB, 0, none⟩) (lt_of_cell hw)).trans hw))
    have HJN : Hid (swJ p.size (List.replicate p.size 0) (swAt p gs q) = swAt p gs q) := Lib.hid (swJ_nil hoq.1)
    obtain ⟨Aq, nq, cq, rfl⟩ : ∃ A n c, uq = .slice A n c := (own_slice hrq).imp fun A ⟨c, e⟩ => ⟨_, c, e⟩
    have HXQ := Lib.hid (fun W (hb' : Below w.heap.size w W) => (hb'.cell (p := ⟨M, q, none⟩) (lt_of_cell xq)).trans xq)
    have HF := Lib.hid hF
    have HB1 := Lib.hid hB1
    have HS1 := Lib.hid hs1
    have hf3 := cell_of_row _ _ 3 _ _ _ hF
    have hf4 := cell_of_row _ _ 4 _ _ _ hF
    have hne : ((0 : Int) == wordLen gs) = false := by rw [beq_eq_false_iff_ne]; omega
    have hf3 : (w.alloc (.cells (swAll A0 n0 c0 PB (.slice Ag gs.length cg) (.slice (some ⟨L, 0, none⟩) gs.length c1) (.slice (some ⟨M, 0, none⟩) gs.length c2)) 176)).cell? ⟨w.heap.size, 3, none⟩ = some (.slice Ag gs.length cg) := hf3
    have hf4 : (w.alloc (.cells (swAll A0 n0 c0 PB (.slice Ag gs.length cg) (.slice (some ⟨L, 0, none⟩) gs.length c1) (.slice (some ⟨M, 0, none⟩) gs.length c2)) 176)).cell? ⟨w.heap.size, 4, none⟩ = some (.slice (some ⟨L, 0, none⟩) gs.length c1) := hf4
    have hf0 : (w.alloc (.cells (swAll A0 n0 c0 PB (.slice Ag gs.length cg) (.slice (some ⟨L, 0, none⟩) gs.length c1) (.slice (some ⟨M, 0, none⟩) gs.length c2)) 176)).cell? ⟨w.heap.size, 0, none⟩ = some (.slice A0 n0 c0) := cell_of_row _ _ 0 _ _ _ hF
    obtain ⟨NG, hNG⟩ : ∃ NG, NG = gs.length := ⟨_, rfl⟩
    have hq0 : (0 : Int) ≤ (q : Int) := by omega
    have hq1 : (q : Int) < (NG : Int) := by omega
    rw [← hNG] at hf3 hf4 HCV HF hf0 HB1 HS1 ⊢
    clear h h1 h1' h2 hF hB1 hs1 hrows hev hw hr hlc hcov hcw hq hoq hrq xq hNG
    go_enter Try.func184, Try.ntmps184
    go_upto_region 4 with fail
    generalize w.alloc (.cells (swAll A0 n0 c0 PB (.slice Ag NG cg) (.slice (some ⟨L, 0, none⟩) NG c1) (.slice (some ⟨M, 0, none⟩) NG c2)) 176) = w1 at *
    go_wp2_with fail
    refine HCV.out.mono ?_
    rintro e w4 ⟨y, rfl, hy, hB4⟩
    obtain ⟨Ay, cy, hye⟩ := own_slice hy
    have hye : y = .slice Ay 1 cy := hye
    subst hye
    have hy1 : w4.ownsRow w1.heap.size 2 1 (.slice Ay 1 cy) 1 (iv [(q : Int)]) := hy
    obtain ⟨gy, rfl, _, hgl⟩ := own_addr hy1 (by omega)
    have hyc : w4.cell? ⟨gy, 0, none⟩ = some (.int .i64 (q : Int)) := by rw [hy1.cellAt 0 (by omega)]; rfl
    have HY := Lib.hid hyc
    have HB4 := Lib.hid (HB1.out.trans (hB4.mono HB1.out.size))
    have HF4 := Lib.hid ((hB4.block w.heap.size (by have := HS1.out; omega)).trans HF.out)
    have hf2 : w4.cell? ⟨w.heap.size, 2, none⟩ = some (swT PB) := cell_of_row _ _ 2 _ _ _ HF4.out
    have hf5 : w4.cell? ⟨w.heap.size, 5, none⟩ = some (.slice (some ⟨M, 0, none⟩) NG c2) := cell_of_row _ _ 5 _ _ _ HF4.out
    have HF2 := Lib.hid hf2
    have HF5 := Lib.hid hf5
    clear hy hy1 hgl hB4 hf3 hf4 hf0 hyc hf2 hf5 hne
    go_wp2_with fail
    go_loopw [7, 25] (fun tv z wr => ∃ m : Nat, m ≤ 1 ∧ z = .int .i64 m ∧ Below w4.heap.size w4 wr ∧ (m = 0 → tv = .slice A0 n0 c0) ∧ (m = 1 → (∃ A n c, tv = .slice A n c) ∧ IsL wr tv (swAt p gs q))) (fun _ z _ => 1 - (intOf z).toNat)
    case atStart => exact ⟨0, by omega, rfl, Below.refl _ _, fun _ => rfl, fun h => by omega⟩
    case round =>
      obtain ⟨m, hm, rfl, hB, ht0, ht1⟩ := hrel
      obtain ⟨wo, rfl⟩ : ∃ wo : World, wo = wr := ⟨_, rfl⟩
      by_cases hm0 : m < 1
      · obtain rfl : m = 0 := by omega
        obtain rfl := ht0 rfl
        have hyc := (hB.cell (p := ⟨gy, 0, none⟩) (lt_of_cell HY.out)).trans HY.out
        have hbw := HB4.out.trans (hB.mono HB4.out.size)
        have hf2 := (hB.cell (p := ⟨w.heap.size, 2, none⟩) (lt_of_cell HF2.out)).trans HF2.out
        have hf5 := (hB.cell (p := ⟨w.heap.size, 5, none⟩) (lt_of_cell HF5.out)).trans HF5.out
        have hxq := HXQ.out wo hbw
        have HK := Lib.hid (And.intro hf2 (And.intro hf5 hxq))
        have HTM := Lib.hid (fun m => HTH.out (wo.drewN m) (below_drewN hbw m))
        have HBO := Lib.hid hB
        clear ht1 hB hbw
        go_upto_region 7 with fail
        go_region_held3 (fun w' => w'.cell? ⟨w.heap.size, 2, none⟩ = some (swT PB) ∧ w'.cell? ⟨w.heap.size, 5, none⟩ = some (.slice (some ⟨M, 0, none⟩) NG c2) ∧ w'.cell? ⟨M, q, none⟩ = some (.slice Aq nq cq))
          (first | exact HK.out | exact HK9.out | go_keep)
          (first
            | (go_at_call 141
               refine (HTM.out _).mono ?_
               rintro e w9 ⟨y, rfl, hy9, hB9⟩
               have hB9 := below_undrew hB9
               have HK9 := Lib.hid (And.intro (cells_below hB9 _ _ HK.out.1) (And.intro (cells_below hB9 _ _ HK.out.2.1) (cells_below hB9 _ _ HK.out.2.2)))
               have HB9 := Lib.hid (HBO.out.trans (hB9.mono HBO.out.size))
               have HY9 : Hid (IsL w9 y (swAt p gs q)) := Lib.hid (by have := IsL.of_own hy9; rwa [HJN.out] at this)
               obtain ⟨A9, n9, c9, rfl⟩ : ∃ A n c, y = .slice A n c := (own_slice hy9).imp fun A ⟨c, e⟩ => ⟨_, c, e⟩
               clear hB9 hy9))
        all_goals
          go_wp2_with fail
          go_roundw
          all_goals first | exact ⟨1, by omega, by go_num, HB9.out, fun h => by omega, fun _ => ⟨⟨_, _, _, rfl⟩, HY9.out⟩⟩ | ((repeat apply Exists.intro); exact ⟨⟨1, by omega, by go_num, HB9.out, fun h => by omega, fun _ => ⟨⟨_, _, _, rfl⟩, HY9.out⟩⟩, rfl⟩) | (simp [intOf]; done) | (simp [intOf]; omega) | omega
      · obtain rfl : m = 1 := by omega
        obtain ⟨⟨A, n, c, rfl⟩, hl⟩ := ht1 rfl
        have HL := Lib.hid hl
        have HBF := Lib.hid (HB4.out.trans (hB.mono HB4.out.size))
        clear ht0 ht1 hl hB
        go_wp2_with fail
        go_ret
        exact ⟨_, rfl, by rw [HW.out]; exact HL.out, HBF.out⟩
set_option maxRecDepth 100000 in
set_option maxHeartbeats 3200000 in
theorem swWhole_any (A0 : Option Addr) (n0 c0 PB : Nat) (p : ByteArray) (fv gv : Value) (gs : List Rl) (lo : Nat) (w : World) (hp0 : 0 < p.size) (hp : p.size ≤ 2000) (hok : gOk gs = true) (hr : Rules w gv gs) (h : IsSw w lo A0 n0 c0 PB p fv gv gs) (hev : IsL w (.slice A0 n0 c0) (List.replicate p.size 0)) (hw : w.cell? ⟨PB, 0, none⟩ = some (.string p)) :
    Calls Try.prog 143 #[fv] w fun e w' => ∃ y, e = .returned y ∧ IsL w' y (swW p gs) ∧ Below w.heap.size w w' := by
  obtain ⟨Ag, cg, rfl, _⟩ := id hr
  have HLN := Lib.hid (fun W (hb : Below w.heap.size w W) => swLength_any A0 n0 c0 PB p fv _ gs lo W (by have := gOk_len hok; omega) (h.kept hb) Ag gs.length cg rfl)
  have HPA := Lib.hid (fun W (hb : Below w.heap.size w W) => swPart_any A0 n0 c0 PB p fv _ gs lo W hp0 hp hok (hr.kept hb) (h.kept hb) (hev.kept hb) ((hb.cell (p := ⟨PB, 0, none⟩) (lt_of_cell hw)).trans hw))
  obtain ⟨A1, c1, A2, c2, U, rfl, _⟩ := h.shape
  have hF := heap_alloc_new w (.cells (swAll A0 n0 c0 PB (.slice Ag gs.length cg) (.slice A1 gs.length c1) (.slice A2 gs.length c2)) 176)
  have hB1 := (Below.refl _ w).alloc (Nat.le_refl _) (.cells (swAll A0 n0 c0 PB (.slice Ag gs.length cg) (.slice A1 gs.length c1) (.slice A2 gs.length c2)) 176)
  obtain ⟨NG, hNG⟩ : ∃ NG, NG = gs.length := ⟨_, rfl⟩
  rw [← hNG] at HLN HPA hF hB1 ⊢
  clear h hr hev hw hNG
  go_enter Try.func143, Try.ntmps143
  go_upto_region 1 with fail
  generalize w.alloc (.cells (swAll A0 n0 c0 PB (.slice Ag NG cg) (.slice A1 NG c1) (.slice A2 NG c2)) 176) = w1 at *
  have HSK : Hid (∀ W, Below w1.heap.size w1 W → W.cell? ⟨w.heap.size, 0, none⟩ = some (.slice A0 n0 c0) ∧ W.cell? ⟨w.heap.size, 1, none⟩ = some (swL PB) ∧ W.cell? ⟨w.heap.size, 2, none⟩ = some (swT PB) ∧ W.cell? ⟨w.heap.size, 3, none⟩ = some (.slice Ag NG cg) ∧ W.cell? ⟨w.heap.size, 4, none⟩ = some (.slice A1 NG c1) ∧ W.cell? ⟨w.heap.size, 5, none⟩ = some (.slice A2 NG c2)) := Lib.hid (fun W hb => by
    have hl := (Array.getElem?_eq_some_iff.1 hF).1
    have h1 := (hb.block w.heap.size hl).trans hF
    exact ⟨cell_of_row _ _ 0 _ _ _ h1, cell_of_row _ _ 1 _ _ _ h1, cell_of_row _ _ 2 _ _ _ h1, cell_of_row _ _ 3 _ _ _ h1, cell_of_row _ _ 4 _ _ _ h1, cell_of_row _ _ 5 _ _ _ h1⟩)
  have HB1 := Lib.hid hB1
  obtain ⟨k0, k1, k2, k3, k4, k5⟩ := HSK.out w1 (Below.refl _ _)
  clear hF hB1
  go_region_held3 (fun w' => w'.cell? ⟨w.heap.size, 0, none⟩ = some (.slice A0 n0 c0) ∧ w'.cell? ⟨w.heap.size, 1, none⟩ = some (swL PB) ∧ w'.cell? ⟨w.heap.size, 2, none⟩ = some (swT PB) ∧ w'.cell? ⟨w.heap.size, 3, none⟩ = some (.slice Ag NG cg) ∧ w'.cell? ⟨w.heap.size, 4, none⟩ = some (.slice A1 NG c1) ∧ w'.cell? ⟨w.heap.size, 5, none⟩ = some (.slice A2 NG c2))
    (first | exact HSK.out _ (Below.refl _ _) | exact HSK.out _ (below_drewN (Below.refl _ _) 1) | exact HSK.out _ HB8.out | exact HSK.out _ HB9.out | go_keep)
    (first
      | (go_at_call 185
         refine (HLN.out _ ?_).mono ?_
         skip
         (first | exact HB1.out | exact below_drewN HB1.out 1 | exact below_drewN HB1.out _)
         rintro e w8 ⟨rfl, hB8⟩
         have hB8 := below_undrew hB8
         have HB8 := Lib.hid hB8
         clear hB8)
      | (go_at_call 184
         refine (HPA.out _ ?_).mono ?_
         skip
         (first | exact HB1.out.trans (HB8.out.mono HB1.out.size) | exact below_drewN (HB1.out.trans (HB8.out.mono HB1.out.size)) 1)
         rintro e w9 ⟨y, rfl, hy9, hB9⟩
         have HB9 := Lib.hid (HB8.out.trans (hB9.mono HB8.out.size))
         have HY9 := Lib.hid hy9
         obtain ⟨A9, c9, rfl⟩ := hy9.shape
         clear hB9 hy9))
  all_goals
    go_wp2_with fail
    go_ret
    exact ⟨_, rfl, HY9.out, HB1.out.trans (HB9.out.mono HB1.out.size)⟩
end Go.Proofs.Ytaffachjopjbgaa
namespace Go.Proofs.Ytaffachjopjbgaa
open Go.RowKit
open Wd
set_option linter.unusedVariables false
namespace Wd
def swR (p : ByteArray) (gs : List Rl) (k : Nat) : List (List Int) := (List.range k).map (swAt p gs)
def swA (gs : List Rl) (p : ByteArray) : Int × Int := if gOk gs = true ∧ okL p.data.toList = true then (if p.size = 0 then (0, 4) else ((swW p gs).getD 0 0 / (p.size : Int), 0)) else (0, 1)
end Wd
theorem swR_succ (p : ByteArray) (gs : List Rl) (k : Nat) : swR p gs (k + 1) = swR p gs k ++ [swAt p gs k] := by simp [swR, List.range_succ]
theorem swR_len (p : ByteArray) (gs : List Rl) (k : Nat) : (swR p gs k).length = k := by simp [swR]
theorem swR_get {p : ByteArray} {gs : List Rl} {k i : Nat} (h : i < k) : (swR p gs k)[i]? = some (swAt p gs i) := by simp [swR, h]
theorem byte_extract {p : ByteArray} {s : Nat} (h : s < p.size) : p.extract s (s + 1) = ⟨#[p[s]'h]⟩ := by
  have e : (p.extract s (s + 1)).data.toList = [p[s]'h] := by
    rw [ByteArray.data_extract, Array.toList_extract]
    have h2 : s < p.data.toList.length := by simpa using h
    rw [List.extract_eq_take_drop, Nat.add_sub_cancel_left, List.drop_eq_getElem_cons h2]
    simp
    rfl
  exact ByteArray.ext (Array.toList_inj.1 (by rw [e]))
theorem row_get {zs : List Int} {n s : Nat} (h : zs.length = n) (hs : s < n) : ∃ h' : s < zs.length, zs[s]'h' = zs.getD s 0 := ⟨by omega, by rw [List.getD_eq_getElem?_getD, List.getElem?_eq_getElem (by omega)]; rfl⟩
set_option maxRecDepth 100000 in
set_option maxHeartbeats 12800000 in
theorem specSparePower (gv : Value) (gs : List Rl) (p : ByteArray) (w : World) (hfr : FewR gs) (hr : Rules w gv gs) (hpm : p.size ≤ maxLen) :
    Calls Try.prog 64 #[.agg #[gv], .string p] w fun e w' => e = .returned (.tuple #[.int .i64 (swA gs p).1, .int .i64 (swA gs p).2]) ∧ Below w.heap.size w w' := by
  have hG : GP (w.alloc (.cells #[gv] 37)) w.heap.size gs := rules_gpT hr 37
  have hb := (Below.refl _ w).alloc (Nat.le_refl _) (.cells #[gv] 37)
  have HC := Lib.hid (l02Ok_any w.heap.size gs _ hfr hG)
  have HK := Lib.hid (fun W => specOk p W hpm)
  have HB := Lib.hid hb
  have hg := cell_new w gv 37
  have HG := Lib.hid hg
  have HRU := Lib.hid (fun W (hb : Below w.heap.size w W) => hr.kept hb)
  obtain ⟨Ag, cg, rfl, hrc⟩ := hr
  have HRC := Lib.hid hrc
  clear hb hG hrc hg
  unfold swA
  cases hok : gOk gs
  · rw [hok] at HC
    rw [if_neg (by simp)]
    clear hok
    go_enter Try.func64, Try.ntmps64
    go_wp2_with fail
    refine HC.out.mono ?_
    rintro e w1 ⟨rfl, hB1⟩
    have HB1 := Lib.hid (HB.out.trans (hB1.mono (by simp)))
    clear hB1
    go_wp2_with fail
    go_ret2
    exact ⟨rfl, HB1.out⟩
  rw [hok] at HC
  cases ho : okL p.data.toList
  · rw [ho] at HK
    rw [if_neg (by simp)]
    clear hok ho
    go_enter Try.func64, Try.ntmps64
    go_wp2_with fail
    refine HC.out.mono ?_
    rintro e w1 ⟨rfl, hB1⟩
    have HB1 := Lib.hid (HB.out.trans (hB1.mono (by simp)))
    clear hB1
    go_wp2_with fail
    refine (HK.out _).mono ?_
    rintro e w2 ⟨rfl, rfl⟩
    go_wp2_with fail
    go_ret2
    exact ⟨rfl, HB1.out⟩
  rw [ho] at HK
  rw [if_pos ⟨rfl, rfl⟩]
  have hp : p.size ≤ 2000 := by
    unfold okL at ho
    rw [Bool.and_eq_true, decide_eq_true_iff] at ho
    have h1 := ho.1
    have h2 : p.data.toList.length = p.size := by simp
    omega
  by_cases hp0 : p.size = 0
  · rw [if_pos hp0]
    have HP0 := Lib.hid hp0
    clear hok ho hp
    go_enter Try.func64, Try.ntmps64
    go_wp2_with fail
    refine HC.out.mono ?_
    rintro e w1 ⟨rfl, hB1⟩
    have HB1 := Lib.hid (HB.out.trans (hB1.mono (by simp)))
    clear hB1
    go_wp2_with fail
    refine (HK.out _).mono ?_
    rintro e w2 ⟨rfl, rfl⟩
    go_wp2_with fail
    go_ret2
    exact ⟨rfl, HB1.out⟩
  rw [if_neg hp0]
  have hp0 : 0 < p.size := by omega
  obtain ⟨n, hn⟩ : ∃ n, n = p.size := ⟨_, rfl⟩
  have HN := Lib.hid hn
  have hn0 : 0 < n := by omega
  have hn2 : n ≤ 2000 := by omega
  have hpn : (p.size : Int) = (n : Int) := by rw [hn]
  have HPN := Lib.hid hpn
  have hnz : ¬ (n : Int) = 0 := by omega
  have HOK := Lib.hid hok
  have hn400 := gOk_len hok
  obtain ⟨NG, hNG⟩ : ∃ NG, NG = gs.length := ⟨_, rfl⟩
  have HNG := Lib.hid hNG
  rw [← hNG] at hn400 HC HG HB ⊢
  by_cases hz : NG = 0
  · have HW : Hid ((swW p gs).getD 0 0 / (n : Int) = 0) := Lib.hid (by
      unfold swW
      rw [if_pos (by omega), List.getD_eq_getElem?_getD, List.getElem?_replicate, if_pos hp0]
      simp)
    rw [hpn, HW.out]
    subst hz
    clear hok ho hp hp0 hn hpn hNG
    go_enter Try.func64, Try.ntmps64
    go_wp2_with fail
    refine HC.out.mono ?_
    rintro e w1 ⟨rfl, hB1⟩
    have HB1 := Lib.hid (HB.out.trans (hB1.mono (by simp)))
    have hg1 := (hB1.cell (lt_of_cell HG.out)).trans HG.out
    clear hB1
    go_wp2_with fail
    refine (HK.out _).mono ?_
    rintro e w2 ⟨rfl, rfl⟩
    have hpn := HPN.out
    go_wp2_with fail
    go_ret2
    exact ⟨rfl, HB1.out⟩
  obtain ⟨i0, hi, hz0, hz1, hz2⟩ := info_parts Try.info_ints
  obtain ⟨j0, hj, hy0, hy1, hy2⟩ := info_parts Try.info_int64
  rw [hpn]
  have hnz4 : ((n : Int) == 0) = false := by rw [beq_eq_false_iff_ne]; exact hnz
  have hnz5 : ((NG : Int) == 0) = false := by rw [beq_eq_false_iff_ne]; omega
  clear hok ho hp hn hpn hNG
  go_enter Try.func64, Try.ntmps64
  go_wp2_with fail
  refine HC.out.mono ?_
  rintro e w1 ⟨rfl, hB1⟩
  have HB1 := Lib.hid (HB.out.trans (hB1.mono (by simp)))
  have HG1 := Lib.hid ((hB1.cell (lt_of_cell HG.out)).trans HG.out)
  clear hB1
  go_wp2_with fail
  refine (HK.out _).mono ?_
  rintro e w2 ⟨rfl, rfl⟩
  have hpn := HPN.out
  have hg1 := HG1.out
  have HS := Lib.hid (MSt.start w1 _ rfl)
  go_wp2_with fail
  clear hg1
  go_loopw [7, 8] (fun y i wr => ∃ k : Nat, k ≤ NG ∧ i = .int .i64 k ∧ MSt w1 (swR p gs k) y wr) (fun _ i _ => NG - (intOf i).toNat)
  case atStart => exact ⟨0, Nat.zero_le _, rfl, HS.out⟩
  case round =>
    obtain ⟨k, hk, rfl, hst⟩ := hrel
    obtain ⟨wo, rfl⟩ : ∃ wo : World, wo = wr := ⟨_, rfl⟩
    obtain ⟨U, hm, hB⟩ := hst
    have HM := Lib.hid (And.intro hm hB)
    have hlenU := hm.len
    rw [swR_len] at hlenU
    obtain ⟨Ay, cy, hAy⟩ := own_slice hm.outer
    rw [hlenU] at hAy
    subst hAy
    have HLU := Lib.hid hlenU
    have hgo := (hB.cell (lt_of_cell HG1.out)).trans HG1.out
    by_cases hkn : k < NG
    · have hkg : k < gs.length := by rw [← HNG.out]; exact hkn
      have hbw := HB1.out.trans (hB.mono HB1.out.size)
      obtain ⟨Av, cv, hvy, hcv⟩ := HRU.out wo hbw
      injection hvy with hvA _ hvc
      subst hvA hvc
      rcases hcv with hn0' | ⟨g, rfl, hg, hc⟩
      · rw [hn0'] at hkg; simp at hkg
      obtain ⟨a0, a1, a2⟩ := rules_cells hc hkg
      have hfk := fits_at (gOk_iff.1 HOK.out).2.1 k hkg
      have k0 : (0 : Int) ≤ (k : Int) := by omega
      have k1 : (k : Int) < (NG : Int) := by omega
      have hak := swAt_ok (p := p) hp0 HOK.out hkg
      rw [← HN.out] at hak
      obtain ⟨row, hrow⟩ : ∃ row, row = swAt p gs k := ⟨_, rfl⟩
      have hrl : row.length = n := by rw [hrow]; exact hak.1
      have HNXR : Hid (swR p gs (k + 1) = swR p gs k ++ [row]) := Lib.hid (by rw [hrow]; exact swR_succ p gs k)
      have HRL := Lib.hid hrl
      have HROW := Lib.hid hrow
      generalize hRk : gs[k] = Rk at *
      obtain ⟨L, l, r'⟩ := Rk
      simp only at a0 a1 a2 hfk
      have hbk := (Below.refl _ wo).alloc (Nat.le_refl _) (.cells #[.string L, .int .i64 l, .int .i64 r'] 127)
      have hK := heap_alloc_new wo (.cells #[.string L, .int .i64 l, .int .i64 r'] 127)
      have hsk : (wo.alloc (.cells #[.string L, .int .i64 l, .int .i64 r'] 127)).heap.size = wo.heap.size + 1 := by simp
      clear hrow hc hak hrl
      go_upto_region 13 with fail
      generalize wo.alloc (.cells #[.string L, .int .i64 l, .int .i64 r'] 127) = wk at *
      obtain ⟨Kp, hKp⟩ : ∃ Kp, Kp = wo.heap.size := ⟨_, rfl⟩
      rw [← hKp] at hK hsk ⊢
      have HK7 := Lib.hid hK
      have HBK := Lib.hid hbk
      have HSKS := Lib.hid hsk
      have HKPE := Lib.hid hKp
      have HRS := Lib.hid (rst_start wk row)
      clear hK hbk hsk hKp a0 a1 a2 hgo hm hB hlenU
      go_wp2_with fail
      go_loopw [10, 11] (fun tv i wr => ∃ s : Nat, s ≤ n ∧ i = .int .i64 s ∧ RSt wk row s tv wr) (fun _ i _ => n - (intOf i).toNat)
      case atStart => exact ⟨0, by omega, rfl, HRS.out⟩
      case round =>
        obtain ⟨s, hs, rfl, hst⟩ := hrel
        obtain ⟨wu, rfl⟩ : ∃ wu : World, wu = wr := ⟨_, rfl⟩
        by_cases hsn : s < n
        · have hlr : s < row.length := by rw [HRL.out]; exact hsn
          have HLR := Lib.hid hlr
          have HSR := Lib.hid hst
          obtain ⟨A3, c3, hA3⟩ := own_slice hst.1
          rw [List.length_take, Nat.min_eq_left (by omega)] at hA3
          subst hA3
          have hKl : Kp < wk.heap.size := by have := HSKS.out; omega
          have hKu := (hst.2.block Kp hKl).trans HK7.out
          have kc0 : wu.cell? ⟨Kp, 0, none⟩ = some (.string L) := cell_of_row _ _ 0 _ _ _ hKu
          have kc1 : wu.cell? ⟨Kp, 1, none⟩ = some (.int .i64 l) := cell_of_row _ _ 1 _ _ _ hKu
          have kc2 : wu.cell? ⟨Kp, 2, none⟩ = some (.int .i64 r') := cell_of_row _ _ 2 _ _ _ hKu
          have HO : Hid (∀ o, (wu.alloc o).ownsRow wk.heap.size 2 1 (.slice A3 s c3) s (iv (row.take s))) := Lib.hid (fun o => by
            have := hst.1.alloc o
            rwa [List.length_take, Nat.min_eq_left (by omega)] at this)
          have HOW : Hid (∀ W, Below wu.heap.size wu W → W.ownsRow wk.heap.size 2 1 (.slice A3 s c3) s (iv (row.take s))) := Lib.hid (fun W hb => by
            have := own_below hst.1 hb (Nat.le_refl _)
            unfold OwnsI at this
            rwa [List.length_take, Nat.min_eq_left (by omega)] at this)
          have hws : wk.heap.size ≤ wu.heap.size := hst.2.size
          have hwko : wo.heap.size ≤ wk.heap.size := HBK.out.size
          have HBU := Lib.hid (HBK.out.trans (hst.2.mono hwko))
          have s0 : (0 : Int) ≤ (s : Int) := by omega
          have s1 : (s : Int) < (n : Int) := by omega
          have hrs : row[s]'hlr = (swAt p gs k).getD s 0 := by
            obtain ⟨_, e⟩ := row_get (zs := row) HRL.out hsn
            rw [e, HROW.out]
          by_cases h0 : L.size = 0
          · have hp' := (ok_pair (x := ⟨L, l, r'⟩) h0).1 hfk
            simp only at hp'
            obtain ⟨a, ha⟩ : ∃ a : Nat, l = a := ⟨l.toNat, by omega⟩
            obtain ⟨b, hb⟩ : ∃ b : Nat, r' = b := ⟨r'.toNat, by omega⟩
            subst ha hb
            have he := empty_list h0
            have hL0 : L = ⟨#[]⟩ := ByteArray.ext (Array.toList_inj.1 (by simpa using he))
            subst hL0
            have hak : a < k := by omega
            have hbk : b < k := by omega
            have hvk : swAt p gs k = swJ p.size (swAt p gs a) (swAt p gs b) := valAt_pair (gOk_iff.1 HOK.out).2.1 hkg (by rw [hRk]; exact h0) (by rw [hRk]) (by rw [hRk]) hak hbk
            have hoa := swAt_ok (p := p) hp0 HOK.out (k := a) (by omega)
            have hob := swAt_ok (p := p) hp0 HOK.out (k := b) (by omega)
            have hla := small_at (gOk_iff.1 HOK.out).2.2 a (by omega)
            have hlb := small_at (gOk_iff.1 HOK.out).2.2 b (by omega)
            rw [← HN.out] at hvk hoa hob
            have hM7 := HM.out.1.kept HBK.out
            have hUl := HLU.out
            obtain ⟨gy, rfl, _, _⟩ := own_addr (by have := hM7.outer; rw [hUl] at this; exact this) (show 0 < k by omega)
            have cA : wk.cell? ⟨gy, a, none⟩ = U[a]? := by
              have := hM7.outer
              rw [hUl] at this
              exact this.cellAt a (by omega)
            have cB : wk.cell? ⟨gy, b, none⟩ = U[b]? := by
              have := hM7.outer
              rw [hUl] at this
              exact this.cellAt b (by omega)
            have hoA := hM7.rows.row a _ _ (List.getElem?_eq_getElem (by omega)) (swR_get (p := p) (gs := gs) hak)
            have hoB := hM7.rows.row b _ _ (List.getElem?_eq_getElem (by omega)) (swR_get (p := p) (gs := gs) hbk)
            rw [List.getElem?_eq_getElem (by omega)] at cA cB
            generalize U[a]'(by omega) = ua at *
            generalize U[b]'(by omega) = ub at *
            obtain ⟨A4, c4, hA4⟩ := own_slice hoA
            obtain ⟨A5, c5, hA5⟩ := own_slice hoB
            rw [hoa.1] at hA4
            rw [hob.1] at hA5
            unfold OwnsI at hoA hoB
            rw [hoa.1, hA4] at hoA
            rw [hob.1, hA5] at hoB
            obtain ⟨ga, rfl, _, _⟩ := own_addr hoA hn0
            obtain ⟨gb, rfl, _, _⟩ := own_addr hoB hn0
            subst hA4 hA5
            have hub := hoa.2 s hsn
            obtain ⟨m, hm⟩ : ∃ m : Nat, (swAt p gs a).getD s 0 = m := ⟨((swAt p gs a).getD s 0).toNat, by omega⟩
            obtain ⟨r, hr⟩ : ∃ r, r = (s + m) % n := ⟨_, rfl⟩
            have hrn : r < n := by rw [hr]; exact Nat.mod_lt _ hn0
            have hvb := hob.2 r hrn
            obtain ⟨z, hz⟩ : ∃ z, z = (swAt p gs b).getD r 0 := ⟨_, rfl⟩
            have dA : wk.cell? ⟨ga, s, none⟩ = some (.int .i64 (m : Int)) := by
              rw [hoA.cellAt s (by omega), iv_at (by rw [hoa.1]; exact hsn), hm]
            have dB : wk.cell? ⟨gb, r, none⟩ = some (.int .i64 z) := by
              rw [hoB.cellAt r (by omega), iv_at (by rw [hob.1]; exact hrn), hz]
            have HZR : Hid (row[s]'HLR.out = (m : Int) + z) := Lib.hid (by
              rw [hrs, hvk]
              unfold swJ
              rw [rowF_getD hsn, hm, Int.toNat_natCast, ← hr, ← hz])
            rw [hm] at hub
            rw [← hz] at hvb
            have hsum : IntKind.i64.wrap ((s : Int) + (m : Int)) = (s : Int) + (m : Int) := by rw [IntKind.wrap_i64]; omega
            have hrem : ((s : Int) + (m : Int)).tmod (n : Int) = (r : Int) := by
              rw [Int.tmod_eq_emod_of_nonneg (by omega), hr]
              push_cast
              rfl
            have hrw : IntKind.i64.wrap (r : Int) = (r : Int) := by rw [IntKind.wrap_i64]; omega
            have haw : IntKind.i64.wrap ((m : Int) + z) = (m : Int) + z := by rw [IntKind.wrap_i64]; omega
            have r0 : (0 : Int) ≤ (r : Int) := by omega
            have r1 : (r : Int) < (n : Int) := by omega
            have hnz3 : ¬ n = 0 := by omega
            have a0' : (0 : Int) ≤ (a : Int) := by omega
            have a1' : (a : Int) < (k : Int) := by omega
            have b0' : (0 : Int) ≤ (b : Int) := by omega
            have b1' : (b : Int) < (k : Int) := by omega
            have HST3 : Hid (∀ w8 : World, Below wk.heap.size wk w8 → w8.cell? ⟨Kp, 2, none⟩ = some (.int .i64 (b : Int)) ∧ w8.cell? ⟨gy, b, none⟩ = some (.slice (some ⟨gb, 0, none⟩) n c5) ∧ w8.cell? ⟨gb, r, none⟩ = some (.int .i64 z)) := Lib.hid (fun w8 hb => ⟨cell_of_row _ _ 2 _ _ _ ((hb.block Kp hKl).trans HK7.out), (hb.cell (lt_of_cell cB)).trans cB, (hb.cell (lt_of_cell dB)).trans dB⟩)
            have cA := (hst.2.cell (lt_of_cell cA)).trans cA
            have cB := (hst.2.cell (lt_of_cell cB)).trans cB
            have dA := (hst.2.cell (lt_of_cell dA)).trans dA
            have dB := (hst.2.cell (lt_of_cell dB)).trans dB
            have HF := Lib.hid (And.intro kc2 (And.intro cB dB))
            clear hp' hvk hoa hob hla hlb hM7 hUl hoA hoB hm hr hz hst hrs h0 hfk hRk
            go_upto_region 19 with fail
            go_region_held3 (fun w' => w'.cell? ⟨Kp, 2, none⟩ = some (.int .i64 (b : Int)) ∧ w'.cell? ⟨gy, b, none⟩ = some (.slice (some ⟨gb, 0, none⟩) n c5) ∧ w'.cell? ⟨gb, r, none⟩ = some (.int .i64 z))
              (first | exact HF.out | exact HS8.out | go_keep)
              (first
                | (refine step_append_lies _ (by rfl) _ _ 22 (by rfl) wk.heap.size 2 j0 (.int .i64 0) 1 8 Try.underlying22 hj hy0 hy1 hy2 (by rfl) (by decide) (.slice A3 s c3) s (iv (row.take s)) (by rfl) ?_ ⟨wu.heap.size, 0, none⟩ 1 1 [.int .i64 ((m : Int) + z)] (by rfl) (by rfl) ?_ (one_int _ _) (by decide) ?_ ?_ ?_ (wu.heap.size + 1) ?_ ?_
                   skip
                   (first | exact own_drewN (HOW.out _ ((Below.refl _ wu).alloc (Nat.le_refl _) _)) 1 | exact HOW.out _ ((Below.refl _ wu).alloc (Nat.le_refl _) _))
                   (first | exact one_newD wu _ _ | exact one_new wu _ _)
                   (unfold maxLen; omega)
                   omega
                   (simp; omega)
                   simp
                   intro g8 c8 w8 hown' hgrow _ _
                   have hG : (wu.alloc (.cells #[.int .i64 ((m : Int) + z)] 2)).grownBy w8 (Value.slice A3 s c3).ownBlock := by first | exact hgrow | exact grown_undrew hgrow
                   have HN8 := Lib.hid (RSt.append HSR.out HLR.out HZR.out hown' hG)
                   have HS8 := Lib.hid (HST3.out w8 HN8.out.2)
                   clear hG hown' hgrow))
            all_goals
              go_wp2_with fail
              go_roundw
              all_goals first | exact ⟨s + 1, by omega, by go_num, HN8.out⟩ | ((repeat apply Exists.intro); exact ⟨⟨s + 1, by omega, by go_num, HN8.out⟩, rfl⟩) | (simp [intOf]; done) | (simp [intOf]; omega) | omega
          · obtain ⟨bt, hL, hb1, hb2, hno⟩ := letter_byte (x := ⟨L, l, r'⟩) h0 hfk
            simp only at hL
            subst hL
            have hvk : swAt p gs k = swF p (ltNo gs[k]) := valAt_letter hkg (by rw [hRk]; exact h0)
            have hsp : s < p.size := by rw [← HN.out]; exact hsn
            have hbe := byte_extract hsp
            have hgb := getD_byte hsp
            have hsp1 : (s : Int) + 1 ≤ (p.size : Int) := by omega
            by_cases e : p[s]'hsp = bt
            · have HZR : Hid (row[s]'HLR.out = 1) := Lib.hid (by
                rw [hrs, hvk, hRk, hno]
                unfold swF
                rw [rowF_getD hsp, hgb, if_pos (by rw [e]; omega)])
              rw [e] at hbe
              clear hvk hgb e hno hrs hst h0 hfk hRk hb1 hb2
              go_upto_region 20 with fail
              go_quiet (fail)
              have HSR2 := Lib.hid (HSR.out.kept (below_drewN (Below.refl _ wu) nq))
              go_wp2_with (first | (at_builtin; refine wpList_append_own _ rfl _ _ 22 rfl wk.heap.size 2 j0 (.int .i64 0) 1 8 Try.underlying22 hj hy0 hy1 hy2 rfl (by decide) _ _ _ rfl (HO.out _) ⟨wu.heap.size, 0, none⟩ 1 1 [.int .i64 1] rfl rfl (one_new _ _ _) (one_int _ _) (by unfold maxLen; omega) (by omega) (by simp; omega) ?_))
              intro v' w8 hown' hgr _
              have HN8 := Lib.hid (RSt.append HSR2.out HLR.out HZR.out hown' hgr)
              clear hown' hgr
              go_wp2_with fail
              go_roundw
              all_goals first | exact ⟨s + 1, by omega, by go_num, HN8.out⟩ | ((repeat apply Exists.intro); exact ⟨⟨s + 1, by omega, by go_num, HN8.out⟩, rfl⟩) | (simp [intOf]; done) | (simp [intOf]; omega) | omega
            · have HZR : Hid (row[s]'HLR.out = 0) := Lib.hid (by
                rw [hrs, hvk, hRk, hno]
                unfold swF
                rw [rowF_getD hsp, hgb, if_neg (fun h => e (UInt8.toNat_inj.1 (by omega)))])
              have hne : ¬ (⟨#[p[s]'hsp]⟩ : ByteArray) = ⟨#[bt]⟩ := by
                intro h
                injection h with h
                injection h with h
                injection h with h
                exact e h
              have hne2 : decide ((⟨#[p[s]'hsp]⟩ : ByteArray) = ⟨#[bt]⟩) = false := decide_eq_false hne
              have hx1 : (p[s]'hsp == bt) = false := by rw [beq_eq_false_iff_ne]; exact e
              have hx2 : ([p[s]'hsp] == [bt]) = false := by simp [e]
              have hx3 : decide (p[s]'hsp = bt) = false := decide_eq_false e
              have hx4 := e
              generalize p[s]'hsp = x at *
              clear hvk hgb e hno hrs hst h0 hfk hRk hb1 hb2
              go_upto_region 20 with fail
              go_quiet (fail)
              have HSR2 := Lib.hid (HSR.out.kept (below_drewN (Below.refl _ wu) nq))
              go_wp2_with (first | (at_builtin; refine wpList_append_own _ rfl _ _ 22 rfl wk.heap.size 2 j0 (.int .i64 0) 1 8 Try.underlying22 hj hy0 hy1 hy2 rfl (by decide) _ _ _ rfl (HO.out _) ⟨wu.heap.size, 0, none⟩ 1 1 [.int .i64 0] rfl rfl (one_new _ _ _) (one_int _ _) (by unfold maxLen; omega) (by omega) (by simp; omega) ?_))
              intro v' w8 hown' hgr _
              have HN8 := Lib.hid (RSt.append HSR2.out HLR.out HZR.out hown' hgr)
              clear hown' hgr
              go_wp2_with fail
              go_roundw
              all_goals first | exact ⟨s + 1, by omega, by go_num, HN8.out⟩ | ((repeat apply Exists.intro); exact ⟨⟨s + 1, by omega, by go_num, HN8.out⟩, rfl⟩) | (simp [intOf]; done) | (simp [intOf]; omega) | omega
        · obtain rfl : s = n := by omega
          have hO4 := hst.1
          rw [List.take_of_length_le (by rw [HRL.out]; exact Nat.le_refl _)] at hO4
          have HO4 := Lib.hid (own_lower hO4 (show wo.heap.size ≤ wk.heap.size from HBK.out.size))
          obtain ⟨A9, c9, hA9⟩ := own_slice hO4
          rw [HRL.out] at hA9
          subst hA9
          have HBU := Lib.hid (HBK.out.trans (hst.2.mono HBK.out.size))
          have hws : w1.heap.size ≤ wu.heap.size := Nat.le_trans HM.out.2.size HBU.out.size
          have HOUT : Hid (∀ o, (wu.alloc o).ownsRow w1.heap.size 22 1 (.slice Ay k cy) k U) := Lib.hid (fun o => by
            have := ((HM.out.1.kept HBU.out).outer.alloc o)
            rwa [HLU.out] at this)
          clear hO4 hst
          go_wp2_with (first | (at_builtin; refine wpList_append_own _ rfl _ _ 23 rfl w1.heap.size 22 i0 (.slice none 0 0) 1 24 Try.underlying23 hi hz0 hz1 hz2 rfl (by decide) _ _ _ rfl (HOUT.out _) ⟨wu.heap.size, 0, none⟩ 1 1 [.slice A9 s c9] rfl rfl (one_new _ _ _) (one_slice _ _ _) (by unfold maxLen; omega) (by omega) (by simp; omega) ?_))
          intro y' w6 hown hg6 _
          have HST6 : Hid (MSt w1 (swR p gs (k + 1)) y' w6) := Lib.hid (by
            rw [HNXR.out]
            exact MSt.append HM.out HBU.out HO4.out (by rw [HLU.out]; exact hown) hg6)
          clear hown hg6
          go_wp2_with fail
          go_roundw
          all_goals first | exact ⟨k + 1, by omega, by go_num, HST6.out⟩ | ((repeat apply Exists.intro); exact ⟨⟨k + 1, by omega, by go_num, HST6.out⟩, rfl⟩) | (simp [intOf]; done) | (simp [intOf]; omega) | omega
    · obtain rfl : k = NG := by omega
      obtain ⟨q, hq⟩ : ∃ q : Nat, k = q + 1 := ⟨k - 1, by omega⟩
      have hql : q < gs.length := by have := HNG.out; omega
      have hoq := swAt_ok (p := p) hp0 HOK.out hql
      rw [← HN.out] at hoq
      obtain ⟨gy, rfl, _, _⟩ := own_addr (by have := hm.outer; rw [hlenU] at this; exact this) (show 0 < k by omega)
      have cQ : wo.cell? ⟨gy, q, none⟩ = U[q]? := by
        have := hm.outer
        rw [hlenU] at this
        exact this.cellAt q (by omega)
      have hoQ := hm.rows.row q _ _ (List.getElem?_eq_getElem (by omega)) (swR_get (p := p) (gs := gs) (k := k) (by omega))
      rw [List.getElem?_eq_getElem (by omega)] at cQ
      generalize U[q]'(by omega) = uq at *
      obtain ⟨A5, c5, hA5⟩ := own_slice hoQ
      rw [hoq.1] at hA5
      unfold OwnsI at hoQ
      rw [hoq.1, hA5] at hoQ
      obtain ⟨gq, rfl, _, _⟩ := own_addr hoQ hn0
      subst hA5
      have dQ : wo.cell? ⟨gq, 0, none⟩ = some (.int .i64 ((swAt p gs q).getD 0 0)) := by
        rw [hoQ.cellAt 0 (by omega), iv_at (by rw [hoq.1]; exact hn0)]
      have hb0 := hoq.2 0 hn0
      have hlq := small_at (gOk_iff.1 HOK.out).2.2 q hql
      have HWW : Hid (swW p gs = swAt p gs q) := Lib.hid (by
        unfold swW
        rw [if_neg (by omega), show gs.length - 1 = q from by have := HNG.out; omega])
      obtain ⟨v, hv⟩ : ∃ v : Nat, (swAt p gs q).getD 0 0 = v := ⟨((swAt p gs q).getD 0 0).toNat, by omega⟩
      have HANS : Hid ((swW p gs).getD 0 0 / (n : Int) = (v : Int) / (n : Int)) := Lib.hid (by rw [HWW.out, hv])
      rw [hv] at dQ hb0
      have hdv : ((v : Int)).tdiv (n : Int) = (v : Int) / (n : Int) := Int.tdiv_eq_ediv_of_nonneg (by omega)
      have hd0 : 0 ≤ (v : Int) / (n : Int) := Int.ediv_nonneg (by omega) (by omega)
      have hd1 : (v : Int) / (n : Int) ≤ (v : Int) := Int.ediv_le_self _ (by omega)
      have hdw : IntKind.i64.wrap ((v : Int) / (n : Int)) = (v : Int) / (n : Int) := by rw [IntKind.wrap_i64]; omega
      have hq0 : (0 : Int) ≤ (q : Int) := by omega
      have hkq : (k : Int) - 1 = (q : Int) := by omega
      have hkw : IntKind.i64.wrap ((k : Int) - 1) = (q : Int) := by rw [IntKind.wrap_i64]; omega
      have hq1 : (q : Int) < (k : Int) := by omega
      have HBE := Lib.hid (HB1.out.trans (hB.mono HB1.out.size))
      clear hm hB hoQ hoq hv hq hlenU hql hlq
      go_wp2_with fail
      go_ret2
      exact ⟨by rw [HANS.out]; rfl, HBE.out⟩
end Go.Proofs.Ytaffachjopjbgaa
namespace Go.Proofs.Ytaffachjopjbgaa
open Go.RowKit
open Wd
set_option linter.unusedVariables false
set_option linter.unusedSimpArgs false
theorem bs_drewS {u v : World} (h : Below u.heap.size u v) : Below u.heap.size u v.drew := below_drewN h 1
theorem bs_allocS {u v : World} (h : Below u.heap.size u v) (o : Obj) : Below u.heap.size u (v.alloc o) := h.alloc h.size o
theorem bs_callS {u v w : World} (h : Below u.heap.size u v) (hc : Below v.heap.size v w) : Below u.heap.size u w := h.trans (hc.mono h.size)
theorem blk6_cellsS {w : World} {R : Nat} {t : TypeId} {a b c d e f : Value} (h : w.heap[R]? = some (.cells #[a, b, c, d, e, f] t (0, 0))) :
    (w.cell? ⟨R, 0, none⟩ = some a ∧ w.cell? ⟨R, 1, none⟩ = some b ∧ w.cell? ⟨R, 2, none⟩ = some c ∧ w.cell? ⟨R, 3, none⟩ = some d ∧ w.cell? ⟨R, 4, none⟩ = some e ∧ w.cell? ⟨R, 5, none⟩ = some f) ∧ (w.frozen? ⟨R, 0, none⟩ = false ∧ w.frozen? ⟨R, 1, none⟩ = false ∧ w.frozen? ⟨R, 2, none⟩ = false ∧ w.frozen? ⟨R, 3, none⟩ = false ∧ w.frozen? ⟨R, 4, none⟩ = false ∧ w.frozen? ⟨R, 5, none⟩ = false) := by
  refine ⟨⟨?_, ?_, ?_, ?_, ?_, ?_⟩, ?_, ?_, ?_, ?_, ?_, ?_⟩
  · rw [cell_of_row _ _ _ _ _ _ h]; rfl
  · rw [cell_of_row _ _ _ _ _ _ h]; rfl
  · rw [cell_of_row _ _ _ _ _ _ h]; rfl
  · rw [cell_of_row _ _ _ _ _ _ h]; rfl
  · rw [cell_of_row _ _ _ _ _ _ h]; rfl
  · rw [cell_of_row _ _ _ _ _ _ h]; rfl
  all_goals simp [World.frozen?, h]
theorem blk6_allS {w : World} {R : Nat} {t : TypeId} {a b c d e f a' b' c' d' e' f' : Value} (h : w.heap[R]? = some (.cells #[a, b, c, d, e, f] t (0, 0))) :
    ((((((w.setCell ⟨R, 0, none⟩ a').setCell ⟨R, 1, none⟩ b').setCell ⟨R, 2, none⟩ c').setCell ⟨R, 3, none⟩ d').setCell ⟨R, 4, none⟩ e').setCell ⟨R, 5, none⟩ f').heap[R]? = some (.cells #[a', b', c', d', e', f'] t (0, 0)) := by
  simp [World.setCell, Array.getElem?_modify, h]
theorem there6S {w : World} {F : Nat} {t : TypeId} {a b c d e f : Value} (hV : w.heap[F]? = some (.cells #[a, b, c, d, e, f] t (0, 0))) : w.there F 0 6 := by
  intro j hj
  refine ⟨?_, frozen_of_row _ _ _ _ _ hV⟩
  rw [cell_of_row _ _ _ _ _ _ hV]
  obtain rfl | rfl | rfl | rfl | rfl | rfl : j = 0 ∨ j = 1 ∨ j = 2 ∨ j = 3 ∨ j = 4 ∨ j = 5 := by omega
  all_goals rfl
theorem one6S (A0 Ag A1 A2 : Option Addr) (n PB n0 cg n1 c1 n2 c2 k : Nat) : (swAll A0 n k PB (.slice Ag n0 cg) (.slice A1 n1 c1) (.slice A2 n2 c2)).all (·.oneCell') = true :=
  all_oneCell_toArray (cs := [.slice A0 n k, swL PB, swT PB, .slice Ag n0 cg, .slice A1 n1 c1, .slice A2 n2 c2]) (by intro v hv; simp only [List.mem_cons, List.not_mem_nil, or_false] at hv; rcases hv with rfl | rfl | rfl | rfl | rfl | rfl <;> rfl)
/-- the fold in a box of its own -/
structure SwBox (w4 : World) (A0 : Option Addr) (n PB : Nat) (p : ByteArray) (gv : Value) (gs : List Rl) (F : Nat) (lv vv : Value) (wx : World) : Prop where
  box : wx.heap[F]? = some (.cells (swAll A0 n n PB gv lv vv) 176 (0, 0))
  is : IsSw wx w4.heap.size A0 n n PB p (.agg (swAll A0 n n PB gv lv vv)) gv gs
  ev : IsL wx (.slice A0 n n) (List.replicate n 0)
  below : Below w4.heap.size w4 wx
theorem IsSw.lower {w : World} {lo B : Nat} {A0 : Option Addr} {n0 c0 PB : Nat} {p : ByteArray} {fv gv : Value} {gs : List Rl} (h : IsSw w lo A0 n0 c0 PB p fv gv gs) (hB : B ≤ lo) : IsSw w B A0 n0 c0 PB p fv gv gs := by
  obtain ⟨lv, vv, U, h0, h1, h2, h3, h4⟩ := h
  exact ⟨lv, vv, U, h0, own_lower h1 hB, own_lower h2 hB, h3, fun i u hu => own_lower (h4 i u hu) hB⟩
theorem IsSw.setLow {w : World} {lo : Nat} {A0 : Option Addr} {n0 c0 PB : Nat} {p : ByteArray} {fv gv : Value} {gs : List Rl} (h : IsSw w lo A0 n0 c0 PB p fv gv gs) (q : Addr) (x : Value) (hq : q.block < lo) : IsSw (w.setCell q x) lo A0 n0 c0 PB p fv gv gs := by
  obtain ⟨lv, vv, U, h0, h1, h2, h3, h4⟩ := h
  exact ⟨lv, vv, U, h0, own_setLow h1 q x hq, own_setLow h2 q x hq, h3, fun i u hu => own_setLow (h4 i u hu) q x hq⟩
theorem add_block (E j : Nat) : ((⟨E, 0, none⟩ : Addr).add j).block = E := by
  unfold Addr.add
  split <;> rfl
theorem add_zero (E j : Nat) : (⟨E, 0, none⟩ : Addr).add j = ⟨E, j, none⟩ := by
  unfold Addr.add
  split
  · rename_i h; subst h; rfl
  · simp
theorem isL_set {w : World} {E n c : Nat} {zs : List Int} (h : IsL w (.slice (some ⟨E, 0, none⟩) n c) zs) (q : Addr) (x : Value) (hq : E ≠ q.block) : IsL (w.setCell q x) (.slice (some ⟨E, 0, none⟩) n c) zs := by
  obtain ⟨A, c', hv, hc⟩ := h
  injection hv with hA hn hcc
  subst hA hn hcc
  refine ⟨_, _, rfl, ?_⟩
  rcases hc with hc | ⟨a, ha, hc⟩
  · exact .inl hc
  · injection ha with ha
    subst ha
    exact .inr ⟨_, rfl, fun j hj => (World.cell?_of_block (Below.heap_setCell w q x _ (by rw [add_block]; exact hq))).trans (hc j hj)⟩
theorem SwBox.new {w4 w9 : World} {E n PB : Nat} {p : ByteArray} {gv lv vv : Value} {gs : List Rl} (h : IsSw w9 w4.heap.size (some ⟨E, 0, none⟩) n n PB p (.agg (swAll (some ⟨E, 0, none⟩) n n PB gv lv vv)) gv gs) (he : IsL w9 (.slice (some ⟨E, 0, none⟩) n n) (List.replicate n 0)) (hb : Below w4.heap.size w4 w9) :
    SwBox w4 (some ⟨E, 0, none⟩) n PB p gv gs w9.heap.size lv vv (w9.alloc (.cells (swAll (some ⟨E, 0, none⟩) n n PB gv lv vv) 176)) :=
  ⟨heap_alloc_new w9 _, h.kept ((Below.refl _ w9).alloc (Nat.le_refl _) _), he.kept ((Below.refl _ w9).alloc (Nat.le_refl _) _), hb.alloc hb.size _⟩
theorem SwBox.old {w4 w9 : World} {E F n PB : Nat} {p : ByteArray} {gv lv vv : Value} {gs : List Rl} {a b c d e f : Value} (h : IsSw w9 (F + 1) (some ⟨E, 0, none⟩) n n PB p (.agg (swAll (some ⟨E, 0, none⟩) n n PB gv lv vv)) gv gs) (he : IsL w9 (.slice (some ⟨E, 0, none⟩) n n) (List.replicate n 0)) (hEF : E ≠ F) (hV : w9.heap[F]? = some (.cells #[a, b, c, d, e, f] 176 (0, 0))) (hF : w4.heap.size ≤ F) (hb : Below w4.heap.size w4 w9) :
    SwBox w4 (some ⟨E, 0, none⟩) n PB p gv gs F lv vv ((((((w9.setCell ⟨F, 0, none⟩ (.slice (some ⟨E, 0, none⟩) n n)).setCell ⟨F, 1, none⟩ (swL PB)).setCell ⟨F, 2, none⟩ (swT PB)).setCell ⟨F, 3, none⟩ gv).setCell ⟨F, 4, none⟩ lv).setCell ⟨F, 5, none⟩ vv) :=
  ⟨blk6_allS hV, ((((((h.setLow ⟨F, 0, none⟩ _ (Nat.lt_succ_self _)).setLow ⟨F, 1, none⟩ _ (Nat.lt_succ_self _)).setLow ⟨F, 2, none⟩ _ (Nat.lt_succ_self _)).setLow ⟨F, 3, none⟩ _ (Nat.lt_succ_self _)).setLow ⟨F, 4, none⟩ _ (Nat.lt_succ_self _)).setLow ⟨F, 5, none⟩ _ (Nat.lt_succ_self _)).lower (by omega),
    isL_set (isL_set (isL_set (isL_set (isL_set (isL_set he ⟨F, 0, none⟩ _ hEF) ⟨F, 1, none⟩ _ hEF) ⟨F, 2, none⟩ _ hEF) ⟨F, 3, none⟩ _ hEF) ⟨F, 4, none⟩ _ hEF) ⟨F, 5, none⟩ _ hEF, (((((hb.setCell hF _).setCell hF _).setCell hF _).setCell hF _).setCell hF _).setCell hF _⟩
theorem zero_isL (w : World) (n : Nat) (ZO : Obj) (hZ : ZO = .cells (madeCells #[.int .i64 0] n) 2) : IsL (w.alloc ZO) (.slice (some ⟨w.heap.size, 0, none⟩) n n) (List.replicate n 0) := by
  subst hZ
  refine ⟨_, _, by rw [List.length_replicate], .inr ⟨_, rfl, fun j hj => ?_⟩⟩
  have h1 := heap_alloc_new w (.cells (madeCells #[.int .i64 0] n) 2)
  have h2 := cell_of_row (w.alloc (.cells (madeCells #[.int .i64 0] n) 2)) w.heap.size j _ _ _ h1
  rw [List.length_replicate] at hj
  rw [add_zero, h2, ← Array.getElem?_toList, made_i64, iv_at (by simpa using hj)]
  simp [hj]
set_option maxRecDepth 100000 in
set_option maxHeartbeats 12800000 in
theorem implSparePower (gv : Value) (gs : List Rl) (p : ByteArray) (w : World) (hfr : FewR gs) (hr : Rules w gv gs) (hpm : p.size ≤ maxLen) :
    Calls Try.prog 65 #[.agg #[gv], .string p] w fun e w' => e = .returned (.tuple #[.int .i64 (swA gs p).1, .int .i64 (swA gs p).2]) ∧ Below w.heap.size w w' := by
  have hb1 := (Below.refl _ w).alloc (Nat.le_refl _) (.cells #[gv] 37)
  have hg1 := cell_new w gv 37
  have hb2 := (Below.refl _ (w.alloc (.cells #[gv] 37))).alloc (Nat.le_refl _) (.cells #[.string p] 9)
  have hp2 := cell_new (w.alloc (.cells #[gv] 37)) (.string p) 9
  rw [show (w.alloc (.cells #[gv] 37)).heap.size = w.heap.size + 1 from by simp] at hp2
  have HB := Lib.hid (hb1.trans (hb2.mono hb1.size))
  have HG := Lib.hid ((hb2.cell (lt_of_cell hg1)).trans hg1)
  have HP := Lib.hid hp2
  have HV := Lib.hid (implValidGrammar gv gs _ hfr (hr.kept (hb1.trans (hb2.mono hb1.size))))
  have HK := Lib.hid (fun W => implOk p W hpm)
  have HRU := Lib.hid (fun W (hb : Below w.heap.size w W) => hr.kept hb)
  obtain ⟨Ag, cg, rfl, _⟩ := hr
  clear hb1 hg1 hb2 hp2
  unfold swA
  cases hok : gOk gs
  · rw [hok] at HV
    rw [if_neg (by simp)]
    clear hok
    go_enter Try.func65, Try.ntmps65
    go_wp2_with fail
    refine HV.out.mono ?_
    rintro e w1 ⟨rfl, hB1⟩
    have HB1 := Lib.hid (HB.out.trans (hB1.mono HB.out.size))
    clear hB1
    go_wp2_with fail
    go_ret2
    exact ⟨rfl, HB1.out⟩
  rw [hok] at HV
  cases ho : okL p.data.toList
  · rw [ho] at HK
    rw [if_neg (by simp)]
    clear hok ho
    go_enter Try.func65, Try.ntmps65
    go_wp2_with fail
    refine HV.out.mono ?_
    rintro e w1 ⟨rfl, hB1⟩
    have HB1 := Lib.hid (HB.out.trans (hB1.mono HB.out.size))
    have hp1 := (hB1.cell (lt_of_cell HP.out)).trans HP.out
    clear hB1
    go_wp2_with fail
    refine (HK.out _).mono ?_
    rintro e w2 ⟨rfl, rfl⟩
    go_wp2_with fail
    go_ret2
    exact ⟨rfl, HB1.out⟩
  rw [ho] at HK
  rw [if_pos ⟨rfl, rfl⟩]
  have hp : p.size ≤ 2000 := by
    unfold okL at ho
    rw [Bool.and_eq_true, decide_eq_true_iff] at ho
    have h1 := ho.1
    have h2 : p.data.toList.length = p.size := by simp
    omega
  by_cases hp0 : p.size = 0
  · rw [if_pos hp0]
    have hpe : p = ⟨#[]⟩ := ByteArray.ext (Array.toList_inj.1 (by have h2 : p.data.toList.length = p.size := by simp
                                                                  simpa using List.eq_nil_of_length_eq_zero (h2.trans hp0)))
    subst hpe
    clear hok ho hp hp0
    go_enter Try.func65, Try.ntmps65
    go_wp2_with fail
    refine HV.out.mono ?_
    rintro e w1 ⟨rfl, hB1⟩
    have HB1 := Lib.hid (HB.out.trans (hB1.mono HB.out.size))
    have hp1 := (hB1.cell (lt_of_cell HP.out)).trans HP.out
    clear hB1
    go_wp2_with fail
    refine (HK.out _).mono ?_
    rintro e w2 ⟨rfl, rfl⟩
    go_wp2_with fail
    go_ret2
    exact ⟨rfl, HB1.out⟩
  rw [if_neg hp0]
  have hp0 : 0 < p.size := by omega
  obtain ⟨n, hn⟩ : ∃ n, n = p.size := ⟨_, rfl⟩
  have HN := Lib.hid hn
  have hn0 : 0 < n := by omega
  have hn2 : n ≤ 2000 := by omega
  have hpn : (p.size : Int) = (n : Int) := by rw [hn]
  have HPN := Lib.hid hpn
  have hnz : ¬ (n : Int) = 0 := by omega
  have hnz4 : ((n : Int) == 0) = false := by rw [beq_eq_false_iff_ne]; exact hnz
  have hdz : (p.toList == ([] : List UInt8)) = false := by
    rw [ByteArray.toList_eq, beq_eq_false_iff_ne]
    intro h
    have h2 : p.data.toList.length = p.size := by simp
    rw [h] at h2
    simp at h2
    omega
  have hdz2 : (p.data.toList == ([] : List UInt8)) = false := by rw [← ByteArray.toList_eq]; exact hdz
  have HOK := Lib.hid hok
  obtain ⟨i0, hi, hz0, hz1, hz2⟩ := info_parts Try.info_int64
  obtain ⟨ZO, hZO⟩ : ∃ ZO : Obj, ZO = .cells (madeCells #[.int .i64 0] n) 2 := ⟨_, rfl⟩
  have hmk : ∀ W : World, (Instr.makeSlice 22 (.int .i64 (n : Int)) (.int .i64 (n : Int))).run Try.prog W = .ok (.slice (some ⟨W.heap.size, 0, none⟩) n n) (W.alloc ZO) := fun W => by
    have := run_makeSlice (P := Try.prog) W 22 2 i0 (.int .i64 0) Try.underlying22 hi hz0 .i64 .i64 (n : Int) (n : Int) (by omega) (Int.le_refl _) (by rw [hz1]; omega) (by rw [hz2]; omega) (by omega)
    rw [Int.toNat_natCast, hz1, Nat.mul_one] at this
    rw [hZO]
    exact this
  have hmf : ∀ (fn : Fn) (first cap : Array Value) (w : World), (Instr.makeFunc fn first cap).run Try.prog w = .ok (.func fn first cap) w := fun _ _ _ _ => rfl
  have HZO := Lib.hid hZO
  obtain ⟨NG, hNG⟩ : ∃ NG, NG = gs.length := ⟨_, rfl⟩
  have HNG := Lib.hid hNG
  rw [← hNG] at HV HG HB HP HRU ⊢
  obtain ⟨PB, hPB⟩ : ∃ PB, PB = w.heap.size + 1 := ⟨_, rfl⟩
  have HPB := Lib.hid hPB
  have HANS : Hid ((swW p gs).getD 0 0 / (p.size : Int) = (swW p gs).getD 0 0 / (n : Int)) := Lib.hid (by rw [hpn])
  have HWB : Hid (0 ≤ (swW p gs).getD 0 0 ∧ (swW p gs).getD 0 0 ≤ 1000000000000000 ∧ (swW p gs).length = n) := Lib.hid (by
    unfold swW
    split
    · rw [List.getD_eq_getElem?_getD, List.getElem?_replicate, if_pos hp0]
      exact ⟨by decide, by decide, by simp [hn]⟩
    · rename_i hg
      have h1 := swAt_ok (p := p) hp0 hok (k := gs.length - 1) (by omega)
      have h2 := small_at (gOk_iff.1 hok).2.2 (gs.length - 1) (by omega)
      have h3 := h1.2 0 hp0
      exact ⟨h3.1, by omega, by rw [h1.1, hn]⟩)
  rw [HANS.out]
  clear hok ho hn hpn hNG hZO hi hz0 hz1 hz2
  go_enter Try.func65, Try.ntmps65
  go_wp2_with fail
  refine HV.out.mono ?_
  rintro e w1 ⟨rfl, hB1⟩
  have HB1 := Lib.hid (HB.out.trans (hB1.mono HB.out.size))
  have hp1 := (hB1.cell (lt_of_cell HP.out)).trans HP.out
  have hg1 := (hB1.cell (lt_of_cell HG.out)).trans HG.out
  have HP1 := Lib.hid hp1
  have HG1 := Lib.hid hg1
  clear hB1
  go_wp2_with fail
  refine (HK.out _).mono ?_
  rintro e w2 ⟨rfl, rfl⟩
  have hpn := HPN.out
  go_upto_region 5 with fail
  rw [← hPB] at HP1 hp1 ⊢
  clear hPB
  have HSK : Hid (∀ W, Below w1.heap.size w1 W → W.cell? ⟨w.heap.size, 0, none⟩ = some (.slice Ag NG cg) ∧ W.cell? ⟨PB, 0, none⟩ = some (.string p)) := Lib.hid (fun W hb => ⟨(hb.cell (p := ⟨w.heap.size, 0, none⟩) (lt_of_cell HG1.out)).trans HG1.out, (hb.cell (p := ⟨PB, 0, none⟩) (lt_of_cell HP1.out)).trans HP1.out⟩)
  have HFO := Lib.hid (fun E W (hb : Below w1.heap.size w1 W) => swFold_any (.slice Ag NG cg) gs (some ⟨E, 0, none⟩) n n PB p W hp0 hp hfr (HRU.out W (HB1.out.trans (hb.mono HB1.out.size))) (HSK.out W hb).2)
  go_cut [6, 7] (fun s6 s7 wx => ∃ F E lv vv, s6 = .pointer (some ⟨F, 0, none⟩) ∧ s7 = .bool true ∧ SwBox w1 (some ⟨E, 0, none⟩) n PB p (.slice Ag NG cg) gs F lv vv wx)
  case first =>
    have HS0 := Lib.hid (HSK.out w1.drew (bs_drewS (Below.refl _ _)))
    refine wp_region_held_drew (S := fun w' : World => w'.cell? ⟨w.heap.size, 0, none⟩ = some (.slice Ag NG cg) ∧ w'.cell? ⟨PB, 0, none⟩ = some (.string p)) (by kernel_rfl) HS0.out (fun hHeld => ?_)
    refine takeH (i := 0) (dst := some 19) (v := ?_) rfl (by kernel_rfl) (by kernel_rfl) (by kernel_rfl) (fun _ _ _ h => h) (Or.inl ⟨by rfl, ?_⟩) (by assumption) ?_
    rotate_left 1
    · (intro w hSw; (try dsimp only at hSw); go_simp; try (with_reducible rfl))
    try simp only [Act.put, List.setIfInBounds_toArray, List.set_cons_zero, List.set_cons_succ]
    refine takeH (i := 1) (dst := some 20) (v := ?_) rfl (by kernel_rfl) (by kernel_rfl) (by kernel_rfl) (fun _ _ _ h => h) (Or.inl ⟨by rfl, ?_⟩) (by assumption) ?_
    rotate_left 1
    · (intro w hSw; (try dsimp only at hSw); go_simp; try (with_reducible rfl))
    try simp only [Act.put, List.setIfInBounds_toArray, List.set_cons_zero, List.set_cons_succ]
    refine takeH (i := 2) (dst := some 21) (v := ?_) rfl (by kernel_rfl) (by kernel_rfl) (by kernel_rfl) (fun _ _ _ h => h) (Or.inl ⟨by rfl, ?_⟩) (by assumption) ?_
    rotate_left 1
    · (intro w hSw; (try dsimp only at hSw); go_simp; try (with_reducible rfl))
    try simp only [Act.put, List.setIfInBounds_toArray, List.set_cons_zero, List.set_cons_succ]
    refine takeH (i := 4) (dst := some 23) (v := ?_) rfl (by kernel_rfl) (by kernel_rfl) (by kernel_rfl) (fun _ _ _ h => h) (Or.inl ⟨by rfl, ?_⟩) (by assumption) ?_
    rotate_left 1
    · (intro w hSw; (try dsimp only at hSw); go_simp; try (with_reducible rfl))
    try simp only [Act.put, List.setIfInBounds_toArray, List.set_cons_zero, List.set_cons_succ]
    refine takeH (i := 5) (dst := some 24) (v := ?_) rfl (by kernel_rfl) (by kernel_rfl) (by kernel_rfl) (fun _ _ _ h => h) (Or.inl ⟨by rfl, ?_⟩) (by assumption) ?_
    rotate_left 1
    · (intro w hSw; (try dsimp only at hSw); go_simp; try (with_reducible rfl))
    try simp only [Act.put, List.setIfInBounds_toArray, List.set_cons_zero, List.set_cons_succ]
    refine wpAnyH_ready (rs := [3, 11]) (by kernel_rfl) (by simp) ?_
    refine AllReadyH.cons (o := ⟨some 22, _, _, _, _, none⟩) rfl (fun K hK => ?_) (AllReadyH.cons (o := ⟨some 6, _, _, _, _, none⟩) rfl (fun K hK => ?_) AllReadyH.nil)
    · go_simp
      refine hK.out _ _ (HSK.out _ (by repeat first | with_reducible exact Below.refl _ _ | with_reducible refine bs_drewS ?_ | with_reducible refine bs_allocS ?_ _ | with_reducible refine bs_callS ?_ HE9.out)) (fun hHeld => ?_)
      clear hK K
      try simp only [Act.put, List.setIfInBounds_toArray, List.set_cons_zero, List.set_cons_succ]
      refine takeH (i := 6) (dst := some 25) (v := ?_) rfl (by kernel_rfl) (by kernel_rfl) (by kernel_rfl) (fun _ _ _ h => h) (Or.inl ⟨by rfl, ?_⟩) (by assumption) ?_
      rotate_left 1
      · (intro w hSw; (try dsimp only at hSw); go_simp; try (with_reducible rfl))
      try simp only [Act.put, List.setIfInBounds_toArray, List.set_cons_zero, List.set_cons_succ]
      refine wpAnyH_ready (rs := [7, 11]) (by kernel_rfl) (by simp) ?_
      refine AllReadyH.cons (o := ⟨some 26, _, _, _, _, none⟩) rfl (fun K hK => ?_) (AllReadyH.cons (o := ⟨some 6, _, _, _, _, none⟩) rfl (fun K hK => ?_) AllReadyH.nil)
      · trace "ORDER A"
        go_simp
        go_at_call 138
        refine (HFO.out _ _ (by repeat first | with_reducible exact Below.refl _ _ | with_reducible refine bs_drewS ?_ | with_reducible refine bs_allocS ?_ _ | with_reducible refine bs_callS ?_ HE9.out)).mono ?_
        rintro e w9 ⟨fv, rfl, hsw, _, hB9⟩
        have hsw := hsw HOK.out
        rw [HOK.out]
        have HE9 := Lib.hid hB9
        obtain ⟨A1, c1, A2, c2, U, hfv, _⟩ := hsw.shape
        injection hfv with hfv
        subst hfv
        rw [← HNG.out] at hsw ⊢
        have HEV : Hid (IsL w9 (.slice (some ⟨w1.heap.size, 0, none⟩) n n) (List.replicate n 0)) := Lib.hid ((zero_isL w1 n ZO HZO.out).kept (below_undrew hB9))
        have HSW := Lib.hid (hsw.lower (B := w1.heap.size) (by simp))
        clear hsw hB9
        refine hK.out _ _ (HSK.out _ (by repeat first | with_reducible exact Below.refl _ _ | with_reducible refine bs_drewS ?_ | with_reducible refine bs_allocS ?_ _ | with_reducible refine bs_callS ?_ HE9.out)) (fun hHeld => ?_)
        clear hK K
        try simp only [Act.put, List.setIfInBounds_toArray, List.set_cons_zero, List.set_cons_succ]
        refine takeH (i := 8) (dst := some 18) (v := ?_) rfl (by kernel_rfl) (by kernel_rfl) (by kernel_rfl) (fun _ _ _ h => h) (Or.inl ⟨by rfl, ?_⟩) (by assumption) ?_
        rotate_left 1
        · (intro w hSw; (try dsimp only at hSw); go_simp; try (with_reducible rfl))
        try simp only [Act.put, List.setIfInBounds_toArray, List.set_cons_zero, List.set_cons_succ]
        refine takeH (i := 9) (dst := some 27) (v := ?_) rfl (by kernel_rfl) (by kernel_rfl) (by kernel_rfl) (fun _ _ _ h => h) (Or.inl ⟨by rfl, ?_⟩) (by assumption) ?_
        rotate_left 1
        · (intro w hSw; (try dsimp only at hSw); go_simp; try (with_reducible rfl))
        try simp only [Act.put, List.setIfInBounds_toArray, List.set_cons_zero, List.set_cons_succ]
        refine takeH (i := 10) (dst := some 28) (v := ?_) rfl (by kernel_rfl) (by kernel_rfl) (by kernel_rfl) (fun _ _ _ h => h) (Or.inl ⟨by rfl, ?_⟩) (by assumption) ?_
        rotate_left 1
        · (intro w hSw; (try dsimp only at hSw); go_simp; try (with_reducible rfl))
        try simp only [Act.put, List.setIfInBounds_toArray, List.set_cons_zero, List.set_cons_succ]
        refine wpAnyH_ready (rs := [11]) (by kernel_rfl) (by simp) ?_
        refine AllReadyH.cons (o := ⟨some 6, _, _, _, _, none⟩) rfl (fun K hK => ?_) AllReadyH.nil
        go_simp
        refine hK.out _ _ (HSK.out _ (by repeat first | with_reducible exact Below.refl _ _ | with_reducible refine bs_drewS ?_ | with_reducible refine bs_allocS ?_ _ | with_reducible refine bs_callS ?_ HE9.out)) (fun hHeld => ?_)
        clear hK K
        try simp only [Act.put, List.setIfInBounds_toArray, List.set_cons_zero, List.set_cons_succ]
        refine wpAnyH_ready (rs := [12]) (by kernel_rfl) (by simp) ?_
        refine AllReadyH.cons (o := ⟨none, _, _, _, _, none⟩) rfl (fun K hK => ?_) AllReadyH.nil
        go_simp
        refine hK.out _ _ (HSK.out _ (by repeat first | with_reducible exact Below.refl _ _ | with_reducible refine bs_drewS ?_ | with_reducible refine bs_allocS ?_ _ | with_reducible refine bs_callS ?_ HE9.out)) (fun hHeld => ?_)
        clear hK K
        try simp only [Act.put, List.setIfInBounds_toArray, List.set_cons_zero, List.set_cons_succ]
        refine takeH (i := 13) (dst := some 7) (v := ?_) rfl (by kernel_rfl) (by kernel_rfl) (by kernel_rfl) (fun _ _ _ h => h) (Or.inl ⟨by rfl, ?_⟩) (by assumption) ?_
        rotate_left 1
        · (intro w hSw; (try dsimp only at hSw); go_simp; try (with_reducible rfl))
        try simp only [Act.put, List.setIfInBounds_toArray, List.set_cons_zero, List.set_cons_succ]
        refine wpAnyH_done (by kernel_rfl) ?_ _
        go_wp2_with fail; go_meet
        exact ⟨_, _, _, _, rfl, rfl, SwBox.new HSW.out HEV.out (by repeat first | with_reducible exact Below.refl _ _ | with_reducible refine bs_drewS ?_ | with_reducible refine bs_allocS ?_ _ | with_reducible refine bs_callS ?_ HE9.out)⟩
      · trace "ORDER B"
        go_simp
        refine hK.out _ _ (HSK.out _ (by repeat first | with_reducible exact Below.refl _ _ | with_reducible refine bs_drewS ?_ | with_reducible refine bs_allocS ?_ _ | with_reducible refine bs_callS ?_ HE9.out)) (fun hHeld => ?_)
        clear hK K
        try simp only [Act.put, List.setIfInBounds_toArray, List.set_cons_zero, List.set_cons_succ]
        refine wpAnyH_ready (rs := [7]) (by kernel_rfl) (by simp) ?_
        refine AllReadyH.cons (o := ⟨some 26, _, _, _, _, none⟩) rfl (fun K hK => ?_) AllReadyH.nil
        go_simp
        go_at_call 138
        refine (HFO.out _ _ (by repeat first | with_reducible exact Below.refl _ _ | with_reducible refine bs_drewS ?_ | with_reducible refine bs_allocS ?_ _ | with_reducible refine bs_callS ?_ HE9.out)).mono ?_
        rintro e w9 ⟨fv, rfl, hsw, _, hB9⟩
        have hsw := hsw HOK.out
        rw [HOK.out]
        have HE9 := Lib.hid hB9
        obtain ⟨A1, c1, A2, c2, U, hfv, _⟩ := hsw.shape
        injection hfv with hfv
        subst hfv
        rw [← HNG.out] at hsw ⊢
        have HEV : Hid (IsL w9 (.slice (some ⟨w1.heap.size, 0, none⟩) n n) (List.replicate n 0)) := Lib.hid (((zero_isL w1 n ZO HZO.out).kept ((Below.refl _ _).alloc (Nat.le_refl _) (.cells swZero 176))).kept (below_undrew hB9))
        have HV6 : Hid (w9.heap[w1.heap.size + 1]? = some (.cells swZero 176 (0, 0))) := Lib.hid (by
          have h1 := heap_alloc_new (w1.alloc ZO) (.cells swZero 176)
          rw [show (w1.alloc ZO).heap.size = w1.heap.size + 1 from by simp] at h1
          exact ((below_undrew hB9).block _ (by simp)).trans h1)
        have HSW := Lib.hid (hsw.lower (B := w1.heap.size + 1 + 1) (by simp))
        clear hsw hB9
        refine hK.out _ _ (HSK.out _ (by repeat first | with_reducible exact Below.refl _ _ | with_reducible refine bs_drewS ?_ | with_reducible refine bs_allocS ?_ _ | with_reducible refine bs_callS ?_ HE9.out)) (fun hHeld => ?_)
        clear hK K
        try simp only [Act.put, List.setIfInBounds_toArray, List.set_cons_zero, List.set_cons_succ]
        refine takeH (i := 8) (dst := some 18) (v := ?_) rfl (by kernel_rfl) (by kernel_rfl) (by kernel_rfl) (fun _ _ _ h => h) (Or.inl ⟨by rfl, ?_⟩) (by assumption) ?_
        rotate_left 1
        · (intro w hSw; (try dsimp only at hSw); go_simp; try (with_reducible rfl))
        try simp only [Act.put, List.setIfInBounds_toArray, List.set_cons_zero, List.set_cons_succ]
        refine takeH (i := 9) (dst := some 27) (v := ?_) rfl (by kernel_rfl) (by kernel_rfl) (by kernel_rfl) (fun _ _ _ h => h) (Or.inl ⟨by rfl, ?_⟩) (by assumption) ?_
        rotate_left 1
        · (intro w hSw; (try dsimp only at hSw); go_simp; try (with_reducible rfl))
        try simp only [Act.put, List.setIfInBounds_toArray, List.set_cons_zero, List.set_cons_succ]
        refine takeH (i := 10) (dst := some 28) (v := ?_) rfl (by kernel_rfl) (by kernel_rfl) (by kernel_rfl) (fun _ _ _ h => h) (Or.inl ⟨by rfl, ?_⟩) (by assumption) ?_
        rotate_left 1
        · (intro w hSw; (try dsimp only at hSw); go_simp; try (with_reducible rfl))
        try simp only [Act.put, List.setIfInBounds_toArray, List.set_cons_zero, List.set_cons_succ]
        refine wpAnyH_ready (rs := [12]) (by kernel_rfl) (by simp) ?_
        refine AllReadyH.cons (o := ⟨none, _, _, _, _, none⟩) rfl (fun K hK => ?_) AllReadyH.nil
        have HBX := Lib.hid (SwBox.old (w4 := w1) (w9 := w9) HSW.out HEV.out (by omega) HV6.out (by omega) (by repeat first | with_reducible exact Below.refl _ _ | with_reducible refine bs_drewS ?_ | with_reducible refine bs_allocS ?_ _ | with_reducible refine bs_callS ?_ HE9.out))
        refine step_store_mid (by rfl) 176 _ _ rfl (w1.heap.size + 1) 0 (swAll (some ⟨w1.heap.size, 0, none⟩) n n PB (.slice Ag NG cg) (.slice A1 NG c1) (.slice A2 NG c2)) rfl rfl (there6S HV6.out) (size_swFold _ _ _ _ _ _ _) (one6S _ _ _ _ _ _ _ _ _ _ _ _ _) ?_
        refine hK.out _ _ (HSK.out _ HBX.out.below) (fun hHeld => ?_)
        clear hK K
        try simp only [Act.put, List.setIfInBounds_toArray, List.set_cons_zero, List.set_cons_succ]
        refine takeH (i := 13) (dst := some 7) (v := ?_) rfl (by kernel_rfl) (by kernel_rfl) (by kernel_rfl) (fun _ _ _ h => h) (Or.inl ⟨by rfl, ?_⟩) (by assumption) ?_
        rotate_left 1
        · (intro w hSw; (try dsimp only at hSw); go_simp; try (with_reducible rfl))
        try simp only [Act.put, List.setIfInBounds_toArray, List.set_cons_zero, List.set_cons_succ]
        refine wpAnyH_done (by kernel_rfl) ?_ _
        go_wp2_with fail; go_meet
        exact ⟨_, _, _, _, rfl, rfl, HBX.out⟩
    · trace "ORDER C"
      go_simp
      refine hK.out _ _ (HSK.out _ (by repeat first | with_reducible exact Below.refl _ _ | with_reducible refine bs_drewS ?_ | with_reducible refine bs_allocS ?_ _ | with_reducible refine bs_callS ?_ HE9.out)) (fun hHeld => ?_)
      clear hK K
      try simp only [Act.put, List.setIfInBounds_toArray, List.set_cons_zero, List.set_cons_succ]
      refine wpAnyH_ready (rs := [3]) (by kernel_rfl) (by simp) ?_
      refine AllReadyH.cons (o := ⟨some 22, _, _, _, _, none⟩) rfl (fun K hK => ?_) AllReadyH.nil
      go_simp
      refine hK.out _ _ (HSK.out _ (by repeat first | with_reducible exact Below.refl _ _ | with_reducible refine bs_drewS ?_ | with_reducible refine bs_allocS ?_ _ | with_reducible refine bs_callS ?_ HE9.out)) (fun hHeld => ?_)
      clear hK K
      try simp only [Act.put, List.setIfInBounds_toArray, List.set_cons_zero, List.set_cons_succ]
      refine takeH (i := 6) (dst := some 25) (v := ?_) rfl (by kernel_rfl) (by kernel_rfl) (by kernel_rfl) (fun _ _ _ h => h) (Or.inl ⟨by rfl, ?_⟩) (by assumption) ?_
      rotate_left 1
      · (intro w hSw; (try dsimp only at hSw); go_simp; try (with_reducible rfl))
      try simp only [Act.put, List.setIfInBounds_toArray, List.set_cons_zero, List.set_cons_succ]
      refine wpAnyH_ready (rs := [7]) (by kernel_rfl) (by simp) ?_
      refine AllReadyH.cons (o := ⟨some 26, _, _, _, _, none⟩) rfl (fun K hK => ?_) AllReadyH.nil
      go_simp
      go_at_call 138
      refine (HFO.out _ _ (by repeat first | with_reducible exact Below.refl _ _ | with_reducible refine bs_drewS ?_ | with_reducible refine bs_allocS ?_ _ | with_reducible refine bs_callS ?_ HE9.out)).mono ?_
      rintro e w9 ⟨fv, rfl, hsw, _, hB9⟩
      have hsw := hsw HOK.out
      rw [HOK.out]
      have HE9 := Lib.hid hB9
      obtain ⟨A1, c1, A2, c2, U, hfv, _⟩ := hsw.shape
      injection hfv with hfv
      subst hfv
      rw [← HNG.out] at hsw ⊢
      have HEV : Hid (IsL w9 (.slice (some ⟨w1.heap.size + 1, 0, none⟩) n n) (List.replicate n 0)) := Lib.hid (by
        have h1 := zero_isL (w1.alloc (.cells swZero 176)) n ZO HZO.out
        rw [show (w1.alloc (.cells swZero 176)).heap.size = w1.heap.size + 1 from by simp] at h1
        exact h1.kept (below_undrew hB9))
      have HV6 : Hid (w9.heap[w1.heap.size]? = some (.cells swZero 176 (0, 0))) := Lib.hid (by
        have h1 := heap_alloc_new w1 (.cells swZero 176)
        have h2 := ((Below.refl _ (w1.alloc (.cells swZero 176))).alloc (Nat.le_refl _) ZO).block w1.heap.size (by simp)
        exact ((below_undrew hB9).block _ (by simp; try omega)).trans (h2.trans h1))
      have HSW := Lib.hid (hsw.lower (B := w1.heap.size + 1) (by simp; try omega))
      clear hsw hB9
      refine hK.out _ _ (HSK.out _ (by repeat first | with_reducible exact Below.refl _ _ | with_reducible refine bs_drewS ?_ | with_reducible refine bs_allocS ?_ _ | with_reducible refine bs_callS ?_ HE9.out)) (fun hHeld => ?_)
      clear hK K
      try simp only [Act.put, List.setIfInBounds_toArray, List.set_cons_zero, List.set_cons_succ]
      refine takeH (i := 8) (dst := some 18) (v := ?_) rfl (by kernel_rfl) (by kernel_rfl) (by kernel_rfl) (fun _ _ _ h => h) (Or.inl ⟨by rfl, ?_⟩) (by assumption) ?_
      rotate_left 1
      · (intro w hSw; (try dsimp only at hSw); go_simp; try (with_reducible rfl))
      try simp only [Act.put, List.setIfInBounds_toArray, List.set_cons_zero, List.set_cons_succ]
      refine takeH (i := 9) (dst := some 27) (v := ?_) rfl (by kernel_rfl) (by kernel_rfl) (by kernel_rfl) (fun _ _ _ h => h) (Or.inl ⟨by rfl, ?_⟩) (by assumption) ?_
      rotate_left 1
      · (intro w hSw; (try dsimp only at hSw); go_simp; try (with_reducible rfl))
      try simp only [Act.put, List.setIfInBounds_toArray, List.set_cons_zero, List.set_cons_succ]
      refine takeH (i := 10) (dst := some 28) (v := ?_) rfl (by kernel_rfl) (by kernel_rfl) (by kernel_rfl) (fun _ _ _ h => h) (Or.inl ⟨by rfl, ?_⟩) (by assumption) ?_
      rotate_left 1
      · (intro w hSw; (try dsimp only at hSw); go_simp; try (with_reducible rfl))
      try simp only [Act.put, List.setIfInBounds_toArray, List.set_cons_zero, List.set_cons_succ]
      refine wpAnyH_ready (rs := [12]) (by kernel_rfl) (by simp) ?_
      refine AllReadyH.cons (o := ⟨none, _, _, _, _, none⟩) rfl (fun K hK => ?_) AllReadyH.nil
      have HBX := Lib.hid (SwBox.old (w4 := w1) (w9 := w9) HSW.out HEV.out (by omega) HV6.out (by omega) (by repeat first | with_reducible exact Below.refl _ _ | with_reducible refine bs_drewS ?_ | with_reducible refine bs_allocS ?_ _ | with_reducible refine bs_callS ?_ HE9.out))
      refine step_store_mid (by rfl) 176 _ _ rfl (w1.heap.size) 0 (swAll (some ⟨w1.heap.size + 1, 0, none⟩) n n PB (.slice Ag NG cg) (.slice A1 NG c1) (.slice A2 NG c2)) rfl rfl (there6S HV6.out) (size_swFold _ _ _ _ _ _ _) (one6S _ _ _ _ _ _ _ _ _ _ _ _ _) ?_
      refine hK.out _ _ (HSK.out _ HBX.out.below) (fun hHeld => ?_)
      clear hK K
      try simp only [Act.put, List.setIfInBounds_toArray, List.set_cons_zero, List.set_cons_succ]
      refine takeH (i := 13) (dst := some 7) (v := ?_) rfl (by kernel_rfl) (by kernel_rfl) (by kernel_rfl) (fun _ _ _ h => h) (Or.inl ⟨by rfl, ?_⟩) (by assumption) ?_
      rotate_left 1
      · (intro w hSw; (try dsimp only at hSw); go_simp; try (with_reducible rfl))
      try simp only [Act.put, List.setIfInBounds_toArray, List.set_cons_zero, List.set_cons_succ]
      refine wpAnyH_done (by kernel_rfl) ?_ _
      go_wp2_with fail; go_meet
      exact ⟨_, _, _, _, rfl, rfl, HBX.out⟩
  case rest =>
    obtain ⟨F, E, lv, vv, rfl, rfl, hbx⟩ := hcut
    obtain ⟨w3, rfl⟩ : ∃ w3 : World, w3 = wc := ⟨_, rfl⟩
    have HB3 := Lib.hid (HB1.out.trans (hbx.below.mono HB1.out.size))
    have hpk := (HSK.out w3 hbx.below).2
    have HWH := Lib.hid (fun W (hb : Below w3.heap.size w3 W) => swWhole_any (some ⟨E, 0, none⟩) n n PB p _ (.slice Ag NG cg) gs w1.heap.size W hp0 hp HOK.out (HRU.out W (HB3.out.trans (hb.mono HB3.out.size))) (hbx.is.kept hb) (by rw [show List.replicate p.size (0 : Int) = List.replicate n 0 from by rw [HN.out]]; exact hbx.ev.kept hb) ((hb.cell (p := ⟨PB, 0, none⟩) (lt_of_cell hpk)).trans hpk))
    have HBX := Lib.hid hbx.box
    obtain ⟨A1, c1, A2, c2, U, hfv, _⟩ := hbx.is.shape
    injection hfv with hfv
    injection hfv with hfv
    have hlv : lv = .slice A1 gs.length c1 := Option.some.inj (congrArg (fun l => l[4]?) hfv)
    have hvv : vv = .slice A2 gs.length c2 := Option.some.inj (congrArg (fun l => l[5]?) hfv)
    rw [← HNG.out] at hlv hvv
    subst hlv hvv
    have HBK := Lib.hid hbx.below
    have HKK : Hid (∀ W, Below w3.heap.size w3 W → W.cell? ⟨F, 0, none⟩ = some (.slice (some ⟨E, 0, none⟩) n n) ∧ W.cell? ⟨F, 1, none⟩ = some (swL PB) ∧ W.cell? ⟨F, 2, none⟩ = some (swT PB) ∧ W.cell? ⟨F, 3, none⟩ = some (.slice Ag NG cg) ∧ W.cell? ⟨F, 4, none⟩ = some (.slice A1 NG c1) ∧ W.cell? ⟨F, 5, none⟩ = some (.slice A2 NG c2) ∧ W.cell? ⟨PB, 0, none⟩ = some (.string p)) := Lib.hid (fun W hb => by
      have h1 := (hb.block F (Array.getElem?_eq_some_iff.1 HBX.out).1).trans HBX.out
      exact ⟨(blk6_cellsS h1).1.1, (blk6_cellsS h1).1.2.1, (blk6_cellsS h1).1.2.2.1, (blk6_cellsS h1).1.2.2.2.1, (blk6_cellsS h1).1.2.2.2.2.1, (blk6_cellsS h1).1.2.2.2.2.2, (hb.cell (p := ⟨PB, 0, none⟩) (lt_of_cell hpk)).trans hpk⟩)
    clear hbx hfv hpk hp1 hg1
    obtain ⟨v0, hv0⟩ : ∃ v0, v0 = (swW p gs).getD 0 0 := ⟨_, rfl⟩
    have hwb1 := HWB.out.1
    have hwb2 := HWB.out.2.1
    rw [← hv0] at hwb1 hwb2
    have HV0 := Lib.hid hv0
    clear hv0
    have hdv : v0.tdiv (n : Int) = v0 / (n : Int) := Int.tdiv_eq_ediv_of_nonneg hwb1
    have hd0 : 0 ≤ v0 / (n : Int) := Int.ediv_nonneg hwb1 (by omega)
    have hd1 : v0 / (n : Int) ≤ v0 := Int.ediv_le_self _ hwb1
    have hdw : IntKind.i64.wrap (v0 / (n : Int)) = v0 / (n : Int) := by rw [IntKind.wrap_i64]; omega
    have hnz3 : ¬ n = 0 := by omega
    have n0' : (0 : Int) < (n : Int) := by omega
    go_upto_region 6 with fail
    obtain ⟨k0, k1, k2, k3, k4, k5, kp⟩ := HKK.out w3 (Below.refl _ _)
    go_region_law ((first
        | (go_simp
           go_at_call 143
           refine (HWH.out _ ?_).mono ?_
           skip
           (first | exact Below.refl _ _ | exact below_drewN (Below.refl _ _) 1)
           rintro e w9 ⟨y, rfl, hy9, hB9⟩
           have hB9 := below_undrew hB9
           have HB9 := Lib.hid hB9
           obtain ⟨ad, cy, rfl, hcy⟩ := isL_at hy9 HWB.out.2.2 hn0
           have hc0 := hcy 0 hn0
           rw [← HV0.out, show ad.add 0 = ad from rfl] at hc0
           have hp9 := (HKK.out w9 hB9).2.2.2.2.2.2
           clear hcy hy9 hB9)))
    all_goals
      go_wp2_with fail
      go_ret2
      exact ⟨by rw [← HV0.out]; rfl, HB3.out.trans (HB9.out.mono HB3.out.size)⟩
end Go.Proofs.Ytaffachjopjbgaa
