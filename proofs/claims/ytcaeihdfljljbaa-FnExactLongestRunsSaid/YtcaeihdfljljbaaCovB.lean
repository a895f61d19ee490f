/-
  Covers are short. Nothing of the program.
-/
import Derived.Test.YtcaeihdfljljbaaWordM
import Derived.Test.YtcaeihdfljljbaaGramOk
namespace Go.Proofs.Ytcaeihdfljljbaa
open Go.RowKit
set_option linter.unusedVariables false
namespace Wd
/-- covers are short -/
theorem cover_pre {gs : List Rl} (hok : gOk gs = true) (i j : Int) : ∀ f k s, k < f → k < gs.length → i ≤ s → (coverF gs i j f k s).length ≤ k + 1
  | 0, _, _, h, _, _ => by omega
  | f + 1, k, s, h, hk, hs => by
    by_cases h1 : s + (lens gs).getD k 0 ≤ i ∨ j ≤ s
    · rw [cover_out h1]; simp
    · by_cases h2 : i ≤ s ∧ s + (lens gs).getD k 0 ≤ j
      · rw [cover_in h1 h2]; simp
      · have h0 := cut_pair hok hk h1 h2
        obtain ⟨a, b, ha, hb, hak, hbk, hs2, p1, _, p2, _⟩ := pair_parts hok hk h0
        rw [cover_pair hk ha hb h1 h2, List.length_append]
        obtain ⟨f', hf'⟩ : ∃ f', f = f' + 1 := ⟨f - 1, by omega⟩
        by_cases h3 : s + (lens gs).getD a 0 ≤ j
        · have e2 := cover_pre hok i j f b (s + (lens gs).getD a 0) (by omega) (by omega) (by omega)
          rw [show coverF gs i j f a s = [(a : Int)] from by rw [hf']; exact cover_in (by omega) ⟨hs, h3⟩]
          simp only [List.length_singleton]
          omega
        · have e1 := cover_pre hok i j f a s (by omega) (by omega) hs
          rw [show coverF gs i j f b (s + (lens gs).getD a 0) = [] from by rw [hf']; exact cover_out (.inr (by omega))]
          simp only [List.length_nil]
          omega
theorem cover_suf {gs : List Rl} (hok : gOk gs = true) (i j : Int) : ∀ f k s, k < f → k < gs.length → s + (lens gs).getD k 0 ≤ j → (coverF gs i j f k s).length ≤ k + 1
  | 0, _, _, h, _, _ => by omega
  | f + 1, k, s, h, hk, hs => by
    by_cases h1 : s + (lens gs).getD k 0 ≤ i ∨ j ≤ s
    · rw [cover_out h1]; simp
    · by_cases h2 : i ≤ s ∧ s + (lens gs).getD k 0 ≤ j
      · rw [cover_in h1 h2]; simp
      · have h0 := cut_pair hok hk h1 h2
        obtain ⟨a, b, ha, hb, hak, hbk, hs2, p1, _, p2, _⟩ := pair_parts hok hk h0
        rw [cover_pair hk ha hb h1 h2, List.length_append]
        obtain ⟨f', hf'⟩ : ∃ f', f = f' + 1 := ⟨f - 1, by omega⟩
        by_cases h3 : i ≤ s + (lens gs).getD a 0
        · have e1 := cover_suf hok i j f a s (by omega) (by omega) (by omega)
          rw [show coverF gs i j f b (s + (lens gs).getD a 0) = [(b : Int)] from by rw [hf']; exact cover_in (by omega) ⟨h3, by omega⟩]
          simp only [List.length_singleton]
          omega
        · have e2 := cover_suf hok i j f b (s + (lens gs).getD a 0) (by omega) (by omega) (by omega)
          rw [show coverF gs i j f a s = [] from by rw [hf']; exact cover_out (.inl (by omega))]
          simp only [List.length_nil]
          omega
theorem cover_bd {gs : List Rl} (hok : gOk gs = true) (i j : Int) : ∀ f k s, k < f → k < gs.length → (coverF gs i j f k s).length ≤ 2 * k + 2
  | 0, _, _, h, _ => by omega
  | f + 1, k, s, h, hk => by
    by_cases h1 : s + (lens gs).getD k 0 ≤ i ∨ j ≤ s
    · rw [cover_out h1]; simp
    · by_cases h2 : i ≤ s ∧ s + (lens gs).getD k 0 ≤ j
      · rw [cover_in h1 h2]; simp
      · have h0 := cut_pair hok hk h1 h2
        obtain ⟨a, b, ha, hb, hak, hbk, hs2, p1, _, p2, _⟩ := pair_parts hok hk h0
        rw [cover_pair hk ha hb h1 h2, List.length_append]
        obtain ⟨f', hf'⟩ : ∃ f', f = f' + 1 := ⟨f - 1, by omega⟩
        by_cases h3 : s + (lens gs).getD a 0 ≤ i
        · have e2 := cover_bd hok i j f b (s + (lens gs).getD a 0) (by omega) (by omega)
          rw [show coverF gs i j f a s = [] from by rw [hf']; exact cover_out (.inl h3)]
          simp only [List.length_nil]
          omega
        · by_cases h4 : j ≤ s + (lens gs).getD a 0
          · have e1 := cover_bd hok i j f a s (by omega) (by omega)
            rw [show coverF gs i j f b (s + (lens gs).getD a 0) = [] from by rw [hf']; exact cover_out (.inr h4)]
            simp only [List.length_nil]
            omega
          · have e1 := cover_suf hok i j f a s (by omega) (by omega) (by omega)
            have e2 := cover_pre hok i j f b (s + (lens gs).getD a 0) (by omega) (by omega) (by omega)
            omega
/-- the cover of a part -/
def covA (gs : List Rl) (i j : Int) : List Int := coverF gs i j gs.length (gs.length - 1) 0
theorem covA_lt {gs : List Rl} (hok : gOk gs = true) (hg : 0 < gs.length) (i j : Int) : ∀ q ∈ covA gs i j, 0 ≤ q ∧ q < (gs.length : Int) := cover_lt hok i j _ _ _ (by omega) (by omega)
theorem covA_few {gs : List Rl} (hok : gOk gs = true) (hg : 0 < gs.length) (i j : Int) : (covA gs i j).length ≤ 1048576 := by
  have h1 := cover_bd hok i j gs.length (gs.length - 1) 0 (by omega) (by omega)
  have h2 := gOk_len hok
  unfold covA
  omega
end Wd
end Go.Proofs.Ytcaeihdfljljbaa
