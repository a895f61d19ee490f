/-
  LyndonFactors, the model's and the program's: both answer the same list.
-/
import Derived.Test.YtiibadmijhbioabLynd
namespace Go.Proofs.Ytiibadmijhbioab
open Go.RowKit
open Wd
set_option linter.unusedVariables false

namespace Wd
theorem duvOut_len {s : ByteArray} {k d : Nat} (hd : 0 < d) : ∀ f i, i + (duvOut s k d f i).1.length ≤ (duvOut s k d f i).2
  | 0, i => by simp [duvOut]
  | f + 1, i => by
    by_cases h : i ≤ k
    · rw [duvOut_go h]
      have := duvOut_len (s := s) (k := k) hd f (i + d)
      simp only [List.length_cons]
      omega
    · rw [duvOut_end h]; simp
end Wd

theorem specLyndon_bad (s : ByteArray) (w : World) (hs : s.size ≤ maxLen) (h : okL s.data.toList = false) :
    Calls Try.prog 41 #[.string s] w fun e w' => ∃ x, e = .returned (.tuple #[x, .int .i64 1]) ∧ OwnsS w' w.heap.size x [] ∧ Below w.heap.size w w' := by
  have c1 := specOk s w hs
  rw [h] at c1
  have C1 := Lib.hid c1
  clear c1 h
  go_enter Try.func41, Try.ntmps41
  go_wp2_with (go_at_call 50; refine C1.out.mono ?_; rintro e w' ⟨rfl, rfl⟩)
  go_ret2
  exact ⟨_, rfl, OwnsS.lit _, (Below.refl _ _).alloc (Nat.le_refl _) _⟩
theorem implLyndon_bad (s : ByteArray) (w : World) (hs : s.size ≤ maxLen) (h : okL s.data.toList = false) :
    Calls Try.prog 42 #[.string s] w fun e w' => ∃ x, e = .returned (.tuple #[x, .int .i64 1]) ∧ OwnsS w' w.heap.size x [] ∧ Below w.heap.size w w' := by
  have c1 := implOk s w hs
  rw [h] at c1
  have C1 := Lib.hid c1
  clear c1 h
  go_enter Try.func42, Try.ntmps42
  go_wp2_with (go_at_call 52; refine C1.out.mono ?_; rintro e w' ⟨rfl, rfl⟩)
  go_ret2
  exact ⟨_, rfl, World.ownsRow_nil _ _ _ _, Below.refl _ _⟩

theorem duvIn_bounds {s : ByteArray} {i : Nat} : ∀ f j k, i ≤ k → k < j → j ≤ s.size → i ≤ (duvIn s i f j k).2 ∧ (duvIn s i f j k).2 < (duvIn s i f j k).1 ∧ (duvIn s i f j k).1 ≤ s.size
  | 0, j, k, h1, h2, h3 => ⟨h1, h2, h3⟩
  | f + 1, j, k, h1, h2, h3 => by
    by_cases hj : j < s.size
    · have hk : k < s.size := by omega
      rw [duvIn, dif_pos ⟨hj, hk⟩]
      split
      · exact duvIn_bounds f (j + 1) i (Nat.le_refl _) (by omega) (by omega)
      · split
        · exact duvIn_bounds f (j + 1) (k + 1) (by omega) (by omega) (by omega)
        · exact ⟨h1, h2, h3⟩
    · rw [duvIn_end hj]; exact ⟨h1, h2, h3⟩
theorem duvOut_le {s : ByteArray} {k d : Nat} (hd : 0 < d) (hk : k + d ≤ s.size) : ∀ f i, i ≤ s.size → (duvOut s k d f i).2 ≤ s.size
  | 0, i, h => h
  | f + 1, i, h => by
    by_cases hi : i ≤ k
    · rw [duvOut_go hi]; exact duvOut_le hd hk f (i + d) (by omega)
    · rw [duvOut_end hi]; exact h
theorem duv_len {s : ByteArray} : ∀ f i, i ≤ s.size → i + (duv s f i).length ≤ s.size
  | 0, i, h => by simpa [duv] using h
  | f + 1, i, h => by
    by_cases hi : i < s.size
    · have hb := duvIn_bounds (s := s) (i := i) (s.size - (i + 1)) (i + 1) i (Nat.le_refl _) (by omega) (by omega)
      obtain ⟨p, hp⟩ : ∃ p, duvIn s i (s.size - (i + 1)) (i + 1) i = p := ⟨_, rfl⟩
      obtain ⟨j, k⟩ := p
      rw [hp] at hb
      rw [duv_step hi hp, List.length_append]
      have h1 := duvOut_len (s := s) (k := k) (d := j - k) (by omega) (s.size + 1) i
      have h2 := duvOut_le (s := s) (k := k) (d := j - k) (by omega) (by omega) (s.size + 1) i (by omega)
      have h3 := duv_len f (duvOut s k (j - k) (s.size + 1) i).2 h2
      omega
    · rw [duv_end hi]; simpa using h

theorem saidLyndonFactors (s : ByteArray) (hs : s.size ≤ maxLen) : ∃ (zs : List ByteArray) (c : Int), zs.length ≤ 1000000 ∧
    (∀ w, Calls Try.prog 41 #[.string s] w fun e w' => ∃ x, e = .returned (.tuple #[x, .int .i64 c]) ∧ OwnsS w' w.heap.size x zs ∧ Below w.heap.size w w') ∧
    (∀ w, Calls Try.prog 42 #[.string s] w fun e w' => ∃ x, e = .returned (.tuple #[x, .int .i64 c]) ∧ OwnsS w' w.heap.size x zs ∧ Below w.heap.size w w') := by
  cases h : okL s.data.toList
  · exact ⟨[], 1, by simp, fun w => specLyndon_bad s w hs h, fun w => implLyndon_bad s w hs h⟩
  · have hl := okL_len h
    simp at hl
    refine ⟨duv s (s.size + 1) 0, 0, ?_, fun w => specLyndon_ok s w hl h, fun w => implLyndon_ok s w hl h⟩
    have := duv_len (s := s) (s.size + 1) 0 (Nat.zero_le _)
    omega
end Go.Proofs.Ytiibadmijhbioab
