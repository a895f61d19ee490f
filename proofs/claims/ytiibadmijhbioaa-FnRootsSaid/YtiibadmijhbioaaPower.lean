/-
  Walks: spec.PowerWord, impl.PowerWord.
-/
import Derived.Test.YtiibadmijhbioaaTimes
import Derived.Test.YtiibadmijhbioaaShelf
namespace Go.Proofs.Ytiibadmijhbioaa
open Go.RowKit
open Wd
set_option linter.unusedVariables false

/-- what PowerWord answers -/
def PowSaid (s : ByteArray) (t : Int) (r : ByteArray) (c : Int) : Prop :=
  (okL s.data.toList = false ∧ r = ⟨#[]⟩ ∧ c = 1) ∨
  (okL s.data.toList = true ∧ t < 0 ∧ r = ⟨#[]⟩ ∧ c = 2) ∨
  (okL s.data.toList = true ∧ s.size = 0 ∧ 0 ≤ t ∧ r = ⟨#[]⟩ ∧ c = 0) ∨
  (okL s.data.toList = true ∧ 0 < s.size ∧ 0 ≤ t ∧ (2000 : Int) < s.size * t ∧ r = ⟨#[]⟩ ∧ c = 3) ∨
  (okL s.data.toList = true ∧ 0 < s.size ∧ ∃ k : Nat, t = k ∧ s.size * k ≤ 2000 ∧ r = ⟨(Lib.repeatL s.data.toList k).toArray⟩ ∧ c = 0)
theorem pow_said (s : ByteArray) (t : Int) : ∃ r c, PowSaid s t r c := by
  cases h : okL s.data.toList
  · exact ⟨_, _, .inl ⟨h, rfl, rfl⟩⟩
  by_cases h1 : t < 0
  · exact ⟨_, _, .inr (.inl ⟨h, h1, rfl, rfl⟩)⟩
  by_cases h2 : s.size = 0
  · exact ⟨_, _, .inr (.inr (.inl ⟨h, h2, by omega, rfl, rfl⟩))⟩
  by_cases h3 : (2000 : Int) < s.size * t
  · exact ⟨_, _, .inr (.inr (.inr (.inl ⟨h, by omega, by omega, h3, rfl, rfl⟩)))⟩
  · obtain ⟨k, rfl⟩ := Int.eq_ofNat_of_zero_le (Int.not_lt.1 h1)
    exact ⟨_, _, .inr (.inr (.inr (.inr ⟨h, by omega, k, rfl, by have := Int.not_lt.1 h3; rw [← Int.natCast_mul] at this; omega, rfl, rfl⟩)))⟩

theorem specPower (s : ByteArray) (t : Int) (r : ByteArray) (c : Int) (w : World) (hs : s.size ≤ maxLen) (ht : (Lit.int .i64 t).wf = true) (h : PowSaid s t r c) :
    Calls Try.prog 41 #[.string s, .int .i64 t] w fun e w' => e = .returned (.tuple #[.string r, .int .i64 c]) ∧ Below w.heap.size w w' := by
  have c1 := specOk s w hs
  rcases h with ⟨h, rfl, rfl⟩ | ⟨h, h1, rfl, rfl⟩ | ⟨h, h1, h2, rfl, rfl⟩ | ⟨h, h1, h2, h3, rfl, rfl⟩ | ⟨h, h1, k, rfl, h2, rfl, rfl⟩
  · rw [h] at c1
    have C1 := Lib.hid c1
    clear c1 h
    go_enter Try.func41, Try.ntmps41
    go_wp2_with (go_at_call 62; refine C1.out.mono ?_; rintro e w' ⟨rfl, rfl⟩)
    go_ret2
    exact ⟨rfl, Below.refl _ _⟩
  · rw [h] at c1
    have C1 := Lib.hid c1
    clear c1 h
    go_enter Try.func41, Try.ntmps41
    go_wp2_with (go_at_call 62; refine C1.out.mono ?_; rintro e w' ⟨rfl, rfl⟩)
    go_ret2
    exact ⟨rfl, Below.refl _ _⟩
  · rw [h] at c1
    have C1 := Lib.hid c1
    have h3 : ((s.size : Int) == 0) = true := by rw [beq_iff_eq]; omega
    clear c1 h h1
    go_enter Try.func41, Try.ntmps41
    go_wp2_with (go_at_call 62; refine C1.out.mono ?_; rintro e w' ⟨rfl, rfl⟩)
    go_ret2
    exact ⟨rfl, Below.refl _ _⟩
  · have hl := okL_len h
    simp at hl
    rw [h] at c1
    have C1 := Lib.hid c1
    have h4 : ((s.size : Int) == 0) = false := by rw [beq_eq_false_iff_ne]; omega
    have h5 : ¬ t < 0 := by omega
    obtain ⟨k, rfl⟩ := Int.eq_ofNat_of_zero_le h2
    clear c1 h
    by_cases hk : (2000 : Int) < (k : Int)
    · go_enter Try.func41, Try.ntmps41
      go_wp2_with (go_at_call 62; refine C1.out.mono ?_; rintro e w' ⟨rfl, rfl⟩)
      go_ret2
      exact ⟨rfl, Below.refl _ _⟩
    · have hb : (s.size : Int) * (k : Int) ≤ 4000000 := by
        have : s.size * k ≤ 2000 * 2000 := Nat.mul_le_mul (by omega) (by omega)
        rw [← Int.natCast_mul]; omega
      have hk' : decide ((2000 : Int) < (k : Int)) = false := by simpa using hk
      generalize hp : (s.size : Int) * (k : Int) = p at h3 hb
      have hw : IntKind.i64.wrap ((s.size : Int) * (k : Int)) = p := by rw [hp]; exact IntWalk.i64_in _ (by omega)
      clear hp
      go_enter Try.func41, Try.ntmps41
      go_wp2_with (go_at_call 62; refine C1.out.mono ?_; rintro e w' ⟨rfl, rfl⟩)
      go_ret2
      exact ⟨rfl, Below.refl _ _⟩
  · have hl := okL_len h
    simp at hl
    rw [h] at c1
    have C1 := Lib.hid c1
    have hk2 : k ≤ 2000 := Nat.le_trans (Nat.le_mul_of_pos_left k h1) h2
    have c2 := specTimes s k w (by omega) (by omega) (by omega)
    have C2 := Lib.hid c2
    have h4 : ((s.size : Int) == 0) = false := by rw [beq_eq_false_iff_ne]; omega
    have h5 : ¬ (k : Int) < 0 := by omega
    have hk' : decide ((2000 : Int) < (k : Int)) = false := by simp; omega
    have hb : (s.size : Int) * (k : Int) ≤ 2000 := by rw [← Int.natCast_mul]; omega
    have hb0 : 0 ≤ (s.size : Int) * (k : Int) := Int.mul_nonneg (by omega) (by omega)
    generalize hp : (s.size : Int) * (k : Int) = p at hb hb0
    have hw : IntKind.i64.wrap ((s.size : Int) * (k : Int)) = p := by rw [hp]; exact IntWalk.i64_in _ (by omega)
    clear hp c1 h c2 h2
    go_enter Try.func41, Try.ntmps41
    go_wp2_with (first | (go_at_call 62; refine C1.out.mono ?_; rintro e w' ⟨rfl, rfl⟩) | (go_at_call 64; refine C2.out.mono ?_; rintro e w' ⟨rfl, hB⟩))
    go_ret2
    exact ⟨rfl, hB⟩
end Go.Proofs.Ytiibadmijhbioaa
