/-
  Walks: spec.l01Compare, spec.CompareWords, impl.CompareWords.
-/
import Derived.Test.YtiibadmijhbioabBase
import Derived.Test.YtiibadmijhbioabShelf
import Derived.Lib.Bytealg
namespace Go.Proofs.Ytiibadmijhbioab
open Go.RowKit
open Wd
set_option linter.unusedVariables false

namespace Wd
/-- the three ways in which two texts stand to each other -/
def Cmp3 (a b : List UInt8) : Prop :=
  (Op.bytesLess a b = true ∧ Lib.compareBytes a b = -1) ∨
  (Op.bytesLess a b = false ∧ (a == b) = false ∧ Lib.compareBytes a b = 1) ∨
  (Op.bytesLess a b = false ∧ (a == b) = true ∧ Lib.compareBytes a b = 0)
theorem cmp3 : ∀ a b : List UInt8, Cmp3 a b
  | [], [] => .inr (.inr ⟨rfl, rfl, rfl⟩)
  | [], _ :: _ => .inl ⟨rfl, rfl⟩
  | _ :: _, [] => .inr (.inl ⟨rfl, rfl, rfl⟩)
  | a :: x, b :: y => by
    by_cases h1 : a < b
    · exact .inl ⟨by simp [Op.bytesLess, h1], by simp [Lib.compareBytes, h1]⟩
    by_cases h2 : b < a
    · have hne : ¬ a = b := by intro h; rw [h] at h2; exact UInt8.lt_irrefl b h2
      exact .inr (.inl ⟨by simp [Op.bytesLess, h1, hne], by simp [hne], by simp [Lib.compareBytes, h1, h2]⟩)
    · have he : a = b := UInt8.le_antisymm (UInt8.not_lt.1 h2) (UInt8.not_lt.1 h1)
      subst he
      rcases cmp3 x y with ⟨h3, h4⟩ | ⟨h3, h4, h5⟩ | ⟨h3, h4, h5⟩
      · exact .inl ⟨by simp [Op.bytesLess, h3], by simp [Lib.compareBytes, h1, h4]⟩
      · exact .inr (.inl ⟨by simp [Op.bytesLess, h1, h3], by simpa using h4, by simp [Lib.compareBytes, h1, h5]⟩)
      · exact .inr (.inr ⟨by simp [Op.bytesLess, h1, h3], by simpa using h4, by simp [Lib.compareBytes, h1, h5]⟩)
end Wd

theorem specCompare (u v : ByteArray) (w : World) :
    Calls Try.prog 51 #[.string u, .string v] w fun e w' => e = .returned (.int .i64 (Lib.compareBytes u.data.toList v.data.toList)) ∧ w = w' := by
  have h3 := cmp3 u.toList v.toList
  rw [← ByteArray.toList_eq u, ← ByteArray.toList_eq v]
  rcases h3 with ⟨h1, h2⟩ | ⟨h1, h2, h4⟩ | ⟨h1, h2, h4⟩
  · rw [h2]
    clear h2
    go_enter Try.func51, Try.ntmps51
    go_wp2
    go_ret
    exact ⟨rfl, rfl⟩
  · rw [h4]
    clear h4
    go_enter Try.func51, Try.ntmps51
    go_wp2
    go_ret
    exact ⟨rfl, rfl⟩
  · rw [h4]
    clear h4
    go_enter Try.func51, Try.ntmps51
    go_wp2
    go_ret
    exact ⟨rfl, rfl⟩

theorem specCompareW_bad (u v : ByteArray) (w : World) (hu : u.size ≤ maxLen) (hv : v.size ≤ maxLen) (h : okL u.data.toList = false ∨ okL u.data.toList = true ∧ okL v.data.toList = false) :
    Calls Try.prog 15 #[.string u, .string v] w fun e w' => e = .returned (.tuple #[.int .i64 0, .int .i64 1]) ∧ w = w' := by
  have c1 := specOk u w hu
  have c2 := specOk v w hv
  rcases h with h | ⟨h, h'⟩
  · rw [h] at c1
    have C1 := Lib.hid c1
    clear c1 c2 h
    go_enter Try.func15, Try.ntmps15
    go_wp2_with (go_at_call 50; refine C1.out.mono ?_; rintro e w' ⟨rfl, rfl⟩)
    go_ret2
    exact ⟨rfl, rfl⟩
  · rw [h] at c1
    rw [h'] at c2
    have C1 := Lib.hid c1
    have C2 := Lib.hid c2
    clear c1 c2 h h'
    go_enter Try.func15, Try.ntmps15
    go_wp2_with fail
    refine C1.out.mono ?_; rintro e w' ⟨rfl, rfl⟩
    go_wp2_with fail
    refine C2.out.mono ?_; rintro e w' ⟨rfl, rfl⟩
    go_wp2
    go_ret2
    exact ⟨rfl, rfl⟩
theorem specCompareW_ok (u v : ByteArray) (w : World) (hu : u.size ≤ maxLen) (hv : v.size ≤ maxLen) (h : okL u.data.toList = true) (h' : okL v.data.toList = true) :
    Calls Try.prog 15 #[.string u, .string v] w fun e w' => e = .returned (.tuple #[.int .i64 (Lib.compareBytes u.data.toList v.data.toList), .int .i64 0]) ∧ w = w' := by
  have c1 := specOk u w hu
  have c2 := specOk v w hv
  rw [h] at c1
  rw [h'] at c2
  have C1 := Lib.hid c1
  have C2 := Lib.hid c2
  have C3 := Lib.hid (specCompare u v w)
  generalize Lib.compareBytes u.data.toList v.data.toList = r at C3 ⊢
  clear c1 c2 h h'
  go_enter Try.func15, Try.ntmps15
  go_wp2_with fail
  refine C1.out.mono ?_; rintro e w' ⟨rfl, rfl⟩
  go_wp2_with fail
  refine C2.out.mono ?_; rintro e w' ⟨rfl, rfl⟩
  go_wp2_with fail
  refine C3.out.mono ?_; rintro e w' ⟨rfl, rfl⟩
  go_wp2
  go_ret2
  exact ⟨rfl, rfl⟩
theorem implCompareW_bad (u v : ByteArray) (w : World) (hu : u.size ≤ maxLen) (hv : v.size ≤ maxLen) (h : okL u.data.toList = false ∨ okL u.data.toList = true ∧ okL v.data.toList = false) :
    Calls Try.prog 16 #[.string u, .string v] w fun e w' => e = .returned (.tuple #[.int .i64 0, .int .i64 1]) ∧ w = w' := by
  have c1 := implOk u w hu
  have c2 := implOk v w hv
  rcases h with h | ⟨h, h'⟩
  · rw [h] at c1
    have C1 := Lib.hid c1
    clear c1 c2 h
    go_enter Try.func16, Try.ntmps16
    go_wp2_with (go_at_call 52; refine C1.out.mono ?_; rintro e w' ⟨rfl, rfl⟩)
    go_ret2
    exact ⟨rfl, rfl⟩
  · rw [h] at c1
    rw [h'] at c2
    have C1 := Lib.hid c1
    have C2 := Lib.hid c2
    clear c1 c2 h h'
    go_enter Try.func16, Try.ntmps16
    go_wp2_with fail
    refine C1.out.mono ?_; rintro e w' ⟨rfl, rfl⟩
    go_wp2_with fail
    refine C2.out.mono ?_; rintro e w' ⟨rfl, rfl⟩
    go_wp2
    go_ret2
    exact ⟨rfl, rfl⟩
theorem implCompareW_ok (u v : ByteArray) (w : World) (hu : u.size ≤ maxLen) (hv : v.size ≤ maxLen) (h : okL u.data.toList = true) (h' : okL v.data.toList = true) :
    Calls Try.prog 16 #[.string u, .string v] w fun e w' => e = .returned (.tuple #[.int .i64 (Lib.compareBytes u.data.toList v.data.toList), .int .i64 0]) ∧ w = w' := by
  have c1 := implOk u w hu
  have c2 := implOk v w hv
  rw [h] at c1
  rw [h'] at c2
  have C1 := Lib.hid c1
  have C2 := Lib.hid c2
  have C3 := Lib.hid ((Try.strings_Compare u v w).mono (R' := fun e w' => e = .returned (.int .i64 (Lib.compareBytes u.data.toList v.data.toList)) ∧ w = w') fun _ _ ⟨h1, h2⟩ => ⟨h1, h2.symm⟩)
  generalize Lib.compareBytes u.data.toList v.data.toList = r at C3 ⊢
  clear c1 c2 h h'
  go_enter Try.func16, Try.ntmps16
  go_wp2_with fail
  refine C1.out.mono ?_; rintro e w' ⟨rfl, rfl⟩
  go_wp2_with fail
  refine C2.out.mono ?_; rintro e w' ⟨rfl, rfl⟩
  go_wp2_with fail
  refine C3.out.mono ?_; rintro e w' ⟨rfl, rfl⟩
  go_wp2
  go_ret2
  exact ⟨rfl, rfl⟩
end Go.Proofs.Ytiibadmijhbioab
