/-
  Walks: spec.IsPalindrome, impl.IsPalindrome.
-/
import Derived.Test.YtiibadmijhbioabTurnI
namespace Go.Proofs.Ytiibadmijhbioab
open Go.RowKit
open Wd
set_option linter.unusedVariables false

theorem ret_bi {a b : Bool} {k : IntKind} {c : Int} (h : a = b) : Ending.returned (.tuple #[.bool a, .int k c]) = .returned (.tuple #[.bool b, .int k c]) := by rw [h]
theorem beq_turn1 (s : ByteArray) : (s.data.toList.reverse == s.toList) = decide (s.data.toList.reverse = s.data.toList) := by
  rw [ByteArray.toList_eq, Bool.eq_iff_iff, beq_iff_eq, decide_eq_true_iff]
theorem beq_turn2 (s : ByteArray) : (s.toList == s.data.toList.reverse) = decide (s.data.toList.reverse = s.data.toList) := by
  rw [ByteArray.toList_eq, Bool.eq_iff_iff, beq_iff_eq, decide_eq_true_iff]
  exact ⟨Eq.symm, Eq.symm⟩

theorem specPal_ok (s : ByteArray) (w : World) (hs : s.size ≤ maxLen) (h : okL s.data.toList = true) :
    Calls Try.prog 26 #[.string s] w fun e w' => e = .returned (.tuple #[.bool (decide (s.data.toList.reverse = s.data.toList)), .int .i64 0]) ∧ Below w.heap.size w w' := by
  have hl := okL_len h
  simp at hl
  have c1 := specOk s w hs
  have c2 := specTurn s w (by omega)
  rw [h] at c1
  have C1 := Lib.hid c1
  have C2 := Lib.hid c2
  clear c1 h c2
  go_enter Try.func26, Try.ntmps26
  go_wp2_with (first | (go_at_call 50; refine C1.out.mono ?_; rintro e w' ⟨rfl, rfl⟩) | (go_at_call 59; refine C2.out.mono ?_; rintro e w' ⟨rfl, hB⟩))
  go_ret2
  exact ⟨ret_bi (beq_turn1 s), hB⟩
theorem implPal_ok (s : ByteArray) (w : World) (hs : s.size ≤ maxLen) (h : okL s.data.toList = true) :
    Calls Try.prog 27 #[.string s] w fun e w' => e = .returned (.tuple #[.bool (decide (s.data.toList.reverse = s.data.toList)), .int .i64 0]) ∧ Below w.heap.size w w' := by
  have hl := okL_len h
  simp at hl
  have c1 := implOk s w hs
  have c2 := implTurned s w (by omega)
  rw [h] at c1
  have C1 := Lib.hid c1
  have C2 := Lib.hid c2
  clear c1 h c2
  go_enter Try.func27, Try.ntmps27
  go_wp2_with (first | (go_at_call 52; refine C1.out.mono ?_; rintro e w' ⟨rfl, rfl⟩) | (go_at_call 60; refine C2.out.mono ?_; rintro e w' ⟨rfl, hB⟩))
  go_ret2
  exact ⟨ret_bi (beq_turn2 s), hB⟩

theorem specPal_bad (s : ByteArray) (w : World) (hs : s.size ≤ maxLen) (h : okL s.data.toList = false) :
    Calls Try.prog 26 #[.string s] w fun e w' => e = .returned (.tuple #[.bool false, .int .i64 1]) ∧ Below w.heap.size w w' := by
  have c1 := specOk s w hs
  rw [h] at c1
  have C1 := Lib.hid c1
  clear c1 h
  go_enter Try.func26, Try.ntmps26
  go_wp2_with (go_at_call 50; refine C1.out.mono ?_; rintro e w' ⟨rfl, rfl⟩)
  go_ret2
  exact ⟨rfl, Below.refl _ _⟩
theorem implPal_bad (s : ByteArray) (w : World) (hs : s.size ≤ maxLen) (h : okL s.data.toList = false) :
    Calls Try.prog 27 #[.string s] w fun e w' => e = .returned (.tuple #[.bool false, .int .i64 1]) ∧ Below w.heap.size w w' := by
  have c1 := implOk s w hs
  rw [h] at c1
  have C1 := Lib.hid c1
  clear c1 h
  go_enter Try.func27, Try.ntmps27
  go_wp2_with (go_at_call 52; refine C1.out.mono ?_; rintro e w' ⟨rfl, rfl⟩)
  go_ret2
  exact ⟨rfl, Below.refl _ _⟩
end Go.Proofs.Ytiibadmijhbioab
