/-
  Walks: impl.IsPalindrome alone.
-/
import Derived.Test.YtiibadmijhbioaaTurnI
namespace Go.Proofs.Ytiibadmijhbioaa
open Go.RowKit
open Wd
set_option linter.unusedVariables false

theorem ret_bi {a b : Bool} {k : IntKind} {c : Int} (h : a = b) : Ending.returned (.tuple #[.bool a, .int k c]) = .returned (.tuple #[.bool b, .int k c]) := by rw [h]
theorem beq_turn1 (s : ByteArray) : (s.data.toList.reverse == s.toList) = decide (s.data.toList.reverse = s.data.toList) := by
  rw [ByteArray.toList_eq, Bool.eq_iff_iff, beq_iff_eq, decide_eq_true_iff]
theorem beq_turn2 (s : ByteArray) : (s.toList == s.data.toList.reverse) = decide (s.data.toList.reverse = s.data.toList) := by
  rw [ByteArray.toList_eq, Bool.eq_iff_iff, beq_iff_eq, decide_eq_true_iff]
  exact ⟨Eq.symm, Eq.symm⟩

theorem implPal_ok (s : ByteArray) (w : World) (hs : s.size ≤ maxLen) (h : okL s.data.toList = true) :
    Calls Try.prog 18 #[.string s] w fun e w' => e = .returned (.tuple #[.bool (decide (s.data.toList.reverse = s.data.toList)), .int .i64 0]) ∧ Below w.heap.size w w' := by
  have hl := okL_len h
  simp at hl
  have c1 := implOk s w hs
  have c2 := implTurned s w (by omega)
  rw [h] at c1
  have C1 := Lib.hid c1
  have C2 := Lib.hid c2
  clear c1 h c2
  go_enter Try.func18, Try.ntmps18
  go_wp2_with (first | (go_at_call 39; refine C1.out.mono ?_; rintro e w' ⟨rfl, rfl⟩) | (go_at_call 46; refine C2.out.mono ?_; rintro e w' ⟨rfl, hB⟩))
  go_ret2
  exact ⟨ret_bi (beq_turn2 s), hB⟩

end Go.Proofs.Ytiibadmijhbioaa
