/-
  Walks: spec.TurnWord, impl.TurnWord.
-/
import Derived.Test.YtiibadmijhbioaaTurnI
namespace Go.Proofs.Ytiibadmijhbioaa
open Go.RowKit
open Wd
set_option linter.unusedVariables false

theorem specTurnWord_bad (s : ByteArray) (w : World) (hs : s.size ≤ maxLen) (h : okL s.data.toList = false) :
    Calls Try.prog 40 #[.string s] w fun e w' => e = .returned (.tuple #[.string ⟨#[]⟩, .int .i64 1]) ∧ Below w.heap.size w w' := by
  have c1 := specOk s w hs
  rw [h] at c1
  have C1 := Lib.hid c1
  clear c1 h
  go_enter Try.func40, Try.ntmps40
  go_wp2_with (go_at_call 62; refine C1.out.mono ?_; rintro e w' ⟨rfl, rfl⟩)
  go_ret2
  exact ⟨rfl, Below.refl _ _⟩
theorem specTurnWord_ok (s : ByteArray) (w : World) (hs : s.size ≤ maxLen) (h : okL s.data.toList = true) :
    Calls Try.prog 40 #[.string s] w fun e w' => e = .returned (.tuple #[.string ⟨s.data.toList.reverse.toArray⟩, .int .i64 0]) ∧ Below w.heap.size w w' := by
  have hl := okL_len h
  simp at hl
  have c1 := specOk s w hs
  have c2 := specTurn s w (by omega)
  rw [h] at c1
  have C1 := Lib.hid c1
  have C2 := Lib.hid c2
  clear c1 h c2
  go_enter Try.func40, Try.ntmps40
  go_wp2_with (first | (go_at_call 62; refine C1.out.mono ?_; rintro e w' ⟨rfl, rfl⟩) | (go_at_call 59; refine C2.out.mono ?_; rintro e w' ⟨rfl, hB⟩))
  go_ret2
  exact ⟨rfl, hB⟩
theorem implTurnWord_bad (s : ByteArray) (w : World) (hs : s.size ≤ maxLen) (h : okL s.data.toList = false) :
    Calls Try.prog 17 #[.string s] w fun e w' => e = .returned (.tuple #[.string ⟨#[]⟩, .int .i64 1]) ∧ Below w.heap.size w w' := by
  have c1 := implOk s w hs
  rw [h] at c1
  have C1 := Lib.hid c1
  clear c1 h
  go_enter Try.func17, Try.ntmps17
  go_wp2_with (go_at_call 39; refine C1.out.mono ?_; rintro e w' ⟨rfl, rfl⟩)
  go_ret2
  exact ⟨rfl, Below.refl _ _⟩
theorem implTurnWord_ok (s : ByteArray) (w : World) (hs : s.size ≤ maxLen) (h : okL s.data.toList = true) :
    Calls Try.prog 17 #[.string s] w fun e w' => e = .returned (.tuple #[.string ⟨s.data.toList.reverse.toArray⟩, .int .i64 0]) ∧ Below w.heap.size w w' := by
  have hl := okL_len h
  simp at hl
  have c1 := implOk s w hs
  have c2 := implTurned s w (by omega)
  rw [h] at c1
  have C1 := Lib.hid c1
  have C2 := Lib.hid c2
  clear c1 h c2
  go_enter Try.func17, Try.ntmps17
  go_wp2_with (first | (go_at_call 39; refine C1.out.mono ?_; rintro e w' ⟨rfl, rfl⟩) | (go_at_call 46; refine C2.out.mono ?_; rintro e w' ⟨rfl, hB⟩))
  go_ret2
  exact ⟨rfl, hB⟩
end Go.Proofs.Ytiibadmijhbioaa
