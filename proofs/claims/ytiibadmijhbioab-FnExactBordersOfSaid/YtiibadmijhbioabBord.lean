/-
  BordersOf, the model's and the program's: both answer the same list.
-/
import Derived.Test.YtiibadmijhbioabBordI
namespace Go.Proofs.Ytiibadmijhbioab
open Go.RowKit
open Wd
set_option linter.unusedVariables false

theorem implBorders_bad (s : ByteArray) (w : World) (hs : s.size ≤ maxLen) (h : okL s.data.toList = false) :
    Calls Try.prog 18 #[.string s] w fun e w' => ∃ x, e = .returned (.tuple #[x, .int .i64 1]) ∧ OwnsI w' w.heap.size x [] ∧ Below w.heap.size w w' := by
  have c1 := implOk s w hs
  rw [h] at c1
  have C1 := Lib.hid c1
  clear c1 h
  go_enter Try.func18, Try.ntmps18
  go_wp2_with (go_at_call 52; refine C1.out.mono ?_; rintro e w' ⟨rfl, rfl⟩)
  go_ret2
  exact ⟨_, rfl, World.ownsRow_nil _ _ _ _, Below.refl _ _⟩

theorem saidBordersOf (s : ByteArray) (hs : s.size ≤ maxLen) : ∃ (zs : List Int) (c : Int), zs.length ≤ 1000000 ∧
    (∀ w, Calls Try.prog 17 #[.string s] w fun e w' => ∃ x, e = .returned (.tuple #[x, .int .i64 c]) ∧ OwnsI w' w.heap.size x zs ∧ Below w.heap.size w w') ∧
    (∀ w, Calls Try.prog 18 #[.string s] w fun e w' => ∃ x, e = .returned (.tuple #[x, .int .i64 c]) ∧ OwnsI w' w.heap.size x zs ∧ Below w.heap.size w w') := by
  cases h : okL s.data.toList
  · exact ⟨[], 1, by simp, fun w => specBorders_bad s w hs h, fun w => implBorders_bad s w hs h⟩
  · have hl := okL_len h
    simp at hl
    exact ⟨upTo (brdB s) (s.size - 1), 0, Nat.le_trans (upTo_len _ _) (by omega), fun w => specBorders_ok s w hl h, fun w => implBorders_ok s w hl h⟩
end Go.Proofs.Ytiibadmijhbioab
