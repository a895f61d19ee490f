/-
  The walk of FnExactIsPalindrome: it returns true at every string.
-/
import Derived.Test.YtiibadmijhbioabPal
namespace Go.Proofs.Ytiibadmijhbioab.fnExactIsPalindrome
open Go.RowKit Wd

theorem walk_of (u : ByteArray) (w : World) (hu : ¬ 1048576 < u.size) (a : Bool) (b : Int)
    (h1 : ∀ w, Calls Try.prog 26 #[.string u] w fun e w' => e = .returned (.tuple #[.bool a, .int .i64 b]) ∧ Below w.heap.size w w')
    (h2 : ∀ w, Calls Try.prog 27 #[.string u] w fun e w' => e = .returned (.tuple #[.bool a, .int .i64 b]) ∧ Below w.heap.size w w') :
    Calls Try.prog 7 #[.string u] w fun e w' => e = .returned (.bool true) ∧ Below w.heap.size w w' := by
  have H1 := Lib.hid h1
  have H2 := Lib.hid h2
  clear h1 h2
  cases a
  all_goals
    go_enter Try.func7, Try.ntmps7
    go_wp2_with fail
    refine (H1.out _).mono ?_; rintro e w1 ⟨rfl, hB1⟩
    go_wp2_with fail
    refine (H2.out _).mono ?_; rintro e w2 ⟨rfl, hB2⟩
    go_wp2
    go_ret
    exact ⟨rfl, hB1.trans (hB2.mono hB1.size)⟩

theorem walk (a0 : ByteArray) (w : World) (w0 : a0.size ≤ maxLen) :
    Calls Try.prog 7 #[.string a0] w fun e w' => e = .returned (.bool true) ∧ Below w.heap.size w w' := by
  by_cases hu : 1048576 < a0.size
  · go_enter Try.func7, Try.ntmps7
    go_wp2
    go_ret
    exact ⟨rfl, Below.refl _ _⟩
  cases h : okL a0.data.toList
  · exact walk_of _ _ hu _ _ (fun _ => specPal_bad _ _ w0 h) (fun _ => implPal_bad _ _ w0 h)
  · exact walk_of _ _ hu _ _ (fun _ => specPal_ok _ _ w0 h) (fun _ => implPal_ok _ _ w0 h)
end Go.Proofs.Ytiibadmijhbioab.fnExactIsPalindrome
