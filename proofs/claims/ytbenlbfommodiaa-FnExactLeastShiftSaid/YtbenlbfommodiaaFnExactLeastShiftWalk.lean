/-
  The walk of FnExactLeastShift: it returns true at every string.
-/
import Derived.Test.YtbenlbfommodiaaLeastI
namespace Go.Proofs.Ytbenlbfommodiaa.fnExactLeastShift
open Go.RowKit Wd

theorem walk_of (u : ByteArray) (w : World) (hu : ¬ 1048576 < u.size) (a b : Int)
    (h1 : ∀ w, Calls Try.prog 24 #[.string u] w fun e w' => e = .returned (.tuple #[.int .i64 a, .int .i64 b]) ∧ Below w.heap.size w w')
    (h2 : ∀ w, Calls Try.prog 25 #[.string u] w fun e w' => e = .returned (.tuple #[.int .i64 a, .int .i64 b]) ∧ Below w.heap.size w w') :
    Calls Try.prog 5 #[.string u] w fun e w' => e = .returned (.bool true) ∧ Below w.heap.size w w' := by
  have H1 := Lib.hid h1
  have H2 := Lib.hid h2
  clear h1 h2
  go_enter Try.func5, Try.ntmps5
  go_wp2_with fail
  refine (H1.out _).mono ?_; rintro e w1 ⟨rfl, hB1⟩
  go_wp2_with fail
  refine (H2.out _).mono ?_; rintro e w2 ⟨rfl, hB2⟩
  go_wp2
  go_ret
  exact ⟨rfl, hB1.trans (hB2.mono hB1.size)⟩

theorem walk (a0 : ByteArray) (w : World) (w0 : a0.size ≤ maxLen) :
    Calls Try.prog 5 #[.string a0] w fun e w' => e = .returned (.bool true) ∧ Below w.heap.size w w' := by
  by_cases hu : 1048576 < a0.size
  · go_enter Try.func5, Try.ntmps5
    go_wp2
    go_ret
    exact ⟨rfl, Below.refl _ _⟩
  exact walk_of _ _ hu _ _ (fun _ => specLeastShift _ _ w0) (fun _ => implLeastShift _ _ w0)
end Go.Proofs.Ytbenlbfommodiaa.fnExactLeastShift
