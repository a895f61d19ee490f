/-
  The walk of FnExactShiftTo: it returns true at every two strings.
-/
import Derived.Test.YtbenlbfommodiaaShiftW
namespace Go.Proofs.Ytbenlbfommodiaa.fnExactShiftTo
open Go.RowKit Wd

theorem walk_of (u v : ByteArray) (w : World) (hu : ¬ 1048576 < u.size) (hv : ¬ 1048576 < v.size) (a b : Int)
    (h1 : ∀ w, Calls Try.prog 26 #[.string u, .string v] w fun e w' => e = .returned (.tuple #[.int .i64 a, .int .i64 b]) ∧ Below w.heap.size w w')
    (h2 : ∀ w, Calls Try.prog 27 #[.string u, .string v] w fun e w' => e = .returned (.tuple #[.int .i64 a, .int .i64 b]) ∧ Below w.heap.size w w') :
    Calls Try.prog 6 #[.string u, .string v] w fun e w' => e = .returned (.bool true) ∧ Below w.heap.size w w' := by
  have H1 := Lib.hid h1
  have H2 := Lib.hid h2
  clear h1 h2
  go_enter Try.func6, Try.ntmps6
  go_wp2_with fail
  refine (H1.out _).mono ?_; rintro e w1 ⟨rfl, hB1⟩
  go_wp2_with fail
  refine (H2.out _).mono ?_; rintro e w2 ⟨rfl, hB2⟩
  go_wp2
  go_ret
  exact ⟨rfl, hB1.trans (hB2.mono hB1.size)⟩

theorem walk (a0 : ByteArray) (a1 : ByteArray) (w : World) (w0 : a0.size ≤ maxLen) (w1 : a1.size ≤ maxLen) :
    Calls Try.prog 6 #[.string a0, .string a1] w fun e w' => e = .returned (.bool true) ∧ Below w.heap.size w w' := by
  by_cases hu : 1048576 < a0.size
  · go_enter Try.func6, Try.ntmps6
    go_wp2
    go_ret
    exact ⟨rfl, Below.refl _ _⟩
  by_cases hv : 1048576 < a1.size
  · go_enter Try.func6, Try.ntmps6
    go_wp2
    go_ret
    exact ⟨rfl, Below.refl _ _⟩
  exact walk_of _ _ _ hu hv _ _ (fun _ => specShiftTo _ _ _ w0 w1) (fun _ => implShiftTo _ _ _ w0 w1)
end Go.Proofs.Ytbenlbfommodiaa.fnExactShiftTo
