/-
  The walk of FnExactFibonacciWord: it returns true at every number.
-/
import Derived.Test.YtiibadmijhbioacFib
namespace Go.Proofs.Ytiibadmijhbioac.fnExactFibonacciWord
open Go.RowKit Wd

theorem walk (a0 : Int) (w : World) (_w0 : (Lit.int .i64 a0).wf = true) :
    Calls Try.prog 3 #[.int .i64 a0] w fun e w' => e = .returned (.bool true) ∧ Below w.heap.size w w' := by
  obtain ⟨r, c, h⟩ := fib_said a0
  have H1 := Lib.hid (specFib a0 r c h)
  have H2 := Lib.hid (implFib a0 r c h)
  clear h
  go_enter Try.func3, Try.ntmps3
  go_wp2_with fail
  refine (H1.out _).mono ?_; rintro e w1 ⟨rfl, rfl⟩
  go_wp2_with fail
  refine (H2.out _).mono ?_; rintro e w2 ⟨rfl, rfl⟩
  go_wp2
  go_ret
  exact ⟨rfl, Below.refl _ _⟩
end Go.Proofs.Ytiibadmijhbioac.fnExactFibonacciWord
