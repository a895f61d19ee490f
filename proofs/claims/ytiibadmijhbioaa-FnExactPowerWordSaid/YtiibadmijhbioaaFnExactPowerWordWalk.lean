/-
  The walk of FnExactPowerWord: it returns true at every string and number.
-/
import Derived.Test.YtiibadmijhbioaaPowerI
namespace Go.Proofs.Ytiibadmijhbioaa.fnExactPowerWord
open Go.RowKit Wd

theorem walk_of (u : ByteArray) (t : Int) (w : World) (hu : ¬ 1048576 < u.size) (a : ByteArray) (b : Int)
    (h1 : ∀ w, Calls Try.prog 41 #[.string u, .int .i64 t] w fun e w' => e = .returned (.tuple #[.string a, .int .i64 b]) ∧ Below w.heap.size w w')
    (h2 : ∀ w, Calls Try.prog 20 #[.string u, .int .i64 t] w fun e w' => e = .returned (.tuple #[.string a, .int .i64 b]) ∧ Below w.heap.size w w') :
    Calls Try.prog 13 #[.string u, .int .i64 t] w fun e w' => e = .returned (.bool true) ∧ Below w.heap.size w w' := by
  have H1 := Lib.hid h1
  have H2 := Lib.hid h2
  clear h1 h2
  go_enter Try.func13, Try.ntmps13
  go_wp2_with fail
  refine (H1.out _).mono ?_; rintro e w1 ⟨rfl, hB1⟩
  go_wp2_with fail
  refine (H2.out _).mono ?_; rintro e w2 ⟨rfl, hB2⟩
  go_wp2
  go_ret
  exact ⟨rfl, hB1.trans (hB2.mono hB1.size)⟩

theorem walk (a0 : ByteArray) (a1 : Int) (w : World) (w0 : a0.size ≤ maxLen) (w1 : (Lit.int .i64 a1).wf = true) :
    Calls Try.prog 13 #[.string a0, .int .i64 a1] w fun e w' => e = .returned (.bool true) ∧ Below w.heap.size w w' := by
  by_cases hu : 1048576 < a0.size
  · go_enter Try.func13, Try.ntmps13
    go_wp2
    go_ret
    exact ⟨rfl, Below.refl _ _⟩
  obtain ⟨r, c, h⟩ := pow_said a0 a1
  exact walk_of _ _ _ hu _ _ (fun _ => specPower _ _ _ _ _ w0 w1 h) (fun _ => implPower _ _ _ _ _ w0 w1 h)
end Go.Proofs.Ytiibadmijhbioaa.fnExactPowerWord
