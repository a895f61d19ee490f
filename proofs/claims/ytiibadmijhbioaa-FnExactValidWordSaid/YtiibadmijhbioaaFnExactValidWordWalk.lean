/-
  The walk of FnExactValidWord: it returns true at every string.
-/
import Derived.Test.YtiibadmijhbioaaOk
namespace Go.Proofs.Ytiibadmijhbioaa.fnExactValidWord
open Go.RowKit Wd

theorem walk (a0 : ByteArray) (w : World) (w0 : a0.size ≤ maxLen) :
    Calls Try.prog 11 #[.string a0] w fun e w' => e = .returned (.bool true) ∧ Below w.heap.size w w' := by
  by_cases hbig : 1048576 < a0.size
  · go_enter Try.func11, Try.ntmps11
    go_wp2
    go_ret
    exact ⟨rfl, Below.refl _ _⟩
  · have hx : ∃ b, okL a0.data.toList = b := ⟨_, rfl⟩
    obtain ⟨b, hb⟩ := hx
    have h1 := specValid a0 w w0
    have h2 := implOk a0 w w0
    rw [hb] at h1 h2
    have H1 := Lib.hid h1
    have H2 := Lib.hid h2
    clear h1 h2 hb
    cases b
    all_goals
      go_enter Try.func11, Try.ntmps11
      go_wp2_with (first | (go_at_call 38; refine H1.out.mono ?_; rintro e w' ⟨rfl, rfl⟩) | (go_at_call 39; refine H2.out.mono ?_; rintro e w' ⟨rfl, rfl⟩))
      go_ret
      exact ⟨rfl, Below.refl _ _⟩
end Go.Proofs.Ytiibadmijhbioaa.fnExactValidWord
