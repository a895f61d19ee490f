/-
  Walks: impl.ValidGrammar, spec.ValidGrammar.
-/
import Derived.Test.YtcaeihdfljljbaaDoorVLen
namespace Go.Proofs.YtcaeihdfljljbaaDoor
open Go.RowKit
open Wd
set_option linter.unusedVariables false

theorem implValidGrammar (v : Value) (gs : List Rl) (w : World) (hf : FewR gs) (hr : Rules w v gs) :
    Calls Tryd.prog 81 #[.agg #[v]] w fun e w' => e = .returned (.bool (gOk gs)) ∧ Below w.heap.size w w' := by
  have hb := (Below.refl _ w).alloc (Nat.le_refl _) (.cells #[v] 44)
  have h1 := len.vlen_any v gs _ hf (hr.kept hb)
  have H1 := Lib.hid h1
  have HB := Lib.hid hb
  obtain ⟨A, c, rfl, _⟩ := hr
  clear h1 hb
  go_enter Tryd.func81, Tryd.ntmps81
  go_wp2_with fail
  refine H1.out.mono ?_
  rintro e w1 ⟨x, rfl, _, hB1⟩
  have HB1 := Lib.hid hB1
  clear hB1
  go_wp2_with fail
  go_ret
  exact ⟨rfl, HB.out.trans (HB1.out.mono (by simp))⟩
end Go.Proofs.YtcaeihdfljljbaaDoor
