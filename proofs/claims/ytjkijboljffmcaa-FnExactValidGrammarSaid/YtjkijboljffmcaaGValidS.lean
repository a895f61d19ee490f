/-
  Walk: spec.ValidGrammar.
-/
import Derived.Test.YtjkijboljffmcaaGValid
namespace Go.Proofs.Ytjkijboljffmcaa
open Go.RowKit
open Wd
set_option linter.unusedVariables false

theorem rules_gp {w : World} {v : Value} {gs : List Rl} (h : Rules w v gs) (t : TypeId) : GP (w.alloc (.cells #[v] t)) w.heap.size gs :=
  ⟨v, cell_new w v t, h.kept ((Below.refl _ w).alloc (Nat.le_refl _) _)⟩
theorem specValidGrammar (v : Value) (gs : List Rl) (w : World) (hf : FewR gs) (hr : Rules w v gs) :
    Calls Try.prog 43 #[.agg #[v]] w fun e w' => e = .returned (.bool (gOk gs)) ∧ Below w.heap.size w w' := by
  have hg := rules_gp hr 65
  have h1 := l02Ok_any w.heap.size gs _ hf hg
  have H1 := Lib.hid h1
  obtain ⟨A, c, rfl, _⟩ := hr
  clear h1 hg
  go_enter Try.func43, Try.ntmps43
  go_wp2_with fail
  refine H1.out.mono ?_
  rintro e w1 ⟨rfl, hB1⟩
  have HB1 := Lib.hid hB1
  clear hB1
  go_wp2_with fail
  go_ret
  exact ⟨rfl, ((Below.refl _ w).alloc (Nat.le_refl _) _).trans (HB1.out.mono (by simp))⟩
end Go.Proofs.Ytjkijboljffmcaa
