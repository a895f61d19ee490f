/-
  Small contracts that all makers of grammars share: pairOf.
-/
import Derived.Test.YtnhobcfpipedmaaGLim
import Derived.Test.YtnhobcfpipedmaaGPr
namespace Go.Proofs.Ytnhobcfpipedmaa
open Go.RowKit
open Wd
set_option linter.unusedVariables false
theorem pairA (a b : Int) (w : World) :
    Calls Try.prog 124 #[.int .i64 a, .int .i64 b] w fun e w' => e = .returned (.agg #[.string ⟨#[]⟩, .int .i64 a, .int .i64 b]) ∧ Below w.heap.size w w' := by
  have hb : Below w.heap.size w (w.alloc (.cells #[.string ⟨#[]⟩, .int .i64 0, .int .i64 0] 94)) := (Below.refl _ w).alloc (Nat.le_refl _) _
  have HB := Lib.hid ((Below.refl _ w).alloc (Nat.le_refl _) (.cells #[.string ⟨#[]⟩, .int .i64 a, .int .i64 b] 94))
  clear hb
  go_enter Try.func124, Try.ntmps124
  go_wp2
  refine bodyPost_ret (v := .agg #[.string ⟨#[]⟩, .int .i64 a, .int .i64 b]) (by simp [results, Try.results124, go_sem]) rfl ⟨rfl, HB.out⟩
end Go.Proofs.Ytnhobcfpipedmaa
