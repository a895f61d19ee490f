/-
  Small contracts that all makers of grammars share: pairOf.
-/
import Derived.Test.YtlkjceolddccbaaGLim
import Derived.Test.YtlkjceolddccbaaGPr
namespace Go.Proofs.Ytlkjceolddccbaa
open Go.RowKit
open Wd
set_option linter.unusedVariables false
theorem pairA (a b : Int) (w : World) :
    Calls Try.prog 125 #[.int .i64 a, .int .i64 b] w fun e w' => e = .returned (.agg #[.string ⟨#[]⟩, .int .i64 a, .int .i64 b]) ∧ Below w.heap.size w w' := by
  have hb : Below w.heap.size w (w.alloc (.cells #[.string ⟨#[]⟩, .int .i64 0, .int .i64 0] 71)) := (Below.refl _ w).alloc (Nat.le_refl _) _
  have HB := Lib.hid ((Below.refl _ w).alloc (Nat.le_refl _) (.cells #[.string ⟨#[]⟩, .int .i64 a, .int .i64 b] 71))
  clear hb
  go_enter Try.func125, Try.ntmps125
  go_wp2
  refine bodyPost_ret (v := .agg #[.string ⟨#[]⟩, .int .i64 a, .int .i64 b]) (by simp [results, Try.results125, go_sem]) rfl ⟨rfl, HB.out⟩
end Go.Proofs.Ytlkjceolddccbaa
