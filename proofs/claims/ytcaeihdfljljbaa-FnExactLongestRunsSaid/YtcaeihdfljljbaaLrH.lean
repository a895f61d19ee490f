/-
  Pieces for the walk of spec.l05Longest (not written to its end yet).
-/
import Derived.Test.YtcaeihdfljljbaaLrN
import Derived.Test.YtcaeihdfljljbaaHand
import Derived.Test.YtcaeihdfljljbaaVar
import Derived.StillTailTactics
namespace Go.Proofs.Ytcaeihdfljljbaa
open Go.RowKit
open Wd
set_option linter.unusedVariables false
theorem sLetL_any (c : UInt8) (h1 : 97 ≤ (c.toNat : Int)) (h2 : (c.toNat : Int) ≤ 100) (W : World) :
    Calls Try.prog 123 #[.int .u8 ((((⟨#[c]⟩ : ByteArray)[0]'(Nat.zero_lt_one)).toNat : Nat) : Int)] W fun e w' => e = .returned (.int .i64 ((c.toNat - 97 : Nat) : Int)) ∧ w' = W := by
  show Calls Try.prog 123 #[.int .u8 ((c.toNat : Nat) : Int)] W _
  have := letterN_any (c.toNat - 97) (by omega) W
  rwa [show 97 + (c.toNat - 97) = c.toNat from by omega] at this
theorem news3l (w : World) (a b c : Int) (t : TypeId) : ∀ j u, [Value.int .i64 a, .int .i64 b, .int .i64 c][j]? = some u → (w.alloc (.cells #[.int .i64 a, .int .i64 b, .int .i64 c] t)).cell? ((⟨w.heap.size, 0, none⟩ : Addr).add j) = some u :=
  World.news_of_block (cs := #[.int .i64 a, .int .i64 b, .int .i64 c]) (t := t) (fr := (0, 0)) (heap_alloc_new w _)
theorem one3l (a b c : Int) : ∀ u ∈ [Value.int .i64 a, .int .i64 b, .int .i64 c], u.oneCell' = true := by
  intro u hu
  simp only [List.mem_cons, List.not_mem_nil, or_false] at hu
  rcases hu with rfl | rfl | rfl <;> rfl
/-- the lengths that came in -/
def LnC (w : World) (lv : Value) (gs : List Rl) : Prop :=
  ∃ A c, lv = .slice A gs.length c ∧ ∀ k, k < gs.length → ∃ gl, A = some ⟨gl, 0, none⟩ ∧ w.cell? ⟨gl, k, none⟩ = some (.int .i64 ((lens gs).getD k 0))
end Go.Proofs.Ytcaeihdfljljbaa
