/-
  Blocks of four cells; three allocations.
-/
import Derived.Test.YtaffachjopjbgaaBase
import Derived.Test.YtaffachjopjbgaaGramM
import Derived.Laws.Rows
import Derived.Laws.Tables
import Derived.Deep.MidRow
import Derived.Deep.WholeRow
namespace Go.Proofs.Ytaffachjopjbgaa
open Go.RowKit
open Wd
set_option linter.unusedVariables false
theorem blk4_cells {w : World} {R : Nat} {t : TypeId} {a b c d : Value} (h : w.heap[R]? = some (.cells #[a, b, c, d] t (0, 0))) :
    (w.cell? ⟨R, 0, none⟩ = some a ∧ w.cell? ⟨R, 1, none⟩ = some b ∧ w.cell? ⟨R, 2, none⟩ = some c ∧ w.cell? ⟨R, 3, none⟩ = some d) ∧ (w.frozen? ⟨R, 0, none⟩ = false ∧ w.frozen? ⟨R, 1, none⟩ = false ∧ w.frozen? ⟨R, 2, none⟩ = false ∧ w.frozen? ⟨R, 3, none⟩ = false) := by
  refine ⟨⟨?_, ?_, ?_, ?_⟩, ?_, ?_, ?_, ?_⟩
  · rw [cell_of_row _ _ _ _ _ _ h]; rfl
  · rw [cell_of_row _ _ _ _ _ _ h]; rfl
  · rw [cell_of_row _ _ _ _ _ _ h]; rfl
  · rw [cell_of_row _ _ _ _ _ _ h]; rfl
  · simp [World.frozen?, h]
  · simp [World.frozen?, h]
  · simp [World.frozen?, h]
  · simp [World.frozen?, h]
theorem blk4_01 {w : World} {R : Nat} {t : TypeId} {a b c d a' b' : Value} (h : w.heap[R]? = some (.cells #[a, b, c, d] t (0, 0))) :
    ((w.setCell ⟨R, 0, none⟩ a').setCell ⟨R, 1, none⟩ b').heap[R]? = some (.cells #[a', b', c, d] t (0, 0)) := by
  simp [World.setCell, Array.getElem?_modify, h]
theorem blk4_2 {w : World} {R : Nat} {t : TypeId} {a b c d c' : Value} (h : w.heap[R]? = some (.cells #[a, b, c, d] t (0, 0))) :
    (w.setCell ⟨R, 2, none⟩ c').heap[R]? = some (.cells #[a, b, c', d] t (0, 0)) := by
  simp [World.setCell, Array.getElem?_modify, h]
theorem blk4_3 {w : World} {R : Nat} {t : TypeId} {a b c d d' : Value} (h : w.heap[R]? = some (.cells #[a, b, c, d] t (0, 0))) :
    (w.setCell ⟨R, 3, none⟩ d').heap[R]? = some (.cells #[a, b, c, d'] t (0, 0)) := by
  simp [World.setCell, Array.getElem?_modify, h]
theorem blk4_all {w : World} {R : Nat} {t : TypeId} {a b c d a' b' c' d' : Value} (h : w.heap[R]? = some (.cells #[a, b, c, d] t (0, 0))) :
    ((((w.setCell ⟨R, 0, none⟩ a').setCell ⟨R, 1, none⟩ b').setCell ⟨R, 2, none⟩ c').setCell ⟨R, 3, none⟩ d').heap[R]? = some (.cells #[a', b', c', d'] t (0, 0)) := by
  simp [World.setCell, Array.getElem?_modify, h]
theorem al3 (w : World) (a b c : Obj) : (((w.alloc a).alloc b).alloc c).heap[w.heap.size]? = some a ∧ (((w.alloc a).alloc b).alloc c).heap[w.heap.size + 1]? = some b ∧ (((w.alloc a).alloc b).alloc c).heap[w.heap.size + 2]? = some c ∧ Below w.heap.size w (((w.alloc a).alloc b).alloc c) ∧ (((w.alloc a).alloc b).alloc c).heap.size = w.heap.size + 3 := by
  have h0 := heap_alloc_new w a
  have h1 := heap_alloc_new (w.alloc a) b
  have h2 := heap_alloc_new ((w.alloc a).alloc b) c
  have s1 : (w.alloc a).heap.size = w.heap.size + 1 := by simp
  have s2 : ((w.alloc a).alloc b).heap.size = w.heap.size + 2 := by simp
  have b1 := (Below.refl _ (w.alloc a)).alloc (Nat.le_refl _) b
  have b2 := (Below.refl _ ((w.alloc a).alloc b)).alloc (Nat.le_refl _) c
  rw [s1] at h1
  rw [s2] at h2
  refine ⟨(b2.block _ (by omega)).trans ((b1.block _ (by omega)).trans h0), (b2.block _ (by omega)).trans h1, h2, (((Below.refl _ w).alloc (Nat.le_refl _) _).alloc (by simp) _).alloc (by simp; omega) _, by simp⟩
theorem bSetRow {B : Nat} {w w' : World} (h : Below B w w') {R : Nat} (hR : B ≤ R) (cs : Array Value) : Below B w (w'.setRow R cs) :=
  ⟨h.os, h.tape, h.output, by rw [size_setRow]; exact h.size, fun k hk => by
    show (w'.heap.modify R _)[k]? = _
    rw [Array.getElem?_modify, if_neg (by omega)]
    exact h.block k hk⟩
end Go.Proofs.Ytaffachjopjbgaa
