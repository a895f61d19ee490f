/-
  Edits as values: blocks of six cells.
-/
import Derived.Test.YtcaeihdfljljbaaDoorEdM
import Derived.Test.YtcaeihdfljljbaaDoorGramEq
import Derived.Test.YtcaeihdfljljbaaDoorBlk
namespace Go.Proofs.YtcaeihdfljljbaaDoor
open Go.RowKit
open Wd
set_option linter.unusedVariables false
theorem blk6_cells {w : World} {R : Nat} {t : TypeId} {a b c d e f : Value} (h : w.heap[R]? = some (.cells #[a, b, c, d, e, f] t (0, 0))) :
    (w.cell? ⟨R, 0, none⟩ = some a ∧ w.cell? ⟨R, 1, none⟩ = some b ∧ w.cell? ⟨R, 2, none⟩ = some c ∧ w.cell? ⟨R, 3, none⟩ = some d ∧ w.cell? ⟨R, 4, none⟩ = some e ∧ w.cell? ⟨R, 5, none⟩ = some f) ∧ (w.frozen? ⟨R, 0, none⟩ = false ∧ w.frozen? ⟨R, 1, none⟩ = false ∧ w.frozen? ⟨R, 2, none⟩ = false ∧ w.frozen? ⟨R, 3, none⟩ = false ∧ w.frozen? ⟨R, 4, none⟩ = false ∧ w.frozen? ⟨R, 5, none⟩ = false) := by
  refine ⟨⟨?_, ?_, ?_, ?_, ?_, ?_⟩, ?_, ?_, ?_, ?_, ?_, ?_⟩
  · rw [cell_of_row _ _ _ _ _ _ h]; rfl
  · rw [cell_of_row _ _ _ _ _ _ h]; rfl
  · rw [cell_of_row _ _ _ _ _ _ h]; rfl
  · rw [cell_of_row _ _ _ _ _ _ h]; rfl
  · rw [cell_of_row _ _ _ _ _ _ h]; rfl
  · rw [cell_of_row _ _ _ _ _ _ h]; rfl
  · simp [World.frozen?, h]
  · simp [World.frozen?, h]
  · simp [World.frozen?, h]
  · simp [World.frozen?, h]
  · simp [World.frozen?, h]
  · simp [World.frozen?, h]
theorem blk6_4 {w : World} {R : Nat} {t : TypeId} {a b c d e f e' : Value} (h : w.heap[R]? = some (.cells #[a, b, c, d, e, f] t (0, 0))) :
    (w.setCell ⟨R, 4, none⟩ e').heap[R]? = some (.cells #[a, b, c, d, e', f] t (0, 0)) := by
  simp [World.setCell, Array.getElem?_modify, h]
theorem blk6_5 {w : World} {R : Nat} {t : TypeId} {a b c d e f f' : Value} (h : w.heap[R]? = some (.cells #[a, b, c, d, e, f] t (0, 0))) :
    (w.setCell ⟨R, 5, none⟩ f').heap[R]? = some (.cells #[a, b, c, d, e, f'] t (0, 0)) := by
  simp [World.setCell, Array.getElem?_modify, h]
theorem blk6_all {w : World} {R : Nat} {t : TypeId} {a b c d e f a' b' c' d' e' f' : Value} (h : w.heap[R]? = some (.cells #[a, b, c, d, e, f] t (0, 0))) :
    ((((((w.setCell ⟨R, 0, none⟩ a').setCell ⟨R, 1, none⟩ b').setCell ⟨R, 2, none⟩ c').setCell ⟨R, 3, none⟩ d').setCell ⟨R, 4, none⟩ e').setCell ⟨R, 5, none⟩ f').heap[R]? = some (.cells #[a', b', c', d', e', f'] t (0, 0)) := by
  simp [World.setCell, Array.getElem?_modify, h]
namespace Wd
/-- an edit as a value, its rules being v -/
def edV (x : Ed) (v : Value) : Value := .agg #[.int .i64 x.k, .int .i64 x.i, .int .i64 x.j, .int .i64 x.t, v, .string x.m]
/-- not too much in all -/
def FewE (x : Ed) : Prop := FewR x.gs ∧ x.m.size ≤ 1048576
/-- an edit whose rules are read -/
def IsEd (w : World) (v : Value) (x : Ed) : Prop := ∃ u, v = edV x u ∧ Rules w u x.gs
theorem IsEd.kept {w w' : World} {v : Value} {x : Ed} (h : IsEd w v x) (hb : Below w.heap.size w w') : IsEd w' v x := by
  obtain ⟨u, h1, h2⟩ := h
  exact ⟨u, h1, h2.kept hb⟩
end Wd
end Go.Proofs.YtcaeihdfljljbaaDoor
