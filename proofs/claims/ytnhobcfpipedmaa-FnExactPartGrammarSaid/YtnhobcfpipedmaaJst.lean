/-
  Rules so far in a variable of a grammar.
-/
import Derived.Test.YtnhobcfpipedmaaGPair
namespace Go.Proofs.Ytnhobcfpipedmaa
open Go.RowKit
open Wd
set_option linter.unusedVariables false

/-- the variable with the rules so far -/
def JSt (w : World) (B V r : Nat) (rs : List Rl) (yv : Value) (wr : World) : Prop :=
  wr.ownsRow B 94 3 yv rs.length (rv rs) ∧ Var wr V yv 31 ∧ Var wr r (.slice none 0 0) 31 ∧ Below w.heap.size w wr ∧ B ≤ wr.heap.size
theorem jst_kept {w wr w1 : World} {B V r : Nat} {yv : Value} {rs : List Rl} (h : JSt w B V r rs yv wr) (hb : Below wr.heap.size wr w1) : JSt w B V r rs yv w1 := by
  obtain ⟨h1, h2, h3, h4, h5⟩ := h
  exact ⟨own_below h1 hb (Nat.le_refl _), h2.kept hb, h3.kept hb, h4.trans (hb.mono h4.size), by have := hb.size; omega⟩
theorem jst_grown {w wr w5 : World} {B V r : Nat} {rs : List Rl} {yv v' : Value} {x : Rl} {o : Obj} (hBw : w.heap.size ≤ B) (hVw : w.heap.size ≤ V) (hrV : r ≠ V) (h : JSt w B V r rs yv wr)
    (hown : w5.ownsRow B 94 3 v' (rs.length + 1) (rv rs ++ rc x)) (hg : (wr.alloc o).grownBy w5 yv.ownBlock) :
    (Var w5 V yv 31) ∧ JSt w B V r (rs ++ [x]) v' (w5.setCell ⟨V, 0, none⟩ v') := by
  obtain ⟨h1, h2, h3, h4, h5⟩ := h
  have n1 := own_var_ne h1 h2 (by decide)
  have n2 := own_var_ne h1 h3 (by decide)
  have k2 : Var w5 V yv 31 := (hg.block V (by have := h2.lt; simp; omega) (fun e => n1 e.symm)).trans (h2.kept ((Below.refl _ wr).alloc (Nat.le_refl _) o))
  have k3 : Var w5 r (.slice none 0 0) 31 := (hg.block r (by have := h3.lt; simp; omega) (fun e => n2 e.symm)).trans (h3.kept ((Below.refl _ wr).alloc (Nat.le_refl _) o))
  have n3 := own_var_ne hown k2 (by decide)
  have hB5 : Below w.heap.size w w5 := (h4.alloc h4.size o).grown hg (by have := h4.size; simp; omega) (fun q hq => by have := (h1.lt q hq).1; omega)
  refine ⟨k2, ?_, ?_, k3.far _ _ (by simpa using hrV), hB5.setCell (by simpa using hVw) _, ?_⟩
  · have := World.ownsRow.kept hown (only_setCell (World.grownBy.refl w5 (some V)) (p := ⟨V, 0, none⟩) (.inl rfl) v') (.inr n3)
    rw [List.length_append, rv_app, rv_one]
    exact this
  · have h7 := k2
    unfold Var at h7 ⊢
    simp [World.setCell, Array.getElem?_modify, h7]
  · have : w5.heap.size ≤ (w5.setCell ⟨V, 0, none⟩ v').heap.size := by simp [World.setCell]
    have h6 := hg.size
    simp at h6
    omega
end Go.Proofs.Ytnhobcfpipedmaa
