/-
  Rows of an automaton that are being written, number by number.
-/
import Derived.Test.YtaffachjopjbgaaPtM
import Derived.Test.YtaffachjopjbgaaNotI2
import Derived.Test.YtaffachjopjbgaaMapsS
namespace Go.Proofs.Ytaffachjopjbgaa
open Go.RowKit
open Wd
set_option linter.unusedVariables false
/-- a row of the pattern's automaton, so many letters yet -/
def RSt (wo : World) (row : List Int) (l : Nat) (tv : Value) (wr : World) : Prop := OwnsI wr wo.heap.size tv (row.take l) ∧ Below wo.heap.size wo wr
theorem rst_start (wo : World) (row : List Int) : RSt wo row 0 (.slice (some ⟨wo.heap.size, 0, none⟩) 0 0) (wo.alloc (.cells #[] 2)) :=
  ⟨by rw [List.take_zero]; exact World.ownsRow_lit (base := wo.heap.size) (e := 2) (size := 1) wo #[] 0 (Nat.le_refl _) (by decide) rfl, (Below.refl _ wo).alloc (Nat.le_refl _) _⟩
theorem RSt.kept {wo wr w1 : World} {row : List Int} {l : Nat} {tv : Value} (h : RSt wo row l tv wr) (hb : Below wr.heap.size wr w1) : RSt wo row l tv w1 :=
  ⟨own_below h.1 hb (Nat.le_refl _), h.2.trans (hb.mono h.2.size)⟩
theorem RSt.append {wo wr w5 : World} {row : List Int} {l : Nat} {tv tv' : Value} {o : Obj} {z : Int} (h : RSt wo row l tv wr) (hl : l < row.length) (hz : row[l] = z)
    (hown : w5.ownsRow wo.heap.size 2 1 tv' (l + 1) (iv (row.take l) ++ [.int .i64 z])) (hg : (wr.alloc o).grownBy w5 tv.ownBlock) : RSt wo row (l + 1) tv' w5 := by
  subst hz
  refine ⟨?_, (h.2.alloc h.2.size o).grown hg (by have := h.2.size; simp; omega) (fun q hq => (h.1.lt q hq).1)⟩
  unfold OwnsI
  rw [List.take_succ_eq_append_getElem hl, List.length_append, iv_app, List.length_take, Nat.min_eq_left (by omega)]
  exact hown
end Go.Proofs.Ytaffachjopjbgaa
