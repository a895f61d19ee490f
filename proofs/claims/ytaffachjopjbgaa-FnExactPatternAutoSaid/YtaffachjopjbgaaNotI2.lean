/-
  An automaton's value whose rows are being appended (plain facts).
-/
import Derived.Test.YtaffachjopjbgaaNotM
namespace Go.Proofs.Ytaffachjopjbgaa
open Go.RowKit
open Wd
set_option linter.unusedVariables false
structure GSt (w : World) (X : Nat) (st go : Int) (fin : List Int) (f : Value) (Z : List (List Int)) (n : Value) (wr : World) : Prop where
  out : B4 wr X (.int .i64 st) (.int .i64 go) f n 33
  own : ∃ (U : List Value) (B : Nat), OwnsI wr w.heap.size f fin ∧ (∀ q, f.ownBlock = some q → q < B) ∧ X < B ∧ B ≤ wr.heap.size ∧ OwnM wr B n U Z
  x : w.heap.size ≤ X
  below : Below w.heap.size w wr
theorem GSt.kept {w wr w1 : World} {X : Nat} {st go : Int} {fin : List Int} {f n : Value} {Z : List (List Int)} (h : GSt w X st go fin f Z n wr) (hb : Below wr.heap.size wr w1) : GSt w X st go fin f Z n w1 := by
  obtain ⟨U, B, h1, h2, h3, h4, h5⟩ := h.own
  exact ⟨h.out.kept hb, ⟨U, B, own_below h1 hb (Nat.le_refl _), h2, h3, Nat.le_trans h4 hb.size, h5.kept hb⟩, h.x, h.below.trans (hb.mono h.below.size)⟩
theorem OwnM.setLow {w : World} {lo : Nat} {v : Value} {U : List Value} {Z : List (List Int)} (h : OwnM w lo v U Z) (p : Addr) (u : Value) (hp : p.block < lo) : OwnM (w.setCell p u) lo v U Z :=
  ⟨own_setLow h.outer p u hp, h.rows.len, fun j y zs a b => own_setLow (h.rows.row j y zs a b) p u hp, h.rows.ne⟩
theorem GSt.append {w wr w5 w6 : World} {X : Nat} {st go : Int} {fin : List Int} {f n n' u : Value} {Z : List (List Int)} {z : List Int} {o : Obj} {U : List Value} {B : Nat} (h : GSt w X st go fin f Z n wr)
    (h' : OwnsI wr w.heap.size f fin ∧ (∀ q, f.ownBlock = some q → q < B) ∧ X < B ∧ B ≤ wr.heap.size ∧ OwnM wr B n U Z) (hb : Below wr.heap.size wr w5) (hu : OwnsI w5 wr.heap.size u z)
    (hown : w6.ownsRow B 22 1 n' (U.length + 1) (U ++ [u])) (hg : (w5.alloc o).grownBy w6 n.ownBlock) :
    B4 w6 X (.int .i64 st) (.int .i64 go) f n 33 ∧ GSt w X st go fin f (Z ++ [z]) n' (w6.setCell ⟨X, 3, none⟩ n') := by
  obtain ⟨h1, h2, h3, h4, h5⟩ := h'
  have hs5 := hb.size
  have hrow : ∀ q, n.ownBlock = some q → B ≤ q := fun q hq => (h5.outer.lt q hq).1
  have ho6 : B4 w6 X (.int .i64 st) (.int .i64 go) f n 33 := ((h.out.kept hb).alloc o).grown hg (fun e => by have := hrow X e; omega)
  have hm6 : OwnM w6 B n' (U ++ [u]) (Z ++ [z]) := (h5.kept hb).snoc (own_lower hu h4) (h5.fresh (Nat.le_refl _) hu) hown hg
  have hf6 : OwnsI w6 w.heap.size f fin := World.ownsRow.kept ((own_below h1 hb (Nat.le_refl _)).alloc o) hg (by
    cases e : f.ownBlock with
    | none => exact .inl rfl
    | some q => exact .inr fun e' => by have a := h2 q e; have b := hrow q e'.symm; omega)
  have hs := hg.size
  refine ⟨ho6, blk4_3 ho6, ⟨U ++ [u], B, World.ownsRow.kept hf6 (grownBy_set w6 ⟨X, 3, none⟩ n') (own_b4_ne hf6 ho6 (by decide)), h2, h3, ?_, hm6.setLow _ _ h3⟩, h.x, ?_⟩
  · simp at hs ⊢; omega
  · have hx := h.x
    have hbs := h.below.size
    exact ((((h.below.trans (hb.mono hbs)).alloc (by omega) o).grown hg (by simp; omega) (fun q hq => by have := hrow q hq; omega)).setCell (by simpa using hx) _)
theorem GSt.start {w w7 : World} {X : Nat} {st go : Int} {fin : List Int} {f : Value} {c : Value} {B0 : Nat} (hX : B4 w7 X (.int .i64 st) (.int .i64 go) c (.slice none 0 0) 33) (hx : w.heap.size ≤ X) (hb : Below w.heap.size w w7) (hf : OwnsI w7 B0 f fin) (hB : w.heap.size ≤ B0) :
    GSt w X st go fin f [] (.slice none 0 0) (w7.setCell ⟨X, 2, none⟩ f) :=
  ⟨blk4_2 hX, ⟨[], w7.heap.size, own_lower (World.ownsRow.kept hf (grownBy_set w7 ⟨X, 2, none⟩ f) (own_b4_ne hf hX (by decide))) hB, fun q hq => (hf.lt q hq).2, hX.lt, by simp, ⟨World.ownsRow_nil _ _ _ _, Rws.nil _ _⟩⟩, hx, hb.setCell (by simpa using hx) _⟩
theorem GSt.ownA {w wr : World} {X : Nat} {st go : Int} {fin : List Int} {f n : Value} {Z : List (List Int)} {c0 c1 c2 c3 : Value} {R : Nat} (h : GSt w X st go fin f Z n wr) (hR : B4 wr R c0 c1 c2 c3 33) (d0 d1 d2 d3 : Value) :
    ∃ U, OwnA ((((wr.setCell ⟨R, 0, none⟩ d0).setCell ⟨R, 1, none⟩ d1).setCell ⟨R, 2, none⟩ d2).setCell ⟨R, 3, none⟩ d3) w.heap.size f n U fin Z := by
  obtain ⟨U, B, h1, h2, h3, h4, h5⟩ := h.own
  have gk : wr.grownBy ((((wr.setCell ⟨R, 0, none⟩ d0).setCell ⟨R, 1, none⟩ d1).setCell ⟨R, 2, none⟩ d2).setCell ⟨R, 3, none⟩ d3) (some R) := by
    refine ⟨rfl, rfl, rfl, by simp, fun i hi hne => ?_⟩
    have hne' : i ≠ R := fun e => hne (by rw [e])
    rw [Below.heap_setCell _ _ _ _ hne', Below.heap_setCell _ _ _ _ hne', Below.heap_setCell _ _ _ _ hne', Below.heap_setCell _ _ _ _ hne']
  have hB : w.heap.size ≤ B := by have := h.x; omega
  have hm : OwnM _ B n U Z := ⟨World.ownsRow.kept h5.outer gk (own_b4_ne h5.outer hR (by decide)), h5.rows.len, fun j y zs a b => World.ownsRow.kept (h5.rows.row j y zs a b) gk (own_b4_ne (h5.rows.row j y zs a b) hR (by decide)), h5.rows.ne⟩
  refine ⟨U, World.ownsRow.kept h1 gk (own_b4_ne h1 hR (by decide)), hm.lower hB, fun u hu => ?_⟩
  cases e : f.ownBlock with
  | none => exact .inl rfl
  | some q => exact .inr fun e' => by have a := h2 q e; have b := (h5.rows.ge u hu q e'.symm).1; omega
end Go.Proofs.Ytaffachjopjbgaa
