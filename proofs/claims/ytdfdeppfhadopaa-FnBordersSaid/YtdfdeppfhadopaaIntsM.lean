/-
  Rows of numbers that a call itself makes (plain facts).
-/
import Derived.Test.YtdfdeppfhadopaaBase
import Derived.Deep.QuietTactic
namespace Go.Proofs.Ytdfdeppfhadopaa
open Go.RowKit
open Wd
set_option linter.unusedVariables false

namespace Wd
/-- numbers as cells -/
def iv (l : List Int) : List Value := l.map fun c => Value.int .i64 c
theorem iv_len (l : List Int) : (iv l).length = l.length := by simp [iv]
theorem iv_app (l m : List Int) : iv (l ++ m) = iv l ++ iv m := by simp [iv]
theorem iv_get (l : List Int) (j : Nat) (h : j < l.length) : (iv l)[j]? = some (.int .i64 l[j]) := by simp [iv, h]
/-- k, k + 1, .. -/
def marks (k : Int) (n : Nat) : List Int := (List.range n).map fun (j : Nat) => k + (j : Int)
theorem marks_len (k : Int) (n : Nat) : (marks k n).length = n := by simp [marks]
theorem marks_snoc (k : Int) (n : Nat) : marks k (n + 1) = marks k n ++ [k + n] := by simp [marks, List.range_succ]
theorem marks_get (k : Int) (n j : Nat) (h : j < n) : (marks k n)[j]? = some (k + j) := by simp [marks, h]
theorem iv_set (k : Int) (zs : List Int) (j : Nat) (h : j < zs.length) :
    (iv (marks k j ++ zs.drop j)).set j (.int .i64 (k + j)) = iv (marks k (j + 1) ++ zs.drop (j + 1)) := by
  have e1 : zs.drop j = zs[j] :: zs.drop (j + 1) := List.drop_eq_getElem_cons h
  rw [e1, marks_snoc]
  generalize zs.drop (j + 1) = d
  have e2 : (iv (marks k j)).length = j := by rw [iv_len, marks_len]
  rw [iv_app, iv_app, iv_app]
  generalize iv (marks k j) = A at e2
  subst e2
  simp [iv]
end Wd

/-- a row of int64 of the call's own -/
abbrev OwnsI (w : World) (B : Nat) (v : Value) (zs : List Int) : Prop := w.ownsRow B 2 1 v zs.length (iv zs)

theorem OwnsI.cell {w : World} {B g cap : Nat} {zs : List Int} (h : OwnsI w B (.slice (some ⟨g, 0, none⟩) zs.length cap) zs) (j : Nat) (hj : j < zs.length) : w.cell? ⟨g, j, none⟩ = some (.int .i64 zs[j]) := by
  rw [h.cellAt j (by omega), iv_get zs j hj]

/-- its shape: nil and empty, or at the head of a block -/
theorem OwnsI.shape {w : World} {B : Nat} {v : Value} {zs : List Int} (h : OwnsI w B v zs) :
    (v = .slice none 0 0 ∧ zs = []) ∨ ∃ g cap, v = .slice (some ⟨g, 0, none⟩) zs.length cap ∧ B ≤ g ∧ g < w.heap.size := by
  rcases h.2 with ⟨rfl, h0⟩ | ⟨g, cap, cur, rfl, hb, hg, _⟩
  · exact .inl ⟨rfl, List.eq_nil_of_length_eq_zero h0⟩
  · exact .inr ⟨g, cap, rfl, hb, (Array.getElem?_eq_some_iff.1 hg).1⟩

theorem OwnsI.below {w w' : World} {B C : Nat} {v : Value} {zs : List Int} (h : OwnsI w B v zs) (hb : Below C w w') (hC : w.heap.size ≤ C) : OwnsI w' B v zs :=
  World.ownsRow.kept h (row := none) ⟨hb.os, hb.tape, hb.output, hb.size, fun k hk _ => hb.block k (by omega)⟩ (by cases hv : v.ownBlock <;> simp)

theorem OwnsI.drawn {w w' : World} {B : Nat} {v : Value} {zs : List Int} (h : OwnsI w B v zs) (hd : Drawn w w') : OwnsI w' B v zs := by
  obtain ⟨n, rfl⟩ := hd; exact h

theorem OwnsI.lower {w : World} {B C : Nat} {v : Value} {zs : List Int} (h : OwnsI w B v zs) (hC : C ≤ B) : OwnsI w C v zs := by
  refine ⟨h.1, ?_⟩
  rcases h.2 with h' | ⟨g, cap, cur, h1, hb, rest⟩
  · exact .inl h'
  · exact .inr ⟨g, cap, cur, h1, by omega, rest⟩
end Go.Proofs.Ytdfdeppfhadopaa
