/-
  Rows of two kinds that the call owns lie apart.
-/
import Derived.Test.YtaffachjopjbgaaVar
import Derived.Test.YtaffachjopjbgaaMeas
import Derived.Test.YtaffachjopjbgaaGramOk
import Derived.OwnWalk
import Derived.Laws.MakeOwn
namespace Go.Proofs.Ytaffachjopjbgaa
open Go.RowKit
open Wd
set_option linter.unusedVariables false

namespace Wd
/-- the number of a letter -/
def ltNo (x : Rl) : Nat := (x.L.data.toList.headD 97).toNat - 97
/-- a letter as its one byte -/
theorem letter_byte {x : Rl} {n : Nat} (h0 : x.L.size ≠ 0) (h : x.ok n = true) : ∃ c : UInt8, x.L = ⟨#[c]⟩ ∧ 97 ≤ (c.toNat : Int) ∧ (c.toNat : Int) ≤ 100 ∧ ltNo x = c.toNat - 97 := by
  obtain ⟨⟨h1, h2⟩, _⟩ := (ok_letter h0).1 h
  obtain ⟨⟨⟨l⟩⟩, a, b⟩ := x
  match l, h1 with
  | [c], _ =>
    have h3 := of_lt (okL_at h2 (i := 0) (by simp))
    exact ⟨c, rfl, by simpa using h3.1, by simpa using h3.2, rfl⟩
theorem own_addr {w : World} {B e s n c : Nat} {A : Option Addr} {xs : List Value} (h : w.ownsRow B e s (.slice A n c) n xs) (hn : 0 < n) : ∃ g, A = some ⟨g, 0, none⟩ ∧ B ≤ g ∧ g < w.heap.size := by
  rcases h.2 with ⟨_, h0⟩ | ⟨g, cap, cur, hv, hb, hg, _⟩
  · omega
  · injection hv with hv
    exact ⟨g, hv, hb, (Array.getElem?_eq_some_iff.1 hg).1⟩
end Wd
theorem cell_far0 {w : World} {a b i j : Nat} (h : a ≠ b) (u : Value) : (w.setCell ⟨b, j, none⟩ u).cell? ⟨a, i, none⟩ = w.cell? ⟨a, i, none⟩ :=
  World.cell?_of_block (a := ⟨a, i, none⟩) (Below.heap_setCell w ⟨b, j, none⟩ u a h)
theorem own_kinds_ne {w : World} {B B' e e' s s' n n' : Nat} {v u : Value} {xs ys : List Value} (h : w.ownsRow B e s v n xs) (h' : w.ownsRow B' e' s' u n' ys) (hne : e ≠ e') : v.ownBlock = none ∨ v.ownBlock ≠ u.ownBlock := by
  rcases h.2 with ⟨rfl, _⟩ | ⟨g1, cap, cur, rfl, _, hg, _⟩
  · exact .inl rfl
  · refine .inr fun e => ?_
    rcases h'.2 with ⟨rfl, _⟩ | ⟨g', cap', cur', rfl, _, hg', _⟩
    · simp [Value.ownBlock] at e
    · have : g1 = g' := by simpa [Value.ownBlock] using e
      subst this
      rw [hg] at hg'
      injection hg' with h1
      injection h1 with _ h2
      exact hne h2
theorem own_other {w w5 : World} {B B' e e' s s' n n' : Nat} {v u : Value} {xs ys : List Value} {o : Obj} (h : w.ownsRow B e s v n xs) (h' : w.ownsRow B' e' s' u n' ys) (hne : e ≠ e') (hg : (w.alloc o).grownBy w5 u.ownBlock) : w5.ownsRow B e s v n xs :=
  World.ownsRow.kept (h.alloc o) hg (own_kinds_ne h h' hne)
theorem made_i64 (n : Nat) : (madeCells #[.int .i64 0] n).toList = iv (List.replicate n 0) := by
  apply List.ext_getElem
  · simp [madeCells, iv]
  · intro i h1 h2
    simp [madeCells, iv, Nat.mod_one]
theorem iv_setU (mem : List Int) (k : Nat) (z : Int) : iv (mem.set k z) = (iv mem).set k (.int .i64 z) := by simp [iv, List.map_set]
theorem u_store {w : World} {B e g n : Nat} {u : List Int} (h : w.ownsRow B e 1 (.slice (some ⟨g, 0, none⟩) n n) n (iv u)) (k : Nat) (z : Int) :
    (w.setCell ⟨g, k, none⟩ (.int .i64 z)).ownsRow B e 1 (.slice (some ⟨g, 0, none⟩) n n) n (iv (u.set k z)) := by
  rw [iv_setU]; exact (h.stored k (.int .i64 z)).1
end Go.Proofs.Ytaffachjopjbgaa
