/-
  Automata as lists; slices of numbers that can be read.
-/
import Derived.Test.YtddjcgaejjldbaaGramTo
import Derived.Test.YtddjcgaejjldbaaIntsM
namespace Go.Proofs.Ytddjcgaejjldbaa
open Go.RowKit
open Wd
set_option linter.unusedVariables false

/-- a slice that reads as these numbers -/
def IsL (w : World) (v : Value) (zs : List Int) : Prop :=
  ∃ (A : Option Addr) (c : Nat), v = .slice A zs.length c ∧ (zs = [] ∨ ∃ a, A = some a ∧ ∀ j (hj : j < zs.length), w.cell? (a.add j) = some (.int .i64 zs[j]))
theorem IsL.kept {w w' : World} {v : Value} {zs : List Int} (h : IsL w v zs) (hb : Below w.heap.size w w') : IsL w' v zs := by
  obtain ⟨A, c, hv, h | ⟨a, hA, hc⟩⟩ := h
  · exact ⟨A, c, hv, .inl h⟩
  · exact ⟨A, c, hv, .inr ⟨a, hA, fun j hj => (hb.cell (lt_of_cell (hc j hj))).trans (hc j hj)⟩⟩
theorem IsL.shape {w : World} {v : Value} {zs : List Int} (h : IsL w v zs) : ∃ A c, v = .slice A zs.length c := by
  obtain ⟨A, c, hv, _⟩ := h
  exact ⟨A, c, hv⟩
theorem add_zero' (g j : Nat) : (⟨g, 0, none⟩ : Addr).add j = ⟨g, j, none⟩ := by
  unfold Addr.add
  split
  · subst_vars; rfl
  · simp
theorem IsL.of_own {w : World} {B : Nat} {v : Value} {zs : List Int} (h : OwnsI w B v zs) : IsL w v zs := by
  rcases h.shape with ⟨rfl, hz⟩ | ⟨g, c, rfl, _⟩
  · exact ⟨none, 0, by rw [hz]; rfl, .inl hz⟩
  · exact ⟨_, c, rfl, .inr ⟨_, rfl, fun j hj => by rw [add_zero']; exact h.cell j hj⟩⟩
/-- a slice of such slices -/
def IsLL (w : World) (v : Value) (xss : List (List Int)) : Prop :=
  ∃ (A : Option Addr) (c : Nat), v = .slice A xss.length c ∧ (xss = [] ∨ ∃ a, A = some a ∧ ∀ j (hj : j < xss.length), ∃ u, w.cell? (a.add j) = some u ∧ IsL w u xss[j])
theorem IsLL.kept {w w' : World} {v : Value} {xss : List (List Int)} (h : IsLL w v xss) (hb : Below w.heap.size w w') : IsLL w' v xss := by
  obtain ⟨A, c, hv, h | ⟨a, hA, hc⟩⟩ := h
  · exact ⟨A, c, hv, .inl h⟩
  · refine ⟨A, c, hv, .inr ⟨a, hA, fun j hj => ?_⟩⟩
    obtain ⟨u, h1, h2⟩ := hc j hj
    exact ⟨u, (hb.cell (lt_of_cell h1)).trans h1, h2.kept hb⟩
/-- an automaton -/
structure Au where
  st : Int
  go : Int
  fin : List Int
  nx : List (List Int)
def IsAu (w : World) (v : Value) (x : Au) : Prop := ∃ f n, v = .agg #[.int .i64 x.st, .int .i64 x.go, f, n] ∧ IsL w f x.fin ∧ IsLL w n x.nx
theorem IsAu.kept {w w' : World} {v : Value} {x : Au} (h : IsAu w v x) (hb : Below w.heap.size w w') : IsAu w' v x := by
  obtain ⟨f, n, hv, h1, h2⟩ := h
  exact ⟨f, n, hv, h1.kept hb, h2.kept hb⟩
/-- short enough for the machine -/
structure MaxA (x : Au) : Prop where
  fin : x.fin.length ≤ maxLen
  nx : x.nx.length ≤ maxLen
  row : ∀ r ∈ x.nx, r.length ≤ maxLen
/-- few -/
structure FewA (x : Au) : Prop where
  fin : x.fin.length ≤ 1048576
  nx : x.nx.length ≤ 1048576
  row : ∀ r ∈ x.nx, r.length ≤ 1048576
namespace Wd
/-- a valid automaton's row -/
def rowOk (n : Int) (r : List Int) : Bool := decide (r.length = 4) && r.all fun x => decide (0 ≤ x ∧ x < n)
def goodAt (lo hi : Int) (l : List Int) (k : Nat) : Prop := (lo ≤ l.getD k 0 ∧ l.getD k 0 ≤ hi) ∧ (0 < k → l.getD (k - 1) 0 < l.getD k 0)
instance (lo hi : Int) (l : List Int) (k : Nat) : Decidable (goodAt lo hi l k) := by unfold goodAt; exact inferInstance
/-- numbers that rise, between bounds -/
def risesL (lo hi : Int) (l : List Int) : Bool := decide (∀ k, k < l.length → goodAt lo hi l k)
/-- a valid automaton -/
def aOk (x : Au) : Bool := decide (1 ≤ x.st ∧ x.st ≤ 24) && decide (0 ≤ x.go ∧ x.go ≤ x.st - 1) && risesL 0 (x.st - 1) x.fin && (x.nx.all (rowOk x.st) && decide ((x.nx.length : Int) = x.st))
end Wd
end Go.Proofs.Ytddjcgaejjldbaa
