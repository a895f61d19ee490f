/-
  Coders as lists; slices of texts that can be read.
-/
import Derived.Test.YtddjcgaejjldbaaAuEq
import Derived.Test.YtddjcgaejjldbaaOk
namespace Go.Proofs.Ytddjcgaejjldbaa
open Go.RowKit
open Wd
set_option linter.unusedVariables false
/-- a slice that reads as these texts -/
def IsSL (w : World) (v : Value) (zs : List ByteArray) : Prop :=
  ∃ (A : Option Addr) (c : Nat), v = .slice A zs.length c ∧ (zs = [] ∨ ∃ a, A = some a ∧ ∀ j (hj : j < zs.length), w.cell? (a.add j) = some (.string zs[j]))
theorem IsSL.kept {w w' : World} {v : Value} {zs : List ByteArray} (h : IsSL w v zs) (hb : Below w.heap.size w w') : IsSL w' v zs := by
  obtain ⟨A, c, hv, h | ⟨a, hA, hc⟩⟩ := h
  · exact ⟨A, c, hv, .inl h⟩
  · exact ⟨A, c, hv, .inr ⟨a, hA, fun j hj => (hb.cell (lt_of_cell (hc j hj))).trans (hc j hj)⟩⟩
theorem IsSL.shape {w : World} {v : Value} {zs : List ByteArray} (h : IsSL w v zs) : ∃ A c, v = .slice A zs.length c := by
  obtain ⟨A, c, hv, _⟩ := h
  exact ⟨A, c, hv⟩
theorem IsLL.shape {w : World} {v : Value} {xss : List (List Int)} (h : IsLL w v xss) : ∃ A c, v = .slice A xss.length c := by
  obtain ⟨A, c, hv, _⟩ := h
  exact ⟨A, c, hv⟩
abbrev OwnsSL (w : World) (B : Nat) (v : Value) (zs : List ByteArray) : Prop := w.ownsRow B 9 1 v zs.length (zs.map Value.string)
theorem IsSL.of_own {w : World} {B : Nat} {v : Value} {zs : List ByteArray} (h : OwnsSL w B v zs) : IsSL w v zs := by
  obtain ⟨A, c, rfl⟩ := own_slice h
  refine ⟨A, c, rfl, ?_⟩
  by_cases h0 : zs.length = 0
  · exact .inl (List.eq_nil_of_length_eq_zero h0)
  · obtain ⟨g, rfl, _⟩ := own_addr h (by omega)
    refine .inr ⟨_, rfl, fun j hj => ?_⟩
    rw [add_zero', h.cellAt j (by omega)]
    simp [hj]
/-- a slice of such slices -/
def IsSLL (w : World) (v : Value) (xss : List (List ByteArray)) : Prop :=
  ∃ (A : Option Addr) (c : Nat), v = .slice A xss.length c ∧ (xss = [] ∨ ∃ a, A = some a ∧ ∀ j (hj : j < xss.length), ∃ u, w.cell? (a.add j) = some u ∧ IsSL w u xss[j])
theorem IsSLL.kept {w w' : World} {v : Value} {xss : List (List ByteArray)} (h : IsSLL w v xss) (hb : Below w.heap.size w w') : IsSLL w' v xss := by
  obtain ⟨A, c, hv, h | ⟨a, hA, hc⟩⟩ := h
  · exact ⟨A, c, hv, .inl h⟩
  · refine ⟨A, c, hv, .inr ⟨a, hA, fun j hj => ?_⟩⟩
    obtain ⟨u, h1, h2⟩ := hc j hj
    exact ⟨u, (hb.cell (lt_of_cell h1)).trans h1, h2.kept hb⟩
/-- a coder -/
structure Co where
  st : Int
  go : Int
  nx : List (List Int)
  ou : List (List ByteArray)
def IsCo (w : World) (v : Value) (x : Co) : Prop := ∃ n o, v = .agg #[.int .i64 x.st, .int .i64 x.go, n, o] ∧ IsLL w n x.nx ∧ IsSLL w o x.ou
theorem IsCo.kept {w w' : World} {v : Value} {x : Co} (h : IsCo w v x) (hb : Below w.heap.size w w') : IsCo w' v x := by
  obtain ⟨f, n, hv, h1, h2⟩ := h
  exact ⟨f, n, hv, h1.kept hb, h2.kept hb⟩
/-- short enough for the machine -/
structure MaxC (x : Co) : Prop where
  nx : x.nx.length ≤ maxLen
  row : ∀ r ∈ x.nx, r.length ≤ maxLen
  ou : x.ou.length ≤ maxLen
  orow : ∀ r ∈ x.ou, r.length ≤ maxLen
  txt : ∀ r ∈ x.ou, ∀ s ∈ r, s.size ≤ maxLen
/-- few -/
structure FewC (x : Co) : Prop where
  nx : x.nx.length ≤ 1048576
  row : ∀ r ∈ x.nx, r.length ≤ 1048576
  ou : x.ou.length ≤ 1048576
  orow : ∀ r ∈ x.ou, r.length ≤ 1048576
  txt : ∀ r ∈ x.ou, ∀ s ∈ r, s.size ≤ maxLen
namespace Wd
/-- a word that a coder may write -/
def outOk (s : ByteArray) : Bool := decide (s.size ≤ 6) && okL s.data.toList
/-- a valid coder's row of words -/
def orowOk (r : List ByteArray) : Bool := decide (r.length = 4) && r.all outOk
/-- a valid coder -/
def cOk (x : Co) : Bool := decide (1 ≤ x.st ∧ x.st ≤ 24) && (decide (0 ≤ x.go ∧ x.go ≤ x.st - 1) && ((x.nx.all (rowOk x.st) && decide ((x.nx.length : Int) = x.st)) && (decide ((x.ou.length : Int) = x.st) && x.ou.all orowOk)))
end Wd
end Go.Proofs.Ytddjcgaejjldbaa
