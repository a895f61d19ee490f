/-
  Rows of rows of int64 that the call owns, no two of them in one block; laws.markInt64SS and laws.heldInt64SS at them.
  Walks: laws.markInt64SS, laws.heldInt64SS, at rows that the call owns.
-/
import Derived.Test.YtaffachjopjbgaaAuEq
import Derived.Test.YtaffachjopjbgaaInts
import Derived.Test.YtaffachjopjbgaaOwnK
import Derived.Test.YtaffachjopjbgaaMat
namespace Go.Proofs.Ytaffachjopjbgaa
open Go.RowKit
open Wd
set_option linter.unusedVariables false
namespace Wd
/-- how many numbers lie in the first rows -/
def pre (rs : List (List Int)) (j : Nat) : Nat := ((rs.take j).map List.length).sum
theorem pre_zero (rs : List (List Int)) : pre rs 0 = 0 := by simp [pre]
theorem pre_succ (rs : List (List Int)) (j : Nat) (h : j < rs.length) : pre rs (j + 1) = pre rs j + (rs[j]).length := by
  unfold pre
  rw [List.take_succ_eq_append_getElem h, List.map_append, List.sum_append]
  simp
theorem pre_le (rs : List (List Int)) (m : Nat) (hr : ∀ r ∈ rs, r.length ≤ m) : ∀ j, j ≤ rs.length → pre rs j ≤ j * m
  | 0, _ => by simp [pre_zero]
  | j + 1, h => by
    rw [pre_succ rs j (by omega), Nat.succ_mul]
    have h1 := pre_le rs m hr j (by omega)
    have h2 := hr _ (List.getElem_mem (show j < rs.length by omega))
    omega
/-- the first rows marked -/
def mkF (j : Nat) (k : Int) (rs : List (List Int)) : List (List Int) := (List.range rs.length).map fun i => if i < j then marks (k + pre rs i) (rs.getD i []).length else rs.getD i []
theorem mkF_len (j : Nat) (k : Int) (rs : List (List Int)) : (mkF j k rs).length = rs.length := by simp [mkF]
theorem mkF_get (j : Nat) (k : Int) (rs : List (List Int)) (i : Nat) (h : i < rs.length) : (mkF j k rs)[i]? = some (if i < j then marks (k + pre rs i) (rs[i]).length else rs[i]) := by
  unfold mkF
  rw [List.getElem?_map, List.getElem?_range h]
  simp [h]
theorem mkF_zero (k : Int) (rs : List (List Int)) : mkF 0 k rs = rs := by
  apply List.ext_getElem?
  intro i
  by_cases h : i < rs.length
  · rw [mkF_get 0 k rs i h, if_neg (by omega), List.getElem?_eq_getElem h]
  · rw [List.getElem?_eq_none (by rw [mkF_len]; omega), List.getElem?_eq_none (by omega)]
theorem mkF_set (j : Nat) (k : Int) (rs : List (List Int)) (h : j < rs.length) : (mkF j k rs).set j (marks (k + pre rs j) (rs[j]).length) = mkF (j + 1) k rs := by
  apply List.ext_getElem?
  intro i
  by_cases hi : i < rs.length
  · rw [mkF_get _ k rs i hi]
    by_cases e : j = i
    · subst e
      rw [List.getElem?_set_self (by rw [mkF_len]; exact h), if_pos (by omega)]
    · rw [List.getElem?_set_ne e, mkF_get _ k rs i hi]
      by_cases h1 : i < j
      · rw [if_pos h1, if_pos (by omega)]
      · rw [if_neg h1, if_neg (by omega)]
  · rw [List.getElem?_eq_none (by rw [List.length_set, mkF_len]; omega), List.getElem?_eq_none (by rw [mkF_len]; omega)]
end Wd
theorem OwnM.isLL {w : World} {lo : Nat} {v : Value} {U : List Value} {Z : List (List Int)} (h : OwnM w lo v U Z) : IsLL w v Z := by
  rcases h.shape with ⟨rfl, h0⟩ | ⟨g, c, rfl, _⟩
  · have hz : Z = [] := List.eq_nil_of_length_eq_zero (by rw [← h.len, h0]; rfl)
    subst hz
    exact ⟨none, 0, rfl, .inl rfl⟩
  · refine ⟨_, c, by rw [h.len], .inr ⟨_, rfl, fun j hj => ?_⟩⟩
    have hju : j < U.length := by rw [h.len]; exact hj
    refine ⟨U[j], ?_, IsL.of_own (h.rows.row j _ _ (List.getElem?_eq_getElem hju) (List.getElem?_eq_getElem hj))⟩
    rw [add_zero', h.outer.cellAt j (by omega), List.getElem?_eq_getElem hju]
theorem mkF_all (k : Int) (rs : List (List Int)) : mkF rs.length k rs = (List.range rs.length).map fun i => marks (k + pre rs i) (rs.getD i []).length := by
  unfold mkF
  apply List.map_congr_left
  intro i hi
  rw [if_pos (List.mem_range.1 hi)]
theorem Rws.rowAt {w : World} {lo : Nat} {U : List Value} {Z : List (List Int)} (h : Rws w lo U Z) {j : Nat} {u : Value} {zs : List Int} (hu : U[j]? = some u) (hz : Z[j]? = some zs) : OwnsI w lo u zs := h.row j u zs hu hz
/-- an automaton's value that the call owns -/
structure OwnA (w : World) (lo : Nat) (f n : Value) (U : List Value) (fin : List Int) (nx : List (List Int)) : Prop where
  fin : OwnsI w lo f fin
  nx : OwnM w lo n U nx
  ne : ∀ u ∈ U, f.ownBlock = none ∨ f.ownBlock ≠ u.ownBlock
theorem OwnA.kept {w w' : World} {lo : Nat} {f n : Value} {U : List Value} {fin : List Int} {nx : List (List Int)} (h : OwnA w lo f n U fin nx) (hb : Below w.heap.size w w') : OwnA w' lo f n U fin nx :=
  ⟨own_below h.fin hb (Nat.le_refl _), h.nx.kept hb, h.ne⟩
theorem OwnA.lower {w : World} {lo B : Nat} {f n : Value} {U : List Value} {fin : List Int} {nx : List (List Int)} (h : OwnA w lo f n U fin nx) (hb : B ≤ lo) : OwnA w B f n U fin nx :=
  ⟨own_lower h.fin hb, h.nx.lower hb, h.ne⟩
theorem OwnA.blocks {w : World} {lo : Nat} {f n : Value} {U : List Value} {fin : List Int} {nx : List (List Int)} (h : OwnA w lo f n U fin nx) : ∀ u ∈ f :: U, ∀ q, u.ownBlock = some q → lo ≤ q ∧ q < w.heap.size := by
  intro u hu q hq
  rcases List.mem_cons.1 hu with rfl | hu
  · exact h.fin.lt q hq
  · exact h.nx.rows.ge u hu q hq
theorem OwnA.only {w w' : World} {lo : Nat} {f n : Value} {U V : List Value} {fin : List Int} {nx : List (List Int)} (h : OwnA w lo f n U fin nx) (ho : OnlyIn V w w') (hV : ∀ u ∈ V, ∀ q, u.ownBlock = some q → q < lo) : OwnA w' lo f n U fin nx := by
  refine ⟨own_only h.fin ho (fun u hu => ?_), h.nx.only ho hV, h.ne⟩
  cases hq : u.ownBlock with
  | none => exact .inl rfl
  | some q =>
    refine .inr fun e => ?_
    have h1 := hV u hu q hq
    have h2 := (h.fin.lt q e.symm).1
    omega
theorem OwnA.isAu {w : World} {lo : Nat} {f n : Value} {U : List Value} {x : Au} (h : OwnA w lo f n U x.fin x.nx) : IsAu w (.agg #[.int .i64 x.st, .int .i64 x.go, f, n]) x :=
  ⟨f, n, rfl, IsL.of_own h.fin, h.nx.isLL⟩
/-- how many numbers an automaton holds -/
def auN (x : Au) : Int := x.fin.length + pre x.nx x.nx.length
end Go.Proofs.Ytaffachjopjbgaa
