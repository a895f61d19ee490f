/-
  Walks: spec.l04Letter, l04Read: an automaton reads a plain word.
-/
import Derived.Test.YtaffachjopjbgaaLetN
import Derived.Test.YtaffachjopjbgaaAuOk2
import Derived.Test.YtaffachjopjbgaaOk
namespace Go.Proofs.Ytaffachjopjbgaa
open Go.RowKit
open Wd
set_option linter.unusedVariables false
namespace Wd
/-- the next state -/
def stepA (nx : List (List Int)) (t : Int) (c : UInt8) : Int := (nx.getD t.toNat []).getD (c.toNat - 97) 0
/-- the state behind k letters -/
def rdK (nx : List (List Int)) (t : Int) (l : List UInt8) : Nat → Int
  | 0 => t
  | k + 1 => stepA nx (rdK nx t l k) (l.getD k 97)
theorem row_facts {nx : List (List Int)} {st : Int} (h : nx.all (rowOk st) = true) {i : Nat} (hi : i < nx.length) : nx[i].length = 4 ∧ ∀ j (hj : j < nx[i].length), 0 ≤ nx[i][j] ∧ nx[i][j] < st := by
  have h1 := List.all_eq_true.1 h nx[i] (List.getElem_mem hi)
  unfold rowOk at h1
  rw [Bool.and_eq_true, decide_eq_true_iff] at h1
  refine ⟨h1.1, fun j hj => ?_⟩
  have := List.all_eq_true.1 h1.2 nx[i][j] (List.getElem_mem hj)
  rwa [decide_eq_true_iff] at this
theorem step_in {nx : List (List Int)} {st t : Int} {c : UInt8} (h : nx.all (rowOk st) = true) (hl : (nx.length : Int) = st) (h0 : 0 ≤ t ∧ t < st) (hc : lt c = true) : 0 ≤ stepA nx t c ∧ stepA nx t c < st := by
  have h1 := of_lt hc
  have hi : t.toNat < nx.length := by omega
  obtain ⟨h4, hr⟩ := row_facts h hi
  unfold stepA
  rw [List.getD_eq_getElem?_getD (l := nx), List.getElem?_eq_getElem hi, Option.getD_some, List.getD_eq_getElem?_getD, List.getElem?_eq_getElem (by omega), Option.getD_some]
  exact hr _ (by omega)
theorem rdK_in {nx : List (List Int)} {st t : Int} {l : List UInt8} (h : nx.all (rowOk st) = true) (hl : (nx.length : Int) = st) (h0 : 0 ≤ t ∧ t < st) (hc : okL l = true) : ∀ k, k ≤ l.length → 0 ≤ rdK nx t l k ∧ rdK nx t l k < st
  | 0, _ => h0
  | k + 1, hk => by
    have ih := rdK_in h hl h0 hc k (by omega)
    rw [rdK]
    refine step_in h hl ih ?_
    rw [List.getD_eq_getElem?_getD, List.getElem?_eq_getElem (by omega), Option.getD_some]
    exact okL_at hc (by omega)
end Wd
end Go.Proofs.Ytaffachjopjbgaa
