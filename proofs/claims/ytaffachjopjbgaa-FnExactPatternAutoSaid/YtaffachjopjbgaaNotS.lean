/-
  Walks over slices of numbers that came in: copies (spec.l00Own, slices.Clone), membership (spec.l00Has, slices.Index, slices.Contains).
  Walks: spec.l04Rows; rows that are appended to rows.
-/
import Derived.Test.YtaffachjopjbgaaMat2
import Derived.Test.YtaffachjopjbgaaAppN
import Derived.Test.YtaffachjopjbgaaAuOk
namespace Go.Proofs.Ytaffachjopjbgaa
open Go.RowKit
open Wd
set_option linter.unusedVariables false
theorem Try.info_int64 : (Try.prog.info? 2).map (fun i => (i.zero, i.size, i.bytes)) = some (some (.int .i64 0), 1, 8) := by kernel_rfl
theorem isL_cases {w : World} {v : Value} {zs : List Int} (h : IsL w v zs) :
    (∃ c, v = .slice none 0 c ∧ zs = []) ∨ ∃ a c, v = .slice (some a) zs.length c ∧ ∀ j u, (iv zs)[j]? = some u → w.cell? (a.add j) = some u := by
  obtain ⟨A, c, rfl, h⟩ := h
  cases A with
  | none =>
    rcases h with h | ⟨a, ha, _⟩
    · subst h; exact .inl ⟨c, rfl, rfl⟩
    · cases ha
  | some a =>
    refine .inr ⟨a, c, rfl, fun j u hu => ?_⟩
    rcases h with h | ⟨b, hb, hc⟩
    · subst h; simp [iv] at hu
    · injection hb with hb
      subst hb
      have hj : j < zs.length := by have := (List.getElem?_eq_some_iff.1 hu).1; rwa [iv_len] at this
      rw [iv_get zs j hj] at hu
      injection hu with hu
      subst hu
      exact hc j hj
theorem iv_cell (zs : List Int) : ∀ u ∈ iv zs, u.oneCell' = true := by
  intro u hu
  obtain ⟨x, _, rfl⟩ := List.mem_map.1 hu
  rfl
namespace Wd
/-- whether a number is in a list -/
def hasN (zs : List Int) (n : Int) : Bool := decide (n ∈ zs)
end Wd
theorem hasN_yes {zs : List Int} {n : Int} {k : Nat} (hk : k < zs.length) (h : zs[k] = n) : hasN zs n = true := decide_eq_true (h ▸ List.getElem_mem hk)
theorem hasN_no {zs : List Int} {n : Int} (h : ∀ j (hj : j < zs.length), zs[j] ≠ n) : hasN zs n = false := decide_eq_false (fun hm => by
  obtain ⟨j, hj, e⟩ := List.getElem_of_mem hm
  exact h j hj e)
end Go.Proofs.Ytaffachjopjbgaa
