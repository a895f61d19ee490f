/-
  A list of factors that came in, opened to its factors. (Turned from XGramArg by fac.py.)
-/
import Derived.Test.YtcaeihdfljljbaaDoorFacM
import Derived.Test.YtcaeihdfljljbaaDoorGramArg
namespace Go.Proofs.YtcaeihdfljljbaaDoor
open Go.ChangeShapes Go.WideShapes Go.Deep Go.Joins Go.RowKit
open Wd
set_option linter.unusedVariables false
section
variable {H : Type} {enc : TypeId × Value → H} {w : World} {base b0 : Nat} {r : Reach} {spare : Nat → Bool} {held : Bool}
set_option maxRecDepth 100000 in
theorem open_facs {v : Value} {d : DataW H} {p : List MemPlace} (hv : Value.okWide Tryd.prog w r b0 28 v) (h : DataW.Trod enc Tryd.prog w base spare held 28 v d p) :
    ∃ A n0 cap gs, v = .slice A n0 cap ∧ n0 ≤ maxLen ∧ InRules w A n0 gs ∧ WfF gs := by
  obtain ⟨A, len, cap, rfl⟩ := okWide_slice Tryd.underlying28 hv
  obtain ⟨fuel, hf⟩ := h
  rcases open_slice_fields Tryd.underlying28 Tryd.underlying72 (by kernel_rfl) (by kernel_rfl) hf with ⟨hc, _⟩ | ⟨a, len, cap, m, D, Pl, hc, _, hl, hm, hmm, _, hi⟩
  · simp [Value.cells] at hc
    obtain ⟨rfl, rfl, rfl⟩ := hc
    exact ⟨none, 0, 0, [], rfl, by unfold maxLen; omega, ⟨rfl, .inl rfl⟩, fun k h => by simp at h⟩
  · simp [Value.cells] at hc
    obtain ⟨rfl, rfl, rfl⟩ := hc
    have hlm : len ≤ m := by rw [hmm]; split <;> omega
    have hrow : ∀ i, i < len → ∃ x : Rl, (w.cell? (a.add (i * 3)) = some (.string x.L) ∧ w.cell? (a.add (i * 3 + 1)) = some (.int .i64 x.l) ∧ w.cell? (a.add (i * 3 + 2)) = some (.int .i64 x.r)) ∧ x.L.size ≤ maxLen ∧ ((-9223372036854775808 ≤ x.l ∧ x.l ≤ 9223372036854775807) ∧ (-9223372036854775808 ≤ x.r ∧ x.r ≤ 9223372036854775807)) := by
      intro i him
      obtain ⟨ys, n', _, _, hyl, hfs⟩ := hi i (by omega)
      obtain ⟨v0, y0, hc0, _, ht0⟩ := hfs 0 _ rfl
      obtain ⟨v1, y1, hc1, _, ht1⟩ := hfs 1 _ rfl
      obtain ⟨v2, y2, hc2, _, ht2⟩ := hfs 2 _ rfl
      obtain ⟨s, e0, _, hs⟩ := DataW.trod_string Tryd.underlying9 ht0
      obtain ⟨n1, e1, _, hw1⟩ := DataW.trod_int Tryd.underlying2 ht1
      obtain ⟨n2, e2, _, hw2⟩ := DataW.trod_int Tryd.underlying2 ht2
      injection e0 with e0
      injection e1 with e1
      injection e2 with e2
      subst e0 e1 e2
      simp [Lit.wf, IntKind.min, IntKind.max, IntKind.signed, IntKind.bits] at hw1 hw2
      exact ⟨⟨s, n1, n2⟩, ⟨hc0, hc1, hc2⟩, hs, ⟨by dsimp only; omega, by dsimp only; omega⟩, by dsimp only; omega, by dsimp only; omega⟩
    refine ⟨some a, len, cap, (List.range len).map fun i => if hh : i < len then Classical.choose (hrow i hh) else ⟨⟨#[]⟩, 0, 0⟩, rfl, by omega, ⟨by simp, ?_⟩, ?_⟩
    · refine .inr ⟨a, rfl, fun i hh => ?_⟩
      have hil : i < len := by simpa using hh
      simp only [List.getElem_map, List.getElem_range, hil, dite_true]
      have := Classical.choose_spec (hrow i hil)
      exact ⟨this.1, this.2.1⟩
    · intro i hh
      have hil : i < len := by simpa using hh
      simp only [List.getElem_map, List.getElem_range, hil, dite_true]
      exact (Classical.choose_spec (hrow i hil)).2.2
end
end Go.Proofs.YtcaeihdfljljbaaDoor
