/-
  Runs that came in, opened. (Turned from XGramArg by runs2.py.)
-/
import Derived.Test.YtlgpleeanmeenaaGramArg
import Derived.Test.YtlgpleeanmeenaaRuM
namespace Go.Proofs.Ytlgpleeanmeenaa
open Go.ChangeShapes Go.WideShapes Go.Deep Go.Joins Go.RowKit
open Wd
set_option linter.unusedVariables false
section
variable {H : Type} {enc : TypeId × Value → H} {w : World} {base b0 : Nat} {r : Reach} {spare : Nat → Bool} {held : Bool}
set_option maxRecDepth 100000 in
theorem open_runs1 {n : Nat} {c0 : Value} {x0 : DataW H × List MemPlace} (h0 : DataW.trod enc Try.prog w base spare held n 44 [c0] = some x0) :
    ∃ A n0 cap gs, c0 = .slice A n0 cap ∧ n0 ≤ maxLen ∧ InRuns w A n0 gs := by
  rcases open_slice_fields Try.underlying44 Try.underlying114 (by kernel_rfl) (by kernel_rfl) h0 with ⟨hc, _⟩ | ⟨a, len, cap, m, D, Pl, hc, _, hl, hm, hmm, _, hi⟩
  · injection hc with hc
    subst hc
    exact ⟨none, 0, 0, [], rfl, by unfold maxLen; omega, rfl, .inl rfl⟩
  · injection hc with hc
    subst hc
    have hlm : len ≤ m := by rw [hmm]; split <;> omega
    have hrow : ∀ i, i < len → ∃ x : Ru, (w.cell? (a.add (i * 2)) = some (.string x.L) ∧ w.cell? (a.add (i * 2 + 1)) = some (.int .i64 x.l)) ∧ x.L.size ≤ maxLen := by
      intro i him
      obtain ⟨ys, n', _, _, hyl, hfs⟩ := hi i (by omega)
      obtain ⟨v0, y0, hc0, _, ht0⟩ := hfs 0 _ rfl
      obtain ⟨v1, y1, hc1, _, ht1⟩ := hfs 1 _ rfl
      obtain ⟨s, e0, _, hs⟩ := DataW.trod_string Try.underlying9 ht0
      obtain ⟨n1, e1, _, _⟩ := DataW.trod_int Try.underlying2 ht1
      injection e0 with e0
      injection e1 with e1
      subst e0 e1
      exact ⟨⟨s, n1⟩, ⟨hc0, hc1⟩, hs⟩
    refine ⟨some a, len, cap, (List.range len).map fun i => if hh : i < len then Classical.choose (hrow i hh) else ⟨⟨#[]⟩, 0⟩, rfl, by omega, by simp, ?_⟩
    refine .inr ⟨a, rfl, fun i hh => ?_⟩
    have hil : i < len := by simpa using hh
    simp only [List.getElem_map, List.getElem_range, hil, dite_true]
    exact Classical.choose_spec (hrow i hil)
set_option maxRecDepth 100000 in
theorem open_runs {v : Value} {d : DataW H} {p : List MemPlace} (hv : Value.okWide Try.prog w r b0 44 v) (h : DataW.Trod enc Try.prog w base spare held 44 v d p) :
    ∃ A n0 cap gs, v = .slice A n0 cap ∧ n0 ≤ maxLen ∧ InRuns w A n0 gs := by
  obtain ⟨A, len, cap, rfl⟩ := okWide_slice Try.underlying44 hv
  obtain ⟨fuel, hf⟩ := h
  have hf : DataW.trod enc Try.prog w base spare held fuel 44 [.slice A len cap] = some (d, p) := by simpa [Value.cells] using hf
  exact open_runs1 hf
end
end Go.Proofs.Ytlgpleeanmeenaa
