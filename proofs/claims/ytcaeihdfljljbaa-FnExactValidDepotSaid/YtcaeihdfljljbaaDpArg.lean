/-
  A depot that came in, opened.
-/
import Derived.Test.YtcaeihdfljljbaaDpB
import Derived.Test.YtcaeihdfljljbaaGramArg
namespace Go.Proofs.Ytcaeihdfljljbaa
open Go.ChangeShapes Go.WideShapes Go.Deep Go.Joins Go.RowKit
open Wd
set_option linter.unusedVariables false
section
variable {H : Type} {enc : TypeId × Value → H} {w : World} {base b0 : Nat} {r : Reach} {spare : Nat → Bool} {held : Bool}
/-- one grammar, in its one cell -/
theorem open_gram1 {n : Nat} {c0 : Value} {x0 : DataW H × List MemPlace} (h0 : DataW.trod enc Try.prog w base spare held n 41 [c0] = some x0) :
    ∃ A n0 cap gs, c0 = .slice A n0 cap ∧ n0 ≤ maxLen ∧ InRules w A n0 gs := by
  obtain ⟨xs, n1, _, hx, _, hlen, hg⟩ := DataW.trod_struct Try.underlying41 h0
  have hC2 : Try.prog.cellsOf 39 = 1 := by kernel_rfl
  have h0 := hg 0 _ rfl
  match xs, hlen with
  | [y0], _ =>
    have h0 : DataW.trod enc Try.prog w base spare held n1 39 [c0] = some y0 := by simpa [Value.cells, hC2] using h0
    rcases open_slice_fields Try.underlying39 Try.underlying192 (by kernel_rfl) (by kernel_rfl) h0 with ⟨hc, _⟩ | ⟨a, len, cap, m, D, Pl, hc, _, hl, hm, hmm, _, hi⟩
    · injection hc with hc
      subst hc
      exact ⟨none, 0, 0, [], rfl, by unfold maxLen; omega, rfl, .inl rfl⟩
    · injection hc with hc
      subst hc
      have hlm : len ≤ m := by rw [hmm]; split <;> omega
      have hrow : ∀ i, i < len → ∃ x : Rl, (w.cell? (a.add (i * 3)) = some (.string x.L) ∧ w.cell? (a.add (i * 3 + 1)) = some (.int .i64 x.l) ∧ w.cell? (a.add (i * 3 + 2)) = some (.int .i64 x.r)) ∧ x.L.size ≤ maxLen := by
        intro i him
        obtain ⟨ys, n', _, _, hyl, hfs⟩ := hi i (by omega)
        obtain ⟨v0, y0, hc0, _, ht0⟩ := hfs 0 _ rfl
        obtain ⟨v1, y1, hc1, _, ht1⟩ := hfs 1 _ rfl
        obtain ⟨v2, y2, hc2, _, ht2⟩ := hfs 2 _ rfl
        obtain ⟨s, e0, _, hs⟩ := DataW.trod_string Try.underlying9 ht0
        obtain ⟨n1, e1, _, _⟩ := DataW.trod_int Try.underlying2 ht1
        obtain ⟨n2, e2, _, _⟩ := DataW.trod_int Try.underlying2 ht2
        injection e0 with e0
        injection e1 with e1
        injection e2 with e2
        subst e0 e1 e2
        exact ⟨⟨s, n1, n2⟩, ⟨hc0, hc1, hc2⟩, hs⟩
      refine ⟨some a, len, cap, (List.range len).map fun i => if hh : i < len then Classical.choose (hrow i hh) else ⟨⟨#[]⟩, 0, 0⟩, rfl, by omega, by simp, ?_⟩
      refine .inr ⟨a, rfl, fun i hh => ?_⟩
      have hil : i < len := by simpa using hh
      simp only [List.getElem_map, List.getElem_range, hil, dite_true]
      exact Classical.choose_spec (hrow i hil)
set_option maxRecDepth 100000 in
theorem open_depot {v : Value} {d : DataW H} {p : List MemPlace} (hv : Value.okWide Try.prog w r b0 30 v) (h : DataW.Trod enc Try.prog w base spare held 30 v d p) :
    ∃ x : Dp, InDp w v x ∧ x.gss.length ≤ maxLen := by
  obtain ⟨cs, rfl, hsz⟩ := okWide_struct Try.underlying30 hv
  have hC : Try.prog.cellsOf 30 = 3 := by kernel_rfl
  obtain ⟨l⟩ := cs
  match l, hsz.trans hC with
  | [c0, c1, c2], _ =>
    obtain ⟨fuel, hf⟩ := h
    obtain ⟨xs, n, _, hx, _, hlen, hg⟩ := DataW.trod_struct Try.underlying30 hf
    have h0 := hg 0 _ rfl
    have h1 := hg 1 _ rfl
    have h2 := hg 2 _ rfl
    have hCi : Try.prog.cellsOf 2 = 1 := by kernel_rfl
    have hCg : Try.prog.cellsOf 28 = 1 := by kernel_rfl
    have hCr : Try.prog.cellsOf 41 = 1 := by kernel_rfl
    match xs, hlen with
    | [x0, x1, x2], _ =>
      have h0 : DataW.trod enc Try.prog w base spare held n 2 [c0] = some x0 := by simpa [Value.cells, hCi] using h0
      have h1 : DataW.trod enc Try.prog w base spare held n 2 [c1] = some x1 := by simpa [Value.cells, hCi] using h1
      have h2 : DataW.trod enc Try.prog w base spare held n 28 [c2] = some x2 := by simpa [Value.cells, hCg] using h2
      obtain ⟨sv, e0, _, _⟩ := DataW.trod_int Try.underlying2 h0
      obtain ⟨nm, e1, _, _⟩ := DataW.trod_int Try.underlying2 h1
      injection e0 with e0
      injection e1 with e1
      subst e0 e1
      have hgs : ∃ gss, InGs w c2 gss ∧ gss.length ≤ maxLen := by
        rcases open_slice Try.underlying28 h2 with ⟨hc, _⟩ | ⟨a, len, cap, m, n2, D, Pl, hc, _, hl, hm, hmm, _, hi⟩
        · injection hc with hc
          subst hc
          exact ⟨[], ⟨none, 0, rfl, .inl rfl⟩, by simp [maxLen]⟩
        · injection hc with hc
          subst hc
          have hlm : len ≤ m := by rw [hmm]; split <;> omega
          have hrow : ∀ i, i < len → ∃ gs : List Rl, ∃ A' n' c', w.cell? (a.add i) = some (.slice A' n' c') ∧ n' ≤ maxLen ∧ InRules w A' n' gs := by
            intro i him
            obtain ⟨cs', hc, ht⟩ := hi i (by omega)
            rw [hCr] at hc
            obtain ⟨_, hcl, hat⟩ := World.cells?_some hc
            match cs', hcl with
            | [q0], _ =>
              obtain ⟨A', n', c', gs, rfl, h1, h2⟩ := open_gram1 ht
              refine ⟨gs, A', n', c', ?_, h1, h2⟩
              have := hat (i := 0) (by decide)
              simpa [Nat.mul_one, Addr.add] using this
          refine ⟨(List.range len).map fun i => if hh : i < len then Classical.choose (hrow i hh) else [], ⟨some a, cap, by simp, .inr ⟨a, rfl, fun j hj => ?_⟩⟩, by simp; omega⟩
          have hjl : j < len := by simpa using hj
          simp only [List.getElem_map, List.getElem_range, hjl, dite_true]
          exact Classical.choose_spec (hrow j hjl)
      obtain ⟨gss, hx1, hx2⟩ := hgs
      exact ⟨⟨sv, nm, gss⟩, ⟨c2, rfl, hx1⟩, hx2⟩
end
end Go.Proofs.Ytcaeihdfljljbaa
