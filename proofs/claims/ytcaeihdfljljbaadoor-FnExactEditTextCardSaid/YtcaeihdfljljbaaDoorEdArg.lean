/-
  An edit that came in, opened.
-/
import Derived.Test.YtcaeihdfljljbaaDoorGramArg
import Derived.Test.YtcaeihdfljljbaaDoorEdB
namespace Go.Proofs.YtcaeihdfljljbaaDoor
open Go.ChangeShapes Go.WideShapes Go.Deep Go.Joins Go.RowKit
open Wd
set_option linter.unusedVariables false
section
variable {H : Type} {enc : TypeId × Value → H} {w : World} {base b0 : Nat} {r : Reach} {spare : Nat → Bool} {held : Bool}
/-- the slice of rules in one cell -/
theorem open_rules1 {n : Nat} {c0 : Value} {x0 : DataW H × List MemPlace} (h0 : DataW.trod enc Tryd.prog w base spare held n 35 [c0] = some x0) :
    ∃ A n0 cap gs, c0 = .slice A n0 cap ∧ n0 ≤ maxLen ∧ InRules w A n0 gs := by
  rcases open_slice_fields Tryd.underlying35 Tryd.underlying153 (by kernel_rfl) (by kernel_rfl) h0 with ⟨hc, _⟩ | ⟨a, len, cap, m, D, Pl, hc, _, hl, hm, hmm, _, hi⟩
  · injection hc with hc
    subst hc
    exact ⟨none, 0, 0, [], rfl, by unfold maxLen; omega, rfl, .inl rfl⟩
  · injection hc with hc
    subst hc
    have hlm : len ≤ m := by rw [hmm]; split <;> omega
    have hrow : ∀ i, i < len → ∃ x : Rl, (w.cell? (a.add (i * 3)) = some (.string x.L) ∧ w.cell? (a.add (i * 3 + 1)) = some (.int .i64 x.l) ∧ w.cell? (a.add (i * 3 + 2)) = some (.int .i64 x.r)) ∧ x.L.size ≤ maxLen := by
      intro i him
      obtain ⟨ys, n', _, _, hyl, hfs⟩ := hi i (by omega)
      obtain ⟨v0, y0, hc0, _, ht0⟩ := hfs 0 _ rfl
      obtain ⟨v1, y1, hc1, _, ht1⟩ := hfs 1 _ rfl
      obtain ⟨v2, y2, hc2, _, ht2⟩ := hfs 2 _ rfl
      obtain ⟨s, e0, _, hs⟩ := DataW.trod_string Tryd.underlying9 ht0
      obtain ⟨n1, e1, _, _⟩ := DataW.trod_int Tryd.underlying2 ht1
      obtain ⟨n2, e2, _, _⟩ := DataW.trod_int Tryd.underlying2 ht2
      injection e0 with e0
      injection e1 with e1
      injection e2 with e2
      subst e0 e1 e2
      exact ⟨⟨s, n1, n2⟩, ⟨hc0, hc1, hc2⟩, hs⟩
    refine ⟨some a, len, cap, (List.range len).map fun i => if hh : i < len then Classical.choose (hrow i hh) else ⟨⟨#[]⟩, 0, 0⟩, rfl, by omega, by simp, ?_⟩
    refine .inr ⟨a, rfl, fun i hh => ?_⟩
    have hil : i < len := by simpa using hh
    simp only [List.getElem_map, List.getElem_range, hil, dite_true]
    exact Classical.choose_spec (hrow i hil)
set_option maxRecDepth 100000 in
theorem open_edit {v : Value} {d : DataW H} {p : List MemPlace} (hv : Value.okWide Tryd.prog w r b0 39 v) (h : DataW.Trod enc Tryd.prog w base spare held 39 v d p) :
    ∃ (x : Ed) (A : Option Addr) (n0 cap : Nat), v = edV x (.slice A n0 cap) ∧ n0 ≤ maxLen ∧ InRules w A n0 x.gs ∧ x.m.size ≤ maxLen ∧ ((Lit.int .i64 x.k).wf = true ∧ (Lit.int .i64 x.i).wf = true ∧ (Lit.int .i64 x.j).wf = true ∧ (Lit.int .i64 x.t).wf = true) := by
  obtain ⟨cs, rfl, hsz⟩ := okWide_struct Tryd.underlying39 hv
  have hC : Tryd.prog.cellsOf 39 = 6 := by kernel_rfl
  obtain ⟨l⟩ := cs
  match l, hsz.trans hC with
  | [c0, c1, c2, c3, c4, c5], _ =>
    obtain ⟨fuel, hf⟩ := h
    obtain ⟨xs, n, _, hx, _, hlen, hg⟩ := DataW.trod_struct Tryd.underlying39 hf
    have h0 := hg 0 _ rfl
    have h1 := hg 1 _ rfl
    have h2 := hg 2 _ rfl
    have h3 := hg 3 _ rfl
    have h4 := hg 4 _ rfl
    have h5 := hg 5 _ rfl
    have hCi : Tryd.prog.cellsOf 2 = 1 := by kernel_rfl
    have hCs : Tryd.prog.cellsOf 9 = 1 := by kernel_rfl
    have hCg : Tryd.prog.cellsOf 37 = 1 := by kernel_rfl
    match xs, hlen with
    | [x0, x1, x2, x3, x4, x5], _ =>
      have h0 : DataW.trod enc Tryd.prog w base spare held n 2 [c0] = some x0 := by simpa [Value.cells, hCi] using h0
      have h1 : DataW.trod enc Tryd.prog w base spare held n 2 [c1] = some x1 := by simpa [Value.cells, hCi] using h1
      have h2 : DataW.trod enc Tryd.prog w base spare held n 2 [c2] = some x2 := by simpa [Value.cells, hCi] using h2
      have h3 : DataW.trod enc Tryd.prog w base spare held n 2 [c3] = some x3 := by simpa [Value.cells, hCi] using h3
      have h4 : DataW.trod enc Tryd.prog w base spare held n 37 [c4] = some x4 := by simpa [Value.cells, hCg] using h4
      have h5 : DataW.trod enc Tryd.prog w base spare held n 9 [c5] = some x5 := by simpa [Value.cells, hCs] using h5
      obtain ⟨k, e0, _, w0⟩ := DataW.trod_int Tryd.underlying2 h0
      obtain ⟨i, e1, _, w1⟩ := DataW.trod_int Tryd.underlying2 h1
      obtain ⟨j, e2, _, w2⟩ := DataW.trod_int Tryd.underlying2 h2
      obtain ⟨t, e3, _, w3⟩ := DataW.trod_int Tryd.underlying2 h3
      obtain ⟨m, e5, _, hm⟩ := DataW.trod_string Tryd.underlying9 h5
      injection e0 with e0
      injection e1 with e1
      injection e2 with e2
      injection e3 with e3
      injection e5 with e5
      subst e0 e1 e2 e3 e5
      obtain ⟨ys, n', _, hy, _, hylen, hyg⟩ := DataW.trod_struct Tryd.underlying37 h4
      have hC2 : Tryd.prog.cellsOf 35 = 1 := by kernel_rfl
      have g0 := hyg 0 _ rfl
      match ys, hylen with
      | [y0], _ =>
        have g0 : DataW.trod enc Tryd.prog w base spare held n' 35 [c4] = some y0 := by simpa [Value.cells, hC2, hCg] using g0
        obtain ⟨A, n0, cap, gs, rfl, hl, hr⟩ := open_rules1 g0
        exact ⟨⟨k, i, j, t, gs, m⟩, A, n0, cap, rfl, hl, hr, hm, w0, w1, w2, w3⟩
end
end Go.Proofs.YtcaeihdfljljbaaDoor
