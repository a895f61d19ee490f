/-
  A grammar that came in, opened to its rules.
-/
import Derived.Test.YtaffachjopjbgaaGramTo
import Derived.Deep.Slices
import Derived.Deep.Fields
import Derived.ChangeSame
import Derived.Lib.SmallJoins
import Derived.ProofKit
import Derived.OpenShut
namespace Go.Proofs.Ytaffachjopjbgaa
open Go.ChangeShapes Go.WideShapes Go.Deep Go.Joins Go.RowKit
open Wd
set_option linter.unusedVariables false

section
variable {H : Type} {enc : TypeId × Value → H} {P : Program} {w : World} {base : Nat} {spare : Nat → Bool} {held : Bool}
theorem open_slice_fields {t e : TypeId} {fs : Array Field} {fuel : Nat} {cs : List Value} {x : DataW H × List MemPlace} (ht : P.underlying t = some (.slice e)) (he : P.underlying e = some (.struct fs))
    (hone : oneCellFields P fs = true) (hC : P.cellsOf e = fs.size) (h : DataW.trod enc P w base spare held fuel t cs = some x) :
    (cs = [.slice none 0 0] ∧ x = (.nil, [])) ∨
    ∃ (a : Addr) (len cap m : Nat) (D : Nat → DataW H) (Pl : Nat → List MemPlace), cs = [.slice (some a) len cap] ∧ base ≤ a.block ∧ len ≤ cap ∧ cap ≤ maxLen ∧ m = (if spare a.block then cap else len) ∧
      x = (.slice ((List.range len).map D) ((List.range (m - len)).map fun j => D (len + j)), MemPlace.row a (m * fs.size) ++ (List.range m).flatMap Pl) ∧
      ∀ i, i < m → ∃ (ys : List (DataW H × List MemPlace)) (n : Nat), D i = .agg (ys.map (·.1)) ∧ Pl i = ys.flatMap (·.2) ∧ ys.length = fs.size ∧
        ∀ (j : Nat) (f : Field), fs[j]? = some f → ∃ (v : Value) (y : DataW H × List MemPlace), w.cell? (a.add (i * fs.size + j)) = some v ∧ ys[j]? = some y ∧ DataW.trod enc P w base spare held n f.type [v] = some y := by
  rcases open_slice ht h with h0 | ⟨a, len, cap, m, n, D, Pl, hcs, hb, hl, hm, hmm, hx, hi⟩
  · exact .inl h0
  · refine .inr ⟨a, len, cap, m, D, Pl, hcs, hb, hl, hm, hmm, by rw [hC] at hx; exact hx, fun i him => ?_⟩
    obtain ⟨cs', hc, ht'⟩ := hi i him
    rw [hC] at hc
    obtain ⟨ys, n', hn', hy, hlen, hyl, hf⟩ := DataW.trod_struct he ht'
    obtain ⟨_, hcl, hat⟩ := World.cells?_some hc
    simp only [Prod.mk.injEq] at hy
    refine ⟨ys, n', hy.1, hy.2, hyl, fun j f hj => ?_⟩
    obtain ⟨ho, hk⟩ := hone_of hone j f hj
    have hjl : j < fs.size := (Array.getElem?_eq_some_iff.1 hj).1
    have hcell := hat j hjl
    have hv : cs'[j]? = some (cs'[j]'(by omega)) := List.getElem?_eq_getElem (by omega)
    have h1 := hf j f hj
    rw [ho, hk] at h1
    have hone' : (cs'.drop j).take 1 = [cs'[j]'(by omega)] := by
      rw [List.drop_eq_getElem_cons (by omega)]
      rfl
    rw [hone'] at h1
    have hys : ys[j]? = some (ys[j]'(by omega)) := List.getElem?_eq_getElem (by omega)
    refine ⟨_, _, ?_, hys, h1.trans hys⟩
    rw [← Go.Deep.add_add, hcell, hv]
end

section
variable {H : Type} {enc : TypeId × Value → H} {w : World} {base b0 : Nat} {r : Reach} {spare : Nat → Bool} {held : Bool}
set_option maxRecDepth 100000 in
theorem open_gram {v : Value} {d : DataW H} {p : List MemPlace} (hv : Value.okWide Try.prog w r b0 28 v) (h : DataW.Trod enc Try.prog w base spare held 28 v d p) :
    ∃ A n0 cap gs, v = .agg #[.slice A n0 cap] ∧ n0 ≤ maxLen ∧ InRules w A n0 gs := by
  obtain ⟨cs, rfl, hsz⟩ := okWide_struct Try.underlying28 hv
  have hC : Try.prog.cellsOf 28 = 1 := by kernel_rfl
  obtain ⟨l⟩ := cs
  match l, hsz.trans hC with
  | [c0], _ =>
    obtain ⟨fuel, hf⟩ := h
    obtain ⟨xs, n, _, hx, _, hlen, hg⟩ := DataW.trod_struct Try.underlying28 hf
    have h0 : DataW.trod enc Try.prog w base spare held n 26 ((((Value.agg ⟨[c0]⟩).cells.toList).drop 0).take (Try.prog.cellsOf 26)) = xs[0]? := hg 0 _ rfl
    have hC2 : Try.prog.cellsOf 26 = 1 := by kernel_rfl
    rw [hC2] at h0
    match xs, hlen with
    | [x0], _ =>
      have h0 : DataW.trod enc Try.prog w base spare held n 26 [c0] = some x0 := by simpa [Value.cells] using h0
      rcases open_slice_fields Try.underlying26 Try.underlying188 (by kernel_rfl) (by kernel_rfl) h0 with ⟨hc, _⟩ | ⟨a, len, cap, m, D, Pl, hc, _, hl, hm, hmm, _, hi⟩
      · injection hc with hc
        subst hc
        exact ⟨none, 0, 0, [], rfl, by unfold maxLen; omega, rfl, .inl rfl⟩
      · injection hc with hc
        subst hc
        have hlm : len ≤ m := by rw [hmm]; split <;> omega
        have hrow : ∀ i, i < len → ∃ x : Rl, (w.cell? (a.add (i * 3)) = some (.string x.L) ∧ w.cell? (a.add (i * 3 + 1)) = some (.int .i64 x.l) ∧ w.cell? (a.add (i * 3 + 2)) = some (.int .i64 x.r)) ∧ x.L.size ≤ maxLen := by
          intro i him
          obtain ⟨ys, n', _, _, hyl, hfs⟩ := hi i (by omega)
          obtain ⟨v0, y0, hc0, _, ht0⟩ := hfs 0 _ rfl
          obtain ⟨v1, y1, hc1, _, ht1⟩ := hfs 1 _ rfl
          obtain ⟨v2, y2, hc2, _, ht2⟩ := hfs 2 _ rfl
          obtain ⟨s, e0, _, hs⟩ := DataW.trod_string Try.underlying9 ht0
          obtain ⟨n1, e1, _, _⟩ := DataW.trod_int Try.underlying2 ht1
          obtain ⟨n2, e2, _, _⟩ := DataW.trod_int Try.underlying2 ht2
          injection e0 with e0
          injection e1 with e1
          injection e2 with e2
          subst e0 e1 e2
          exact ⟨⟨s, n1, n2⟩, ⟨hc0, hc1, hc2⟩, hs⟩
        refine ⟨some a, len, cap, (List.range len).map fun i => if hh : i < len then Classical.choose (hrow i hh) else ⟨⟨#[]⟩, 0, 0⟩, rfl, by omega, by simp, ?_⟩
        refine .inr ⟨a, rfl, fun i hh => ?_⟩
        have hil : i < len := by simpa using hh
        simp only [List.getElem_map, List.getElem_range, hil, dite_true]
        exact Classical.choose_spec (hrow i hil)
end
end Go.Proofs.Ytaffachjopjbgaa
