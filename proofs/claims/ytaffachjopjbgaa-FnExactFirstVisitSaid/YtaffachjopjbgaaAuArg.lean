/-
  An automaton that came in, opened.
-/
import Derived.Test.YtaffachjopjbgaaAuEq
import Derived.Deep.Matrix
import Derived.Deep.Fields
import Derived.ChangeSame
import Derived.Lib.SmallJoins
import Derived.ProofKit
import Derived.OpenShut
namespace Go.Proofs.Ytaffachjopjbgaa
open Go.ChangeShapes Go.WideShapes Go.Deep Go.Joins Go.RowKit
open Wd
set_option linter.unusedVariables false
section
variable {H : Type} {enc : TypeId × Value → H} {w : World} {base b0 : Nat} {r : Reach} {held : Bool}
theorem isL_of {A : Option Addr} {len cap : Nat} {Z : List Int} (hl : len ≤ cap) (hz : Z.length = cap) (hn : A = none → cap = 0) (h : ∀ a, A = some a → ∀ c, c < cap → w.cell? (a.add c) = some (.int .i64 (Z.getD c 0))) :
    IsL w (.slice A len cap) (Z.take len) := by
  have hlen : (Z.take len).length = len := by rw [List.length_take, hz]; omega
  refine ⟨A, cap, by rw [hlen], ?_⟩
  cases A with
  | none =>
    have := hn rfl
    exact .inl (List.eq_nil_of_length_eq_zero (by rw [hlen]; omega))
  | some a =>
    refine .inr ⟨a, rfl, fun j hj => ?_⟩
    rw [hlen] at hj
    rw [h a rfl j (by omega), List.getElem_take, List.getD_eq_getElem?_getD, List.getElem?_eq_getElem (by omega), Option.getD_some]
set_option maxRecDepth 100000 in
theorem open_auto {v : Value} {d : DataW H} {p : List MemPlace} (hv : Value.okWide Try.prog w r b0 25 v) (h : DataW.Trod enc Try.prog w base (fun _ => true) held 25 v d p) :
    ∃ x : Au, IsAu w v x ∧ MaxA x := by
  obtain ⟨cs, rfl, hsz⟩ := okWide_struct Try.underlying25 hv
  have hC : Try.prog.cellsOf 25 = 4 := by kernel_rfl
  obtain ⟨l⟩ := cs
  match l, hsz.trans hC with
  | [c0, c1, c2, c3], _ =>
    obtain ⟨fuel, hf⟩ := h
    obtain ⟨xs, n, _, hx, _, hlen, hg⟩ := DataW.trod_struct Try.underlying25 hf
    have h0 := hg 0 _ rfl
    have h1 := hg 1 _ rfl
    have h2 := hg 2 _ rfl
    have h3 := hg 3 _ rfl
    have hCi : Try.prog.cellsOf 2 = 1 := by kernel_rfl
    have hCs : Try.prog.cellsOf 22 = 1 := by kernel_rfl
    have hCm : Try.prog.cellsOf 23 = 1 := by kernel_rfl
    match xs, hlen with
    | [x0, x1, x2, x3], _ =>
      have h0 : DataW.trod enc Try.prog w base (fun _ => true) held n 2 [c0] = some x0 := by simpa [Value.cells, hCi] using h0
      have h1 : DataW.trod enc Try.prog w base (fun _ => true) held n 2 [c1] = some x1 := by simpa [Value.cells, hCi] using h1
      have h2 : DataW.trod enc Try.prog w base (fun _ => true) held n 22 [c2] = some x2 := by simpa [Value.cells, hCs] using h2
      have h3 : DataW.trod enc Try.prog w base (fun _ => true) held n 23 [c3] = some x3 := by simpa [Value.cells, hCm] using h3
      obtain ⟨st, e0, _, _⟩ := DataW.trod_int Try.underlying2 h0
      obtain ⟨go, e1, _, _⟩ := DataW.trod_int Try.underlying2 h1
      injection e0 with e0
      injection e1 with e1
      subst e0 e1
      have hfin : ∃ zs, IsL w c2 zs ∧ zs.length ≤ maxLen := by
        rcases open_ints Try.underlying22 Try.underlying2 hCi h2 with ⟨hcs, _⟩ | ⟨x, l, c, zs, hcs, _, hl, hm, hz, _, hcell, hwz⟩
        · injection hcs with hcs
          subst hcs
          exact ⟨[], ⟨none, 0, rfl, .inl rfl⟩, by simp [maxLen]⟩
        · injection hcs with hcs
          subst hcs
          have hz' : zs.length = c := by simpa using hz
          refine ⟨zs.take l, isL_of hl hz' (fun h => by cases h) (fun a ha j hj => ?_), by rw [List.length_take]; omega⟩
          injection ha with ha
          subst ha
          exact hcell j (by omega)
      have hnx : ∃ xss, IsLL w c3 xss ∧ xss.length ≤ maxLen ∧ ∀ q ∈ xss, q.length ≤ maxLen := by
        rcases open_int_rows Try.underlying23 Try.underlying22 Try.underlying2 hCs hCi h3 with ⟨hcs, _⟩ | ⟨a, len, cap, A, L, C, Z, hcs, _, hl, hm, _, hrow⟩
        · injection hcs with hcs
          subst hcs
          exact ⟨[], ⟨none, 0, rfl, .inl rfl⟩, by simp [maxLen], by simp⟩
        · injection hcs with hcs
          subst hcs
          refine ⟨(List.range len).map fun q => (Z q).take (L q), ⟨some a, cap, by simp, .inr ⟨a, rfl, fun j hj => ?_⟩⟩, by simp; omega, ?_⟩
          · have hj' : j < len := by simpa using hj
            obtain ⟨g1, g2, g3, g4, g5, g6, g7⟩ := hrow j (by omega)
            refine ⟨_, g1, ?_⟩
            simp only [List.getElem_map, List.getElem_range]
            exact isL_of g2 g4 g6 (fun a' ha c hc => (g7 a' ha).2 c hc)
          · intro q hq
            obtain ⟨j, hj, rfl⟩ := List.mem_map.1 hq
            have hj' : j < len := List.mem_range.1 hj
            obtain ⟨g1, g2, g3, g4, _⟩ := hrow j (by omega)
            rw [List.length_take]
            omega
      obtain ⟨zs, hz1, hz2⟩ := hfin
      obtain ⟨xss, hx1, hx2, hx3⟩ := hnx
      exact ⟨⟨st, go, zs, xss⟩, ⟨c2, c3, rfl, hz1, hx1⟩, ⟨hz2, hx2, hx3⟩⟩
end
end Go.Proofs.Ytaffachjopjbgaa
