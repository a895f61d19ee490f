/-
  A deed that came in, opened.
-/
import Derived.Test.YtcaeihdfljljbaaDoorBase
import Derived.Deep.Fields
import Derived.ChangeSame
import Derived.Lib.SmallJoins
import Derived.ProofKit
import Derived.OpenShut
namespace Go.Proofs.YtcaeihdfljljbaaDoor
open Go.ChangeShapes Go.WideShapes Go.Deep Go.Joins Go.RowKit
open Wd
set_option linter.unusedVariables false
section
variable {H : Type} {enc : TypeId × Value → H} {w : World} {base b0 : Nat} {r : Reach} {spare : Nat → Bool} {held : Bool}
set_option maxRecDepth 100000 in
theorem open_deed {v : Value} {d : DataW H} {p : List MemPlace} (hv : Value.okWide Tryd.prog w r b0 23 v) (h : DataW.Trod enc Tryd.prog w base spare held 23 v d p) :
    ∃ k a b c : Int, v = .agg #[.int .i64 k, .int .i64 a, .int .i64 b, .int .i64 c] ∧ ((Lit.int .i64 k).wf = true ∧ (Lit.int .i64 a).wf = true ∧ (Lit.int .i64 b).wf = true ∧ (Lit.int .i64 c).wf = true) := by
  obtain ⟨cs, rfl, hsz⟩ := okWide_struct Tryd.underlying23 hv
  have hC : Tryd.prog.cellsOf 23 = 4 := by kernel_rfl
  obtain ⟨l⟩ := cs
  match l, hsz.trans hC with
  | [c0, c1, c2, c3], _ =>
    obtain ⟨fuel, hf⟩ := h
    obtain ⟨xs, n, _, hx, _, hlen, hg⟩ := DataW.trod_struct Tryd.underlying23 hf
    have h0 := hg 0 _ rfl
    have h1 := hg 1 _ rfl
    have h2 := hg 2 _ rfl
    have h3 := hg 3 _ rfl
    have hCi : Tryd.prog.cellsOf 2 = 1 := by kernel_rfl
    match xs, hlen with
    | [x0, x1, x2, x3], _ =>
      have h0 : DataW.trod enc Tryd.prog w base spare held n 2 [c0] = some x0 := by simpa [Value.cells, hCi] using h0
      have h1 : DataW.trod enc Tryd.prog w base spare held n 2 [c1] = some x1 := by simpa [Value.cells, hCi] using h1
      have h2 : DataW.trod enc Tryd.prog w base spare held n 2 [c2] = some x2 := by simpa [Value.cells, hCi] using h2
      have h3 : DataW.trod enc Tryd.prog w base spare held n 2 [c3] = some x3 := by simpa [Value.cells, hCi] using h3
      obtain ⟨k, e0, _, w0⟩ := DataW.trod_int Tryd.underlying2 h0
      obtain ⟨a, e1, _, w1⟩ := DataW.trod_int Tryd.underlying2 h1
      obtain ⟨b, e2, _, w2⟩ := DataW.trod_int Tryd.underlying2 h2
      obtain ⟨c, e3, _, w3⟩ := DataW.trod_int Tryd.underlying2 h3
      injection e0 with e0
      injection e1 with e1
      injection e2 with e2
      injection e3 with e3
      subst e0 e1 e2 e3
      exact ⟨k, a, b, c, rfl, w0, w1, w2, w3⟩
end
end Go.Proofs.YtcaeihdfljljbaaDoor
