/-
  FnExactPairCounts: at every input the law returns true, and what it was given reads afterwards as before. No condition. The walk is in YtaffachjopjbgaaFnExactPairCountsWalk.
-/
import Derived.Test.YtaffachjopjbgaaRows
import Derived.Test.YtaffachjopjbgaaFnExactPairCountsWalk
import Derived.WalkKit
import Derived.ProofKit
import Derived.OpenShut
import Derived.ShutString
import Derived.ChangeOld
import Derived.Below
namespace Go.Proofs.Ytaffachjopjbgaa.fnExactPairCounts
open Go.Proofs.Ytaffachjopjbgaa.Wd
open Go.ChangeShapes Go.WideShapes Go.ChangeAt Go.RowKit
open Go.ChangeMaps (open_string shut_string)
set_option linter.unusedVariables false

theorem own : ownKnob Try.prog.godebug = none := by kernel_rfl
theorem laidOut : laidOutB Try.prog = true := by kernel_rfl

set_option maxRecDepth 100000 in
theorem lifted (os : Os) (started : os.Started) (H : Type) (enc : TypeId × Value → H) :
    ReturnsInHanded {} Try.checked os 12 .any (Rows.fnExactPairCountsSpec.pre6 enc Try.prog Try.f12 Rows.fnExactPairCountsRow.domain false) (Rows.fnExactPairCountsSpec.post enc Try.prog Try.f12 false true false false) := by
  refine returnsInHanded_of_change (C := Try.checked) own started (by kernel_rfl) Try.func12
    (ChangeSpec.witness6 (enc := enc) (C := Try.checked) false ⟨#[], #[.agg #[.slice none 0 0]], []⟩ 8 (by kernel_rfl) (by kernel_rfl) (by kernel_rfl) (by kernel_rfl)) ?_
  intro W base args ds gs before hval0 hW hcnd _
  have hval : ∀ (j : Nat) t v, Try.f12.params[j]? = some t → args[j]? = some v → Value.okWide Try.prog W .any base t v := hval0
  have hW' := hW
  obtain ⟨p, q, hA0, hV, rfl, hfz, hnd⟩ := hW
  have hA : DataW.TrodAll enc Try.prog W 0 (fun _ => true) true Try.f12.params.toList args.toList ds p := hA0
  rw [Try.params12] at hA hval
  obtain ⟨v0, vs0, d0, ds0, p0, q0, hargs, rfl, rfl, h0, r0⟩ := trodAll_cons hA
  obtain ⟨rfl, rfl, rfl⟩ := trodAll_nil r0
  obtain rfl : args = #[v0] := by cases args; simp_all
  obtain ⟨rfl, rfl⟩ := trodVars_none hV
  have k0 := h0
  have lt0 : ∀ x ∈ p0, x.block < W.heap.size := by obtain ⟨m, hm⟩ := k0; exact DataW.trod_lt m _ _ _ hm
  obtain ⟨A0, n0, c0, gs0, rfl, hl0, hr0⟩ := open_gram (hval 0 28 v0 rfl rfl) h0
  clear hA0 hval0
  refine (walk A0 n0 c0 gs0 W hl0 hr0).mono fun e W' ⟨he, bel⟩ => ?_
  subst he
  exact ⟨_, rfl, _, _, _, [], _, [], hW', trodAll_mk1 (shut_bool Try.underlying4 _), (trodAll_cons_mk (Below.trod laidOut (by kernel_rfl) (of_decide_eq_true (by kernel_rfl)) k0 bel lt0) trodAll_mk0), rfl, bel.frame _, fun h => by cases h⟩

theorem j1 : (Rows.fnExactPairCountsRow.inPlace == Try.prog.inPlace 12) = true := by kernel_rfl
theorem j2 : (Rows.fnExactPairCountsRow.unfollowed == Try.prog.unfollowed 12) = true := by kernel_rfl
theorem j3 : (Rows.fnExactPairCountsRow.recurses == Try.prog.recurses 12) = true := by kernel_rfl
theorem j4 : (Rows.fnExactPairCountsRow.named == Try.prog.varsNamed 12) = true := by kernel_rfl
theorem j5 : Try.prog.stopsHeard = true := by kernel_rfl
theorem j6 : Try.prog.mayEnter = true := by kernel_rfl
theorem j7 : mapsRowed Try.prog = true := by kernel_rfl
theorem joined : joinedFacts Try.prog 12 Try.f12 Rows.fnExactPairCountsSpec Rows.fnExactPairCountsRow = true := by
  unfold joinedFacts
  rw [j1, j2, j3, j4, j5, j6, j7, laidOut]
  kernel_rfl
theorem over : Rows.fnExactPairCountsRow.holds Try.pinned (OpenSpec.ofChange Rows.fnExactPairCountsSpec) :=
  OpenClaim.holds_of_wide 12 Try.f12 rfl rfl rfl rfl rfl rfl rfl ⟨rfl, rfl, rfl, rfl, rfl⟩ rfl rfl rfl rfl rfl (by kernel_rfl) Try.func12 joined
    (of_decide_eq_true (by kernel_rfl)) (by unfold Func.isWrapper; first | (rw [if_pos (by decide +kernel)]; kernel_rfl) | (rw [if_neg (by decide +kernel)]; exact ⟨rfl, rfl⟩))
    (fun os started H enc _ => lifted os started H enc)

theorem proved : Rows.FnExactPairCountsSaid := over
#print axioms proved
end Go.Proofs.Ytaffachjopjbgaa.fnExactPairCounts
