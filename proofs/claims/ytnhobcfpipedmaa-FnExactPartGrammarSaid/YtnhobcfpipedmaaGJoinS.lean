/-
  Walks: spec.l02Raised, a rule with numbers that are raised.
-/
import Derived.Test.YtnhobcfpipedmaaGLim
import Derived.Test.YtnhobcfpipedmaaGPair
namespace Go.Proofs.Ytnhobcfpipedmaa
open Go.RowKit
open Wd
set_option linter.unusedVariables false
namespace Wd
/-- a rule, raised -/
def raiseR (b : Int) (x : Rl) : Rl := if x.L.size = 0 then ⟨x.L, x.l + b, x.r + b⟩ else x
end Wd
set_option maxRecDepth 100000 in
set_option maxHeartbeats 1600000 in
theorem specRaised (x : Rl) (b : Int) (w : World) (h1 : 0 ≤ x.l ∧ x.l ≤ 1048576) (h2 : 0 ≤ x.r ∧ x.r ≤ 1048576) (hb : 0 ≤ b ∧ b ≤ 1048576) (hs : x.L.size ≤ maxLen) :
    Calls Try.prog 101 #[agg3 x, .int .i64 b] w fun e w' => e = .returned (agg3 (raiseR b x)) ∧ Below w.heap.size w w' := by
  obtain ⟨L, l, r⟩ := x
  simp only at h1 h2 hs
  have hB : ∀ o o', Below w.heap.size w ((w.alloc o).alloc o') := fun o o' => ((Below.refl _ w).alloc (Nat.le_refl _) o).alloc (by simp) o'
  have HB := Lib.hid hB
  clear hB
  by_cases h0 : L.size = 0
  · obtain rfl := empty_arr h0
    have hr : agg3 (raiseR b ⟨⟨#[]⟩, l, r⟩) = .agg #[.string ⟨#[]⟩, .int .i64 (l + b), .int .i64 (r + b)] := rfl
    rw [hr]
    show Calls Try.prog _ #[.agg #[.string ⟨#[]⟩, .int .i64 l, .int .i64 r], .int .i64 b] _ _
    clear hr
    go_enter Try.func101, Try.ntmps101
    go_wp2
    refine bodyPost_ret (v := .agg #[.string ⟨#[]⟩, .int .i64 (l + b), .int .i64 (r + b)]) (by simp [results, Try.results101, go_sem]) rfl ⟨rfl, HB.out _ _⟩
  · have hr : agg3 (raiseR b ⟨L, l, r⟩) = .agg #[.string L, .int .i64 l, .int .i64 r] := by unfold raiseR; rw [if_neg h0]
    rw [hr]
    show Calls Try.prog _ #[.agg #[.string L, .int .i64 l, .int .i64 r], .int .i64 b] _ _
    have h3 := full_list h0
    clear hr
    go_enter Try.func101, Try.ntmps101
    go_wp2
    refine bodyPost_ret (v := .agg #[.string L, .int .i64 l, .int .i64 r]) (by simp [results, Try.results101, go_sem]) rfl ⟨rfl, HB.out _ _⟩
end Go.Proofs.Ytnhobcfpipedmaa
