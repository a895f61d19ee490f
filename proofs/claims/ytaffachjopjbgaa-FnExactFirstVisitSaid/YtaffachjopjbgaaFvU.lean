/-
  Walk: the function value that FirstVisit hands to searchFor.
-/
import Derived.Test.YtaffachjopjbgaaFvR
namespace Go.Proofs.Ytaffachjopjbgaa
open Go.RowKit
open Wd
set_option linter.unusedVariables false
theorem wanted_any (q t : Int) (P : Nat) (w : World) (h : w.cell? ⟨P, 0, none⟩ = some (.int .i64 t)) :
    Calls Try.prog 89 #[.int .i64 q, .pointer (some ⟨P, 0, none⟩)] w fun e w' => e = .returned (.bool (decide (q = t))) ∧ w' = w := by
  by_cases hq : q = t
  · have h1 : (q == t) = true := by simp [hq]
    rw [decide_eq_true hq]
    subst hq
    go_enter Try.func89, Try.ntmps89
    go_wp2_with fail
    go_ret
    exact ⟨by first | rfl | simp, rfl⟩
  · have h1 : (q == t) = false := by simp [hq]
    rw [decide_eq_false hq]
    go_enter Try.func89, Try.ntmps89
    go_wp2_with fail
    go_ret
    exact ⟨by first | rfl | simp [hq], rfl⟩
end Go.Proofs.Ytaffachjopjbgaa
