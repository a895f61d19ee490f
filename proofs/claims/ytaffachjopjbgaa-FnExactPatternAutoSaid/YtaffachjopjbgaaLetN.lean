/-
  Walk: spec.l04Letter.
-/
import Derived.Test.YtaffachjopjbgaaOk
namespace Go.Proofs.Ytaffachjopjbgaa
open Go.RowKit
open Wd
set_option linter.unusedVariables false
theorem letterN_any (d : Nat) (hd : d < 4) (w : World) :
    Calls Try.prog 160 #[.int .u8 ((97 + d : Nat) : Int)] w fun e w' => e = .returned (.int .i64 (d : Int)) ∧ w' = w := by
  match d, hd with
  | 0, _ =>
    go_enter Try.func160, Try.ntmps160
    go_wp2
    go_ret
    exact ⟨rfl, rfl⟩
  | 1, _ =>
    go_enter Try.func160, Try.ntmps160
    go_wp2
    go_ret
    exact ⟨rfl, rfl⟩
  | 2, _ =>
    go_enter Try.func160, Try.ntmps160
    go_wp2
    go_ret
    exact ⟨rfl, rfl⟩
  | 3, _ =>
    go_enter Try.func160, Try.ntmps160
    go_wp2
    go_ret
    exact ⟨rfl, rfl⟩
end Go.Proofs.Ytaffachjopjbgaa
