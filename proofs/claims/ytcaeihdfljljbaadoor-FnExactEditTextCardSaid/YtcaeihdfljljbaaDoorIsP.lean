/-
  Walk: impl.isPart.
-/
import Derived.Test.YtcaeihdfljljbaaDoorBase
import Derived.Test.YtcaeihdfljljbaaDoorGramM
namespace Go.Proofs.YtcaeihdfljljbaaDoor
open Go.RowKit
open Wd
set_option linter.unusedVariables false
namespace Wd
def inPart (i j n : Int) : Bool := decide (0 ≤ i) && (decide (i ≤ j) && decide (j ≤ n))
theorem inPart_iff {i j n : Int} : inPart i j n = true ↔ 0 ≤ i ∧ i ≤ j ∧ j ≤ n := by simp [inPart]
end Wd
theorem isPart_any (i j n : Int) (w : World) :
    Calls Tryd.prog 104 #[.int .i64 i, .int .i64 j, .int .i64 n] w fun e w' => e = .returned (.bool (inPart i j n)) ∧ w' = w := by
  by_cases h1 : 0 ≤ i
  · by_cases h2 : i ≤ j
    · have hd : inPart i j n = decide (j ≤ n) := by simp [inPart, h1, h2]
      rw [hd]
      have HD := Lib.hid hd
      clear hd
      go_enter Tryd.func104, Tryd.ntmps104
      go_wp2
      go_ret
      exact ⟨ret_bool (by first | rfl | simp), rfl⟩
    · have hd : inPart i j n = false := by simp [inPart, h2]
      rw [hd]
      have h2d : decide (i ≤ j) = false := decide_eq_false h2
      clear hd
      go_enter Tryd.func104, Tryd.ntmps104
      go_wp2
      go_ret
      exact ⟨rfl, rfl⟩
  · have hd : inPart i j n = false := by simp [inPart, h1]
    rw [hd]
    have h1d : decide (0 ≤ i) = false := decide_eq_false h1
    clear hd
    go_enter Tryd.func104, Tryd.ntmps104
    go_wp2
    go_ret
    exact ⟨rfl, rfl⟩
end Go.Proofs.YtcaeihdfljljbaaDoor
