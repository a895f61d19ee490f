/-
  Tests for borders and periods; lists of the numbers that a test takes (plain facts).
-/
import Derived.Test.YtdfdeppfhadopaaIntsM
import Derived.Test.YtdfdeppfhadopaaKmp
namespace Go.Proofs.Ytdfdeppfhadopaa
open Go.RowKit
open Wd
set_option linter.unusedVariables false

namespace Wd
/-- the text from p on is that without its last p letters -/
def perB (s : ByteArray) (p : Nat) : Bool := (s.extract p s.size).toList == (s.extract 0 (s.size - p)).toList
/-- the first n letters are the last ones -/
def brdB (s : ByteArray) (n : Nat) : Bool := (s.extract 0 n).toList == (s.extract (s.size - n) s.size).toList
/-- the numbers from 1 to k that a test takes -/
def upTo (f : Nat → Bool) (k : Nat) : List Int := ((List.range k).filter fun j => f (j + 1)).map fun (j : Nat) => ((j + 1 : Nat) : Int)
theorem upTo_yes {f : Nat → Bool} {k : Nat} (h : f (k + 1) = true) : upTo f (k + 1) = upTo f k ++ [((k + 1 : Nat) : Int)] := by
  simp [upTo, List.range_succ, List.filter_append, h]
theorem upTo_no {f : Nat → Bool} {k : Nat} (h : f (k + 1) = false) : upTo f (k + 1) = upTo f k := by
  simp [upTo, List.range_succ, List.filter_append, h]
theorem upTo_len (f : Nat → Bool) (k : Nat) : (upTo f k).length ≤ k := by
  unfold upTo
  rw [List.length_map]
  exact Nat.le_trans (List.length_filter_le _ _) (by simp)
end Wd

theorem OwnsI.lit0 (w : World) : w.heap.size = w.heap.size → OwnsI (w.alloc (.cells #[] 2)) w.heap.size (.slice (some ⟨w.heap.size, 0, none⟩) 0 0) [] := fun _ =>
  World.ownsRow_lit w #[] 0 (Nat.le_refl _) (by decide) rfl

theorem Try.info_i64' : (Try.prog.info? 2).map (fun i => (i.zero, i.size, i.bytes)) = some (some (.int .i64 0), 1, 8) := by kernel_rfl

end Go.Proofs.Ytdfdeppfhadopaa
