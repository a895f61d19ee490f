/-
  Walks: spec.l00In, l07Uses, l07Has, l07Number.
-/
import Derived.Test.YtcaeihdfljljbaaDoorEdB
namespace Go.Proofs.YtcaeihdfljljbaaDoor
open Go.RowKit
open Wd
set_option linter.unusedVariables false
namespace Wd
/-- what a kind mentions, as a text -/
def edU (k : Int) : ByteArray := if k = 1 then ⟨#[73, 80]⟩ else if k = 2 ∨ k = 5 then ⟨#[73, 74]⟩ else if k = 7 then ⟨#[73, 74, 77]⟩ else ⟨#[73, 74, 75]⟩
/-- is a byte in a text? -/
def hasB (s : ByteArray) (b : Int) : Bool := s.data.toList.any fun c => decide ((c.toNat : Int) = b)
theorem edU_has {k : Int} (h : 1 ≤ k ∧ k ≤ 7) : (hasB (edU k) 74 = hasJ k ∧ hasB (edU k) 75 = hasK k) ∧ hasB (edU k) 80 = hasP k ∧ hasB (edU k) 77 = hasM k := by
  obtain rfl | rfl | rfl | rfl | rfl | rfl | rfl : k = 1 ∨ k = 2 ∨ k = 3 ∨ k = 4 ∨ k = 5 ∨ k = 6 ∨ k = 7 := by omega
  all_goals decide
theorem edU_size (k : Int) : (edU k).size ≤ 3 := by
  unfold edU
  split
  · decide
  · split
    · decide
    · split <;> decide
end Wd
theorem inE_any (n lo hi : Int) (w : World) :
    Calls Tryd.prog 64 #[.int .i64 n, .int .i64 lo, .int .i64 hi] w fun e w' => e = .returned (.bool (decide (lo ≤ n ∧ n ≤ hi))) ∧ w' = w := by
  by_cases h1 : lo ≤ n
  · by_cases h2 : n ≤ hi
    · rw [decide_eq_true ⟨h1, h2⟩]
      go_enter Tryd.func64, Tryd.ntmps64
      go_wp2
      go_ret
      exact ⟨rfl, rfl⟩
    · rw [decide_eq_false (fun h => h2 h.2)]
      go_enter Tryd.func64, Tryd.ntmps64
      go_wp2
      go_ret
      exact ⟨rfl, rfl⟩
  · rw [decide_eq_false (fun h => h1 h.1)]
    go_enter Tryd.func64, Tryd.ntmps64
    go_wp2
    go_ret
    exact ⟨rfl, rfl⟩
theorem uses7_any (k : Int) (w : World) (h : 1 ≤ k ∧ k ≤ 7) :
    Calls Tryd.prog 44 #[.int .i64 k] w fun e w' => e = .returned (.string (edU k)) ∧ Below w.heap.size w w' := by
  obtain rfl | rfl | rfl | rfl | rfl | rfl | rfl : k = 1 ∨ k = 2 ∨ k = 3 ∨ k = 4 ∨ k = 5 ∨ k = 6 ∨ k = 7 := by omega
  all_goals
    go_enter Tryd.func44, Tryd.ntmps44
    go_wp2
    go_ret
    exact ⟨rfl, (Below.refl _ _).alloc (Nat.le_refl _) _⟩
set_option maxHeartbeats 800000 in
theorem has7_any (s : ByteArray) (b : Int) (w : World) (hs : s.size ≤ 3) :
    Calls Tryd.prog 45 #[.string s, .int .u8 b] w fun e w' => e = .returned (.bool (hasB s b)) ∧ w' = w := by
  go_enter Tryd.func45, Tryd.ntmps45
  go_wp2
  go_loop [5] (fun i => ∃ k : Nat, k ≤ s.size ∧ i = .int .i64 k ∧ ((s.data.toList.take k).any fun c => decide ((c.toNat : Int) = b)) = false) (fun i => s.size - (intOf i).toNat)
  case atStart => exact ⟨0, Nat.zero_le _, rfl, rfl⟩
  case round =>
    obtain ⟨k, hk, rfl, hno⟩ := hrel
    by_cases hlt : k < s.size
    · have hsn := take_snoc s k hlt
      have HS : Hid (s.data.toList.take (k + 1) = s.data.toList.take k ++ [s[k]]) := Lib.hid hsn
      have HN := Lib.hid hno
      have HY : Hid ((s[k].toNat : Int) = b → hasB s b = true) := Lib.hid (fun h => by
        unfold hasB
        rw [List.any_eq_true]
        refine ⟨s[k], ?_, by simp [h]⟩
        have : s[k] ∈ s.data.toList.take (k + 1) := by rw [hsn]; simp
        exact List.mem_of_mem_take this)
      clear hsn hno
      by_cases h1 : (s[k].toNat : Int) = b
      · go_wp2
        go_ret
        exact ⟨ret_bool (HY.out h1).symm, rfl⟩
      · have h1' : ((s[k].toNat : Int) == b) = false := by simpa using h1
        go_wp2
        go_round
        case rel => exact ⟨k + 1, by omega, by go_num, by rw [HS.out, List.any_append, HN.out]; simp [h1]⟩
        case measure => simp [intOf]; omega
    · have hf : hasB s b = false := by
        unfold hasB
        rw [List.take_of_length_le (by simp; omega)] at hno
        exact hno
      have HF := Lib.hid hf
      clear hf hno
      go_wp2
      go_ret
      exact ⟨ret_bool HF.out.symm, rfl⟩
theorem number7_any (n : Int) (told : Bool) (w : World) :
    Calls Tryd.prog 70 #[.int .i64 n, .bool told] w fun e w' => e = .returned (.bool (numOk n told)) ∧ w' = w := by
  unfold numOk
  cases told
  · rw [if_neg (by decide)]
    by_cases h : n = 0
    · rw [decide_eq_true h]
      go_enter Tryd.func70, Tryd.ntmps70
      go_wp2
      go_ret
      exact ⟨by simp [h], rfl⟩
    · rw [decide_eq_false h]
      go_enter Tryd.func70, Tryd.ntmps70
      go_wp2
      go_ret
      exact ⟨by simp [h], rfl⟩
  · rw [if_pos rfl]
    have HI := Lib.hid (inE_any n 0 1000000000000000 w)
    go_enter Tryd.func70, Tryd.ntmps70
    go_wp2_with fail
    refine HI.out.mono ?_
    rintro e w1 ⟨rfl, rfl⟩
    go_wp2_with fail
    go_ret
    exact ⟨ret_bool (by by_cases h1 : 0 ≤ n <;> by_cases h2 : n ≤ 1000000000000000 <;> simp [h1, h2]), rfl⟩
end Go.Proofs.YtcaeihdfljljbaaDoor
