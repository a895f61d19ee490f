/-
  The iterator impl.shiftsOf: its contract.
-/
import Derived.Test.YtbenlbfommodiaaShift
import Derived.RangeFuncNested
import Derived.RangeFuncBound
import Derived.RangeFuncCalls
import Derived.RangeFuncLeaves
import Derived.Shelf.Abstract
import Derived.Shelf.RegionOpen
import Derived.WalkKit
import Derived.OwnWalkIn
import Derived.TacticsInMore
import Derived.LoopNIn
import Derived.LoopIn
namespace Go.Proofs.Ytbenlbfommodiaa
open Go.RowKit Go.Shelf
open Wd
set_option linter.unusedVariables false
attribute [local go_sem] Oper.semAt_some

theorem shiftsOf_any (s : ByteArray) (w : World) :
    Calls Try.prog 71 #[.string s] w fun e w' => e = .returned (.func (.func 114) #[] #[.pointer (some ⟨w.heap.size, 0, none⟩)]) ∧ w' = w.alloc (.cells #[.string s] 9) := by
  go_enter Try.func71, Try.ntmps71
  go_wp2
  go_ret
  exact ⟨rfl, rfl⟩

abbrev shEnc (s : ByteArray) (k : Nat) : Array Value := #[.int .i64 (k : Int), .string (shE s k)]
abbrev KpB (b : Nat) (W W' : World) : Prop := W'.heap[b]? = W.heap[b]?
theorem kpB_t {b : Nat} {A B C : World} (h : KpB b A B) (k : KpB b B C) : KpB b A C := k.trans h
theorem kpB_b {b : Nat} {w : World} (hb : b < w.heap.size) (W : World) (l : Nat) (o o' : Obj) (hl : w.heap.size ≤ l) (h : W.heap[l]? = some o) (_ : o.isCells = false) (_ : o.isWalk = false) : KpB b W (W.putObj l o') :=
  World.putObj_heap_other (by omega)

set_option maxRecDepth 100000 in
set_option maxHeartbeats 3200000 in
theorem shifts_stops (F : Fence) (n : Nat) (hF : F.fn 114) (hro : F.round = none) (hn : 1 ≤ n) (Bn : Nat) (s : ByteArray) (w : World) (hs : s.size ≤ 2000) (hBn : Bn < w.heap.size) (hc : w.heap[Bn]? = some (.cells #[.string s] 9 (0, 0))) :
    SeqStopsK F n Try.prog 114 #[.pointer (some ⟨Bn, 0, none⟩)] (shEnc s) (KpB Bn) (fun ys => ys = List.range (max 1 s.size)) (fun pre => ∃ m, m < max 1 s.size ∧ pre = List.range (m + 1)) (max 1 s.size) w := fun l J Jx W hW hJ hJx hY h0 => by
  have hcW : W.heap[Bn]? = some (.cells #[.string s] 9 (0, 0)) := (hW.block Bn hBn).trans hc
  have hcell : ∀ W : World, W.heap[Bn]? = some (.cells #[.string s] 9 (0, 0)) → W.cell? ⟨Bn, 0, none⟩ = some (.string s) := fun W h => by rw [cell_of_row _ _ _ _ _ _ h]; rfl
  have h1 := hcell W hcW
  refine callsIn_of_wp Try.func114 rfl hF ?_ hro
  simp only [Try.ntmps114, List.size_toArray, List.length_cons, List.length_nil, Nat.reduceAdd, Nat.reduceSub, Array.replicate_succ, Array.replicate_zero, List.push_toArray, List.append_toArray, List.nil_append, List.cons_append]
  gi_wp2
  all_goals
    gi_loopw [4, 11] (fun _ i wr => ∃ k : Nat, k ≤ max 1 s.size ∧ i = .int .i64 k ∧ J (List.range k) wr ∧ wr.heap[Bn]? = some (.cells #[.string s] 9 (0, 0))) (fun _ i _ => max 1 s.size - (intOf i).toNat)
    case atStart => exact ⟨0, Nat.zero_le _, rfl, h0, hcW⟩
    case round =>
      obtain ⟨k, hk, rfl, hJk, hb⟩ := hrel
      have h2 := hcell _ hb
      by_cases hlt : k < max 1 s.size
      · obtain ⟨fn, tmps, assign, body, hy, hR⟩ := hY (List.range k) k wr hJk (by rw [List.length_range]; exact hlt)
        try dsimp only [shEnc] at hy
        have he : (s ++ s).extract k (k + s.size) = shE s k := rfl
        have b0 : (0 : Int) ≤ (k : Int) := by omega
        have b1 : (k : Int) + (s.size : Int) ≤ (s.size : Int) + (s.size : Int) := by omega
        first
          | (have t1 : (k : Int) < 1 := by omega)
          | (have t1 : (k : Int) < (s.size : Int) := by omega)
        gi_wp2
        refine hR.mono ?_
        rintro e W3 (⟨rfl, hJ3, hk3⟩ | ⟨rfl, hJx3⟩)
        · have hb3 : W3.heap[Bn]? = some (.cells #[.string s] 9 (0, 0)) := Eq.trans hk3 hb
          gi_wp2
          go_roundw
          case rel => exact ⟨k + 1, by omega, by go_num, by rw [List.range_succ]; exact hJ3, hb3⟩
          case measure => (first | (simp [intOf]; done) | (simp [intOf]; omega))
        · gi_wp2
          refine bodyPost_ret (results_none rfl _ _ _) rfl ?_
          exact ⟨⟨_, rfl⟩, .inr ⟨_, ⟨k, hlt, by rw [List.range_succ]⟩, hJx3⟩⟩
      · obtain rfl : k = max 1 s.size := by omega
        gi_wp2
        go_end0
        exact ⟨⟨_, rfl⟩, .inl ⟨_, rfl, hJk⟩⟩
end Go.Proofs.Ytbenlbfommodiaa
