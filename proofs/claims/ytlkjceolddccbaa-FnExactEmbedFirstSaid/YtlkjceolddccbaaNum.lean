/-
  The iterator impl.numbersOf: its contract.
-/
import Derived.Test.YtlkjceolddccbaaShelf
import Derived.Test.YtlkjceolddccbaaBase
import Derived.Test.YtlkjceolddccbaaGramM
import Derived.RangeFuncNested
import Derived.RangeFuncBound
import Derived.RangeFuncCalls
import Derived.RangeFuncLeaves
import Derived.Shelf.Abstract
import Derived.Shelf.RegionOpen
import Derived.WalkKit
import Derived.OwnWalkIn
import Derived.TacticsInMore
import Derived.LoopNIn
import Derived.LoopIn
import Derived.Lib.IndexAny
import Derived.Lib.OthersKept
namespace Go.Proofs.Ytlkjceolddccbaa
open Go.RowKit Go.Shelf
open Wd
set_option linter.unusedVariables false
attribute [local go_sem] Oper.semAt_some

theorem numbersOf_any (s : ByteArray) (w : World) :
    Calls Try.prog 116 #[.string s] w fun e w' => e = .returned (.func (.func 127) #[] #[.pointer (some ⟨w.heap.size, 0, none⟩)]) ∧ w' = w.alloc (.cells #[.string s] 9) := by
  go_enter Try.func116, Try.ntmps116
  go_wp2
  go_ret
  exact ⟨rfl, rfl⟩
namespace Wd
/-- the number of a text's letter -/
def noAt (s : ByteArray) (k : Nat) : Nat := (s.data.toList.getD k 97).toNat - 97
theorem noAt_eq {s : ByteArray} {k : Nat} (h : k < s.size) : noAt s k = s[k].toNat - 97 := by
  unfold noAt
  have h' : k < s.data.toList.length := by simpa using h
  rw [List.getD_eq_getElem?_getD, List.getElem?_eq_getElem h', Option.getD_some]
  rfl
theorem noAt_lt {s : ByteArray} (hok : okL s.data.toList = true) {k : Nat} (h : k < s.size) : noAt s k < 4 ∧ s[k].toNat = 97 + noAt s k := by
  have h1 := of_lt (okL_at hok (i := k) (by simpa using h))
  have hch : s.data.toList[k]'(by simpa using h) = s[k] := rfl
  rw [hch] at h1
  rw [noAt_eq h]
  omega
/-- the number of a letter, as one of four -/
def noF (s : ByteArray) (k : Nat) : Fin 4 := ⟨noAt s k % 4, Nat.mod_lt _ (by decide)⟩
/-- the numbers of the first letters -/
def letN (s : ByteArray) (q : Nat) : List (Fin 4) := (List.range q).map (noF s)
theorem letN_succ (s : ByteArray) (q : Nat) : letN s (q + 1) = letN s q ++ [noF s q] := by unfold letN; rw [List.range_succ, List.map_append]; rfl
theorem letN_len (s : ByteArray) (q : Nat) : (letN s q).length = q := by simp [letN]
theorem letN_add (s : ByteArray) (q m : Nat) (h : q ≤ m) : ∃ r, letN s m = letN s q ++ r := by
  obtain ⟨d, rfl⟩ : ∃ d, m = q + d := ⟨m - q, by omega⟩
  induction d with
  | zero => exact ⟨[], by simp⟩
  | succ d ih =>
    obtain ⟨r, hr⟩ := ih (by omega)
    exact ⟨r ++ [noF s (q + d)], by rw [show q + (d + 1) = (q + d) + 1 from rfl, letN_succ, hr, List.append_assoc]⟩
end Wd
theorem idxRune_any (d : Nat) (hd : d < 4) (w : World) :
    Calls Try.prog 128 #[.string ⟨#[97, 98, 99, 100]⟩, .int .i32 (97 + (d : Int))] w fun e w' => e = .returned (.int .i64 (d : Int)) ∧ w' = w := by
  refine (Try.strings_IndexRune_ascii _ _ w (by omega) (by omega)).mono fun e w' he => ⟨he.1.trans ?_, he.2⟩
  match d, hd with
  | 0, _ => rfl
  | 1, _ => rfl
  | 2, _ => rfl
  | 3, _ => rfl
abbrev nuEnc (d : Fin 4) : Array Value := #[.int .i64 (d.val : Int)]
/-- what a round keeps: the text's block, and walks' objects -/
abbrev KpN (b : Nat) (W W' : World) : Prop := W'.heap[b]? = W.heap[b]? ∧ KeepsWalks W W'
theorem kpN_t {b : Nat} {A B C : World} (h : KpN b A B) (k : KpN b B C) : KpN b A C := ⟨k.1.trans h.1, h.2.trans k.2⟩
theorem kpN_b {b : Nat} {w : World} (hb : b < w.heap.size) (W : World) (l : Nat) (o o' : Obj) (hl : w.heap.size ≤ l) (h : W.heap[l]? = some o) (_ : o.isCells = false) (hw : o.isWalk = false) : KpN b W (W.putObj l o') :=
  ⟨World.putObj_heap_other (by omega), KeepsWalks.putObj _ h hw⟩
theorem num_grown (w : World) (k : Nat) (s : ByteArray) (pos : Nat) : w.grownBy (w.iterAt k s pos) (some k) :=
  ⟨rfl, rfl, rfl, by rw [Lib.iterAt_size]; exact Nat.le_refl _, fun i _ hi => Lib.iterAt_other w k i s pos (fun e => hi (by rw [e]))⟩

set_option maxRecDepth 100000 in
set_option maxHeartbeats 3200000 in
theorem numbers_stops (n : Nat) (hn : 1 ≤ n) (Bn : Nat) (s : ByteArray) (w : World) (hs : s.size ≤ 2000) (hok : okL s.data.toList = true) (hBn : Bn < w.heap.size) (hc : w.heap[Bn]? = some (.cells #[.string s] 9 (0, 0))) :
    SeqStopsK Fence.wide n Try.prog 127 #[.pointer (some ⟨Bn, 0, none⟩)] nuEnc (KpN Bn) (fun ys => ys = letN s s.size) (fun pre => ∃ m, m < s.size ∧ pre = letN s (m + 1)) s.size w := fun l J Jx W hW hJ hJx hY h0 => by
  have hcW : W.heap[Bn]? = some (.cells #[.string s] 9 (0, 0)) := (hW.block Bn hBn).trans hc
  have hBW : Bn < W.heap.size := Nat.lt_of_lt_of_le hBn hW.size
  have h1 : W.cell? ⟨Bn, 0, none⟩ = some (.string s) := by rw [cell_of_row _ _ _ _ _ _ hcW]; rfl
  have HOK := Lib.hid hok
  have HJ := Lib.hid hJ
  have HY := Lib.hid hY
  obtain ⟨I, hI⟩ : ∃ I, I = W.heap.size := ⟨_, rfl⟩
  have HST : Hid (∃ q : Nat, q ≤ s.size ∧ J (letN s q) (W.iter s 0) ∧ (W.iter s 0).heap[I]? = some (.stringIter s q) ∧ I < (W.iter s 0).heap.size) := Lib.hid ⟨0, Nat.zero_le _, hJ _ _ _ none h0 (World.grownBy_alloc W _ none) (fun r e => by cases e), by rw [hI]; exact World.iter_heap W s 0, by rw [hI]; have := (Array.getElem?_eq_some_iff.1 (World.iter_heap W s 0)).1; exact this⟩
  have HIW := Lib.hid hI
  clear hok hJ hY h0
  refine callsIn_of_wp Try.func127 rfl trivial ?_ rfl
  simp only [Try.ntmps127, List.size_toArray, List.length_cons, List.length_nil, Nat.reduceAdd, Nat.reduceSub, Array.replicate_succ, Array.replicate_zero, List.push_toArray, List.append_toArray, List.nil_append, List.cons_append]
  gi_wp2_with fail
  rw [← hI]
  generalize W.iter s 0 = W1 at *
  clear hI h1
  gi_loopw [4] (fun _ wr => ∃ q : Nat, q ≤ s.size ∧ J (letN s q) wr ∧ wr.heap[I]? = some (.stringIter s q) ∧ I < wr.heap.size) (fun _ wr => s.size - wr.iterPos I)
  case atStart => exact HST.out
  case round =>
    obtain ⟨q, hq, hJq, hit, hIs⟩ := hrel
    obtain ⟨wu, rfl⟩ : ∃ wu : World, wu = wr := ⟨_, rfl⟩
    have hms := iterPos_of hit
    by_cases hlt : q < s.size
    · obtain ⟨hd4, hto⟩ := noAt_lt HOK.out hlt
      have hnx : ∀ ty, (Instr.next (.pointer (some ⟨I, 0, none⟩)) true ty).run Try.prog wu = .ok (.tuple #[.bool true, .int .i64 q, .int .i32 (97 + (noAt s q : Int))]) (wu.iterAt I s (q + 1)) := fun ty => by
        rw [Lib.run_next_ascii_at wu I s q ty hit hlt (by rw [hto]; omega), hto]
        simp
      have hJ5 := HJ.out _ _ _ (some I) hJq (num_grown wu I s (q + 1)) (fun r e => by injection e with e; subst e; exact ⟨by have := HIW.out; omega, _, hit, rfl⟩)
      have hit5 : (wu.iterAt I s (q + 1)).heap[I]? = some (.stringIter s (q + 1)) := Lib.iterAt_heap wu I s q (q + 1) hit
      obtain ⟨fn, tmps, assign, body, hy, hR⟩ := HY.out (letN s q) (noF s q) (wu.iterAt I s (q + 1)) hJ5 (by rw [letN_len]; exact hlt)
      have hv : ((noF s q).val : Int) = (noAt s q : Int) := by unfold noF; simp only; rw [Nat.mod_eq_of_lt hd4]
      try dsimp only [nuEnc] at hy
      rw [hv] at hy
      have HR := Lib.hid hR
      have HIX := Lib.hid (fun W => idxRune_any (noAt s q) hd4 W)
      have HIT := Lib.hid hit5
      clear hJq hto hR hJ5 hit5 hit hv
      generalize noAt s q = d at *
      generalize wu.iterAt I s (q + 1) = w5 at *
      gi_wp2_with fail
      refine ⟨trivial, (callsIn_wide.2 (HIX.out _)).mono ?_⟩
      rintro e w6 ⟨rfl, rfl⟩
      gi_wp2_with fail
      refine HR.out.mono ?_
      rintro e W3 (⟨rfl, hJ3, hk3, hk4⟩ | ⟨rfl, hJx3⟩)
      · have hit3 := hk4.same _ _ HIT.out rfl
        have hm3 := iterPos_of hit3
        have HST3 : Hid (∃ q : Nat, q ≤ s.size ∧ J (letN s q) W3 ∧ W3.heap[I]? = some (.stringIter s q) ∧ I < W3.heap.size) := Lib.hid ⟨q + 1, by omega, by rw [letN_succ]; exact hJ3, hit3, (Array.getElem?_eq_some_iff.1 hit3).1⟩
        gi_wp2_with fail
        go_roundw
        all_goals first | exact HST3.out | ((repeat apply Exists.intro); exact ⟨HST3.out, rfl⟩) | (simp [intOf]; done) | (simp [intOf]; omega) | omega
      · gi_wp2_with fail
        refine bodyPost_ret (results_none rfl _ _ _) rfl ?_
        exact ⟨⟨_, rfl⟩, .inr ⟨_, ⟨q, hlt, by rw [letN_succ]⟩, hJx3⟩⟩
    · obtain rfl : q = s.size := by omega
      have hnx : ∀ ty, (Instr.next (.pointer (some ⟨I, 0, none⟩)) true ty).run Try.prog wu = .ok (.tuple #[.bool false]) wu := fun ty => Lib.run_next_end_at wu I s s.size ty hit (by omega)
      gi_wp2_with fail
      go_end0
      exact ⟨⟨_, rfl⟩, .inl ⟨_, rfl, hJq⟩⟩
end Go.Proofs.Ytlkjceolddccbaa
