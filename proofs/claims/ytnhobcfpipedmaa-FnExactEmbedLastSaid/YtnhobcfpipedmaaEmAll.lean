/-
  Num, TaK, TaJ, GLenI, TurnI, GVar, GTurnI, EmR, EmM, EmN, EmI, EmL, EmO, in one text.
-/
import Derived.Test.YtnhobcfpipedmaaShelf
import Derived.Test.YtnhobcfpipedmaaBase
import Derived.Test.YtnhobcfpipedmaaGramM
import Derived.RangeFuncNested
import Derived.RangeFuncBound
import Derived.RangeFuncCalls
import Derived.RangeFuncLeaves
import Derived.Shelf.Abstract
import Derived.Shelf.RegionOpen
import Derived.WalkKit
import Derived.OwnWalkIn
import Derived.TacticsInMore
import Derived.LoopNIn
import Derived.LoopIn
import Derived.Lib.IndexAny
import Derived.Lib.OthersKept
import Derived.Test.YtnhobcfpipedmaaTaH
import Derived.Test.YtnhobcfpipedmaaTaR
import Derived.Test.YtnhobcfpipedmaaIsL
import Derived.Test.YtnhobcfpipedmaaIdx
import Derived.Test.YtnhobcfpipedmaaGWLen
import Derived.Test.YtnhobcfpipedmaaGramLen
import Derived.Lib.OwnBridge
import Derived.Test.YtnhobcfpipedmaaGClone
import Derived.Test.YtnhobcfpipedmaaVar
import Derived.Deep.QuietTactic
import Derived.Test.YtnhobcfpipedmaaGValid
import Derived.RegionTactic
import Derived.ChangeAlike
import Derived.Test.YtnhobcfpipedmaaTaT
import Derived.ArgAppend
import Derived.Test.YtnhobcfpipedmaaOwnK
import Derived.Scope
import Derived.WalkMore
import Derived.Deep.RegionHeld3
namespace Go.Proofs.Ytnhobcfpipedmaa
open Go.RowKit Go.Shelf
open Wd
set_option linter.unusedVariables false
attribute [local go_sem] Oper.semAt_some

theorem numbersOf_any (s : ByteArray) (w : World) :
    Calls Try.prog 149 #[.string s] w fun e w' => e = .returned (.func (.func 171) #[] #[.pointer (some ⟨w.heap.size, 0, none⟩)]) ∧ w' = w.alloc (.cells #[.string s] 9) := by
  go_enter Try.func149, Try.ntmps149
  go_wp2
  go_ret
  exact ⟨rfl, rfl⟩
namespace Wd
/-- the number of a text's letter -/
def noAt (s : ByteArray) (k : Nat) : Nat := (s.data.toList.getD k 97).toNat - 97
theorem noAt_eq {s : ByteArray} {k : Nat} (h : k < s.size) : noAt s k = s[k].toNat - 97 := by
  unfold noAt
  have h' : k < s.data.toList.length := by simpa using h
  rw [List.getD_eq_getElem?_getD, List.getElem?_eq_getElem h', Option.getD_some]
  rfl
theorem noAt_lt {s : ByteArray} (hok : okL s.data.toList = true) {k : Nat} (h : k < s.size) : noAt s k < 4 ∧ s[k].toNat = 97 + noAt s k := by
  have h1 := of_lt (okL_at hok (i := k) (by simpa using h))
  have hch : s.data.toList[k]'(by simpa using h) = s[k] := rfl
  rw [hch] at h1
  rw [noAt_eq h]
  omega
/-- the number of a letter, as one of four -/
def noF (s : ByteArray) (k : Nat) : Fin 4 := ⟨noAt s k % 4, Nat.mod_lt _ (by decide)⟩
/-- the numbers of the first letters -/
def letN (s : ByteArray) (q : Nat) : List (Fin 4) := (List.range q).map (noF s)
theorem letN_succ (s : ByteArray) (q : Nat) : letN s (q + 1) = letN s q ++ [noF s q] := by unfold letN; rw [List.range_succ, List.map_append]; rfl
theorem letN_len (s : ByteArray) (q : Nat) : (letN s q).length = q := by simp [letN]
theorem letN_add (s : ByteArray) (q m : Nat) (h : q ≤ m) : ∃ r, letN s m = letN s q ++ r := by
  obtain ⟨d, rfl⟩ : ∃ d, m = q + d := ⟨m - q, by omega⟩
  induction d with
  | zero => exact ⟨[], by simp⟩
  | succ d ih =>
    obtain ⟨r, hr⟩ := ih (by omega)
    exact ⟨r ++ [noF s (q + d)], by rw [show q + (d + 1) = (q + d) + 1 from rfl, letN_succ, hr, List.append_assoc]⟩
end Wd
theorem idxRune_any (d : Nat) (hd : d < 4) (w : World) :
    Calls Try.prog 172 #[.string ⟨#[97, 98, 99, 100]⟩, .int .i32 (97 + (d : Int))] w fun e w' => e = .returned (.int .i64 (d : Int)) ∧ w' = w := by
  refine (Try.strings_IndexRune_ascii _ _ w (by omega) (by omega)).mono fun e w' he => ⟨he.1.trans ?_, he.2⟩
  match d, hd with
  | 0, _ => rfl
  | 1, _ => rfl
  | 2, _ => rfl
  | 3, _ => rfl
abbrev nuEnc (d : Fin 4) : Array Value := #[.int .i64 (d.val : Int)]
/-- what a round keeps: the text's block, and walks' objects -/
abbrev KpN (b : Nat) (W W' : World) : Prop := W'.heap[b]? = W.heap[b]? ∧ KeepsWalks W W'
theorem kpN_t {b : Nat} {A B C : World} (h : KpN b A B) (k : KpN b B C) : KpN b A C := ⟨k.1.trans h.1, h.2.trans k.2⟩
theorem kpN_b {b : Nat} {w : World} (hb : b < w.heap.size) (W : World) (l : Nat) (o o' : Obj) (hl : w.heap.size ≤ l) (h : W.heap[l]? = some o) (_ : o.isCells = false) (hw : o.isWalk = false) : KpN b W (W.putObj l o') :=
  ⟨World.putObj_heap_other (by omega), KeepsWalks.putObj _ h hw⟩
theorem num_grown (w : World) (k : Nat) (s : ByteArray) (pos : Nat) : w.grownBy (w.iterAt k s pos) (some k) :=
  ⟨rfl, rfl, rfl, by rw [Lib.iterAt_size]; exact Nat.le_refl _, fun i _ hi => Lib.iterAt_other w k i s pos (fun e => hi (by rw [e]))⟩

set_option maxRecDepth 100000 in
set_option maxHeartbeats 3200000 in
theorem numbers_stops (n : Nat) (hn : 1 ≤ n) (Bn : Nat) (s : ByteArray) (w : World) (hs : s.size ≤ 2000) (hok : okL s.data.toList = true) (hBn : Bn < w.heap.size) (hc : w.heap[Bn]? = some (.cells #[.string s] 9 (0, 0))) :
    SeqStopsK Fence.wide n Try.prog 171 #[.pointer (some ⟨Bn, 0, none⟩)] nuEnc (KpN Bn) (fun ys => ys = letN s s.size) (fun pre => ∃ m, m < s.size ∧ pre = letN s (m + 1)) s.size w := fun l J Jx W hW hJ hJx hY h0 => by
  have hcW : W.heap[Bn]? = some (.cells #[.string s] 9 (0, 0)) := (hW.block Bn hBn).trans hc
  have hBW : Bn < W.heap.size := Nat.lt_of_lt_of_le hBn hW.size
  have h1 : W.cell? ⟨Bn, 0, none⟩ = some (.string s) := by rw [cell_of_row _ _ _ _ _ _ hcW]; rfl
  have HOK := Lib.hid hok
  have HJ := Lib.hid hJ
  have HY := Lib.hid hY
  obtain ⟨I, hI⟩ : ∃ I, I = W.heap.size := ⟨_, rfl⟩
  have HST : Hid (∃ q : Nat, q ≤ s.size ∧ J (letN s q) (W.iter s 0) ∧ (W.iter s 0).heap[I]? = some (.stringIter s q) ∧ I < (W.iter s 0).heap.size) := Lib.hid ⟨0, Nat.zero_le _, hJ _ _ _ none h0 (World.grownBy_alloc W _ none) (fun r e => by cases e), by rw [hI]; exact World.iter_heap W s 0, by rw [hI]; have := (Array.getElem?_eq_some_iff.1 (World.iter_heap W s 0)).1; exact this⟩
  have HIW := Lib.hid hI
  clear hok hJ hY h0
  refine callsIn_of_wp Try.func171 rfl trivial ?_ rfl
  simp only [Try.ntmps171, List.size_toArray, List.length_cons, List.length_nil, Nat.reduceAdd, Nat.reduceSub, Array.replicate_succ, Array.replicate_zero, List.push_toArray, List.append_toArray, List.nil_append, List.cons_append]
  gi_wp2_with fail
  rw [← hI]
  generalize W.iter s 0 = W1 at *
  clear hI h1
  gi_loopw [4] (fun _ wr => ∃ q : Nat, q ≤ s.size ∧ J (letN s q) wr ∧ wr.heap[I]? = some (.stringIter s q) ∧ I < wr.heap.size) (fun _ wr => s.size - wr.iterPos I)
  case atStart => exact HST.out
  case round =>
    obtain ⟨q, hq, hJq, hit, hIs⟩ := hrel
    obtain ⟨wu, rfl⟩ : ∃ wu : World, wu = wr := ⟨_, rfl⟩
    have hms := iterPos_of hit
    by_cases hlt : q < s.size
    · obtain ⟨hd4, hto⟩ := noAt_lt HOK.out hlt
      have hnx : ∀ ty, (Instr.next (.pointer (some ⟨I, 0, none⟩)) true ty).run Try.prog wu = .ok (.tuple #[.bool true, .int .i64 q, .int .i32 (97 + (noAt s q : Int))]) (wu.iterAt I s (q + 1)) := fun ty => by
        rw [Lib.run_next_ascii_at wu I s q ty hit hlt (by rw [hto]; omega), hto]
        simp
      have hJ5 := HJ.out _ _ _ (some I) hJq (num_grown wu I s (q + 1)) (fun r e => by injection e with e; subst e; exact ⟨by have := HIW.out; omega, _, hit, rfl⟩)
      have hit5 : (wu.iterAt I s (q + 1)).heap[I]? = some (.stringIter s (q + 1)) := Lib.iterAt_heap wu I s q (q + 1) hit
      obtain ⟨fn, tmps, assign, body, hy, hR⟩ := HY.out (letN s q) (noF s q) (wu.iterAt I s (q + 1)) hJ5 (by rw [letN_len]; exact hlt)
      have hv : ((noF s q).val : Int) = (noAt s q : Int) := by unfold noF; simp only; rw [Nat.mod_eq_of_lt hd4]
      try dsimp only [nuEnc] at hy
      rw [hv] at hy
      have HR := Lib.hid hR
      have HIX := Lib.hid (fun W => idxRune_any (noAt s q) hd4 W)
      have HIT := Lib.hid hit5
      clear hJq hto hR hJ5 hit5 hit hv
      generalize noAt s q = d at *
      generalize wu.iterAt I s (q + 1) = w5 at *
      gi_wp2_with fail
      refine ⟨trivial, (callsIn_wide.2 (HIX.out _)).mono ?_⟩
      rintro e w6 ⟨rfl, rfl⟩
      gi_wp2_with fail
      refine HR.out.mono ?_
      rintro e W3 (⟨rfl, hJ3, hk3, hk4⟩ | ⟨rfl, hJx3⟩)
      · have hit3 := hk4.same _ _ HIT.out rfl
        have hm3 := iterPos_of hit3
        have HST3 : Hid (∃ q : Nat, q ≤ s.size ∧ J (letN s q) W3 ∧ W3.heap[I]? = some (.stringIter s q) ∧ I < W3.heap.size) := Lib.hid ⟨q + 1, by omega, by rw [letN_succ]; exact hJ3, hit3, (Array.getElem?_eq_some_iff.1 hit3).1⟩
        gi_wp2_with fail
        go_roundw
        all_goals first | exact HST3.out | ((repeat apply Exists.intro); exact ⟨HST3.out, rfl⟩) | (simp [intOf]; done) | (simp [intOf]; omega) | omega
      · gi_wp2_with fail
        refine bodyPost_ret (results_none rfl _ _ _) rfl ?_
        exact ⟨⟨_, rfl⟩, .inr ⟨_, ⟨q, hlt, by rw [letN_succ]⟩, hJx3⟩⟩
    · obtain rfl : q = s.size := by omega
      have hnx : ∀ ty, (Instr.next (.pointer (some ⟨I, 0, none⟩)) true ty).run Try.prog wu = .ok (.tuple #[.bool false]) wu := fun ty => Lib.run_next_end_at wu I s s.size ty hit (by omega)
      gi_wp2_with fail
      go_end0
      exact ⟨⟨_, rfl⟩, .inl ⟨_, rfl, hJq⟩⟩
end Go.Proofs.Ytnhobcfpipedmaa
namespace Go.Proofs.Ytnhobcfpipedmaa
open Go.RowKit
open Wd
set_option linter.unusedVariables false
theorem selK_bd {gs : List Rl} (hok : gOk gs = true) (l : Nat) : ∀ f k c, k < f → k < gs.length → 0 ≤ selF gs l f k c ∧ selF gs l f k c ≤ (lens gs).getD k 0
  | 0, _, _, h, _ => by omega
  | f + 1, k, c, h, hk => by
    have hp := lens_pos hk fun q hq _ => fits_at (gOk_iff.1 hok).2.1 q hq
    by_cases h0 : gs[k].L.size = 0
    · obtain ⟨a, b, ha, hb, hak, hbk, hs, p1, _, p2, _⟩ := pair_parts hok hk h0
      have e1 := selK_bd hok l f a c (by omega) (by omega)
      have e2 := selK_bd hok l f b (c - (taAt gs a).getD l 0) (by omega) (by omega)
      by_cases h3 : c < (taAt gs a).getD l 0
      · rw [sel_left hk h0 ha h3]; omega
      · rw [sel_right hk h0 ha hb h3]; omega
    · rw [sel_letter hk h0]; omega
theorem shortT_bd {gs : List Rl} (hok : gOk gs = true) (l : Nat) (k : Int) (hk : 0 ≤ k) : 0 ≤ shortT gs l k ∧ shortT gs l k ≤ 1000000000000001 := by
  unfold shortT
  split
  · omega
  · next h =>
    rcases Nat.eq_zero_or_pos gs.length with h0 | h0
    · exfalso; apply h; unfold totT; rw [if_pos h0]; exact hk
    · have h1 := selK_bd hok l gs.length (gs.length - 1) k (by omega) (by omega)
      have h2 := small_at (gOk_iff.1 hok).2.2 (gs.length - 1) (by omega)
      omega
set_option maxRecDepth 100000 in
set_option maxHeartbeats 1600000 in
theorem placeIn_any (fv gv : Value) (gs : List Rl) (l : Nat) (k : Int) (lo : Nat) (w : World) (hok : gOk gs = true) (hr : Rules w gv gs) (h : IsTa w lo fv gv gs) (hl : l < 4) (hk : 0 ≤ k ∧ k ≤ 9223372036854775807) :
    Calls Try.prog 151 #[fv, .int .i64 (l : Int), .int .i64 k] w fun e w' => e = .returned (.tuple #[.int .i64 (shortT gs l k - 1), .bool (decide (k < totT gs l))]) ∧ Below w.heap.size w w' := by
  obtain ⟨A1, c1, A2, c2, hfv, _, _⟩ := h.shape
  obtain ⟨A, c, hgv, _⟩ := id hr
  obtain ⟨hF, hL, hK, hb, hs3⟩ := al3 w (.cells (taAll gv (.slice A1 gs.length c1) (.slice A2 gs.length c2)) 154) (.cells #[.int .i64 (l : Int)] 3) (.cells #[.int .i64 k] 2)
  have cl := cell_of_row _ _ 0 _ _ _ hL
  have ck := cell_of_row _ _ 0 _ _ _ hK
  have HSH := Lib.hid (taShort_any fv gv gs l k (w.heap.size + 1) (w.heap.size + 2) lo _ hok (hr.kept hb) (h.kept hb) hl hk cl ck)
  have hbd := shortT_bd hok l k hk.1
  have HB := Lib.hid hb
  obtain ⟨d, hu, hd⟩ := und_taFold
  have HU := Lib.hid (And.intro hu hd)
  subst hfv hgv
  have HSF := Lib.hid (size_taFold (.slice A gs.length c) (.slice A1 gs.length c1) (.slice A2 gs.length c2))
  have HF := Lib.hid hF
  generalize shortT gs l k = R at *
  generalize decide (k < totT gs l) = B at *
  obtain ⟨R1, R2⟩ := hbd
  clear h hr hF hL hK hb hs3 cl ck hu hd
  go_enter Try.func151, Try.ntmps151
  go_upto_region 1 with fail
  change Code.wp _ _ _ _ (((w.alloc (.cells (taAll (.slice A gs.length c) (.slice A1 gs.length c1) (.slice A2 gs.length c2)) 154)).alloc (.cells #[.int .i64 (l : Int)] 3)).alloc (.cells #[.int .i64 k] 2))
  generalize ((w.alloc (.cells (taAll (.slice A gs.length c) (.slice A1 gs.length c1) (.slice A2 gs.length c2)) 154)).alloc (.cells #[.int .i64 (l : Int)] 3)).alloc (.cells #[.int .i64 k] 2) = w3 at *
  go_wp2_with (with_reducible refine wpList_load_rowD HU.out.2 rfl 154 _ rfl w.heap.size rfl 154 _ _ HF.out HU.out.1 HSF.out ?_)
  refine HSH.out.mono ?_
  rintro e w4 ⟨rfl, hB4⟩
  have HB4 := Lib.hid (HB.out.trans (hB4.mono HB.out.size))
  clear hB4
  go_wp2_with fail
  go_ret2
  exact ⟨rfl, HB4.out⟩
end Go.Proofs.Ytnhobcfpipedmaa
namespace Go.Proofs.Ytnhobcfpipedmaa
open Go.RowKit
open Wd
set_option linter.unusedVariables false
theorem idxL_any (s : ByteArray) (h : isL s = true) (w : World) :
    Calls Try.prog 170 #[.string ⟨#[97, 98, 99, 100]⟩, .string s] w fun e w' => e = .returned (.int .i64 (lNo s : Int)) ∧ w' = w := by
  obtain ⟨c, rfl, h1, h2, h3⟩ := isL_byte h
  rw [h3]
  exact idx_letter c (c.toNat - 97) (by omega) (by omega) w
theorem rank_impl {gs : List Rl} (hok : gOk gs = true) {l : Nat} (hl : l < 4) {n : Int} (hn : 0 ≤ n ∧ n ≤ wordLen gs) : (taPart gs 0 n).getD l 0 = rankF gs (taAt gs) l gs.length (gs.length - 1) n := by
  rcases Nat.eq_zero_or_pos gs.length with h0 | h0
  · have := wordLen_zero h0
    obtain rfl : n = 0 := by omega
    rw [h0]
    unfold taPart
    rw [if_pos rfl, taNil_get l hl]
    rfl
  · exact taPart_get hok h0 l hl n hn.1
end Go.Proofs.Ytnhobcfpipedmaa
namespace Go.Proofs.Ytnhobcfpipedmaa
open Go.RowKit
open Wd
set_option linter.unusedVariables false

/-- behind a parameter's box -/
theorem rules_gp {w : World} {v : Value} {gs : List Rl} (h : Rules w v gs) (t : TypeId) : GP (w.alloc (.cells #[v] t)) w.heap.size gs :=
  ⟨v, cell_new w v t, h.kept ((Below.refl _ w).alloc (Nat.le_refl _) _)⟩

/-- the answer of LengthOf -/
def lenAns (gs : List Rl) : Int × Int := if gOk gs then (wordLen gs, 0) else (0, 1)

theorem implLengthOf (v : Value) (gs : List Rl) (w : World) (hf : FewR gs) (hr : Rules w v gs) :
    Calls Try.prog 56 #[.agg #[v]] w fun e w' => e = .returned (.tuple #[.int .i64 (lenAns gs).1, .int .i64 (lenAns gs).2]) ∧ Below w.heap.size w w' := by
  have hb := (Below.refl _ w).alloc (Nat.le_refl _) (.cells #[v] 31)
  have h1 := len.vlen_any v gs _ hf (hr.kept hb)
  have H1 := Lib.hid h1
  have HB := Lib.hid hb
  have hn := hf.len
  obtain ⟨A, c, rfl, _⟩ := hr
  clear h1 hb
  unfold lenAns
  cases hok : gOk gs
  all_goals
    have HK := Lib.hid hok
    unfold LensPost at H1
    rw [hok] at H1
    clear hok
    go_enter Try.func56, Try.ntmps56
    go_wp2_with fail
    refine H1.out.mono ?_
    rintro e w1 ⟨x, rfl, ho, hB1⟩
    have HO := Lib.hid ho
    have HB1 := Lib.hid hB1
    clear hB1 ho
    go_wp2_with fail
  · go_ret2
    exact ⟨rfl, HB.out.trans (HB1.out.mono (by simp))⟩
  · refine (wordLength_any x gs _ w1 hn (HO.out trivial)).mono ?_
    rintro e w2 ⟨rfl, rfl⟩
    go_wp2_with fail
    go_ret2
    exact ⟨rfl, HB.out.trans (HB1.out.mono (by simp))⟩
end Go.Proofs.Ytnhobcfpipedmaa
namespace Go.Proofs.Ytnhobcfpipedmaa
open Go.RowKit
open Wd
set_option linter.unusedVariables false

def encB (c : UInt8) : Value := .int .u8 c.toNat

theorem reverse_byte (blk off cap : Nat) (zs : List UInt8) (w : World) (hH : Sort.Holds encB w blk off zs.toArray) (hsz : zs.length ≤ 9223372036854775807) :
    Calls Try.prog 113 #[.slice (some ⟨blk, off, none⟩) zs.length cap] w fun e w' => e = .returned (.tuple #[]) ∧ ∃ n, w' = Sort.putRow encB (Sort.ahead w n) blk off zs.reverse.toArray :=
  AnyE.slices_Reverse Try.laysRev encB (fun _ => rfl) blk off cap zs w hH hsz

theorem holds_conv (w : World) (s : ByteArray) (cap : Nat) (e : TypeId) : Sort.Holds encB (w.alloc (.cells (bytesRow s cap) e ((bytesRow s cap).size, (bytesRow s cap).size + 1))) w.heap.size 0 s.data.toList.toArray := by
  intro j hj
  have hj' : j < s.data.size := by simpa using hj
  have hsz : j < (bytesRow s cap).size := (Array.getElem?_eq_some_iff.1 (bytesRow_at s cap j hj')).1
  constructor
  · rw [Nat.zero_add, World.cell?_alloc_mark, bytesRow_at s cap j hj', getElem!_pos (s.data.toList.toArray) j hj]
    simp [encB]
  · rw [Nat.zero_add, World.frozen?_alloc_mark]
    simp; omega

set_option maxHeartbeats 400000 in
theorem implTurnedL (s : ByteArray) (w : World) (hs : s.size ≤ 1048576) :
    Calls Try.prog 55 #[.string s] w fun e w' => e = .returned (.string ⟨s.data.toList.reverse.toArray⟩) ∧ Below w.heap.size w w' := by
  have hconv := run_bytes_of_string (P := Try.prog) w 9 125 5 s Try.underlying9 Try.underlying125 Try.underlying5
  have hH := holds_conv w.drew s (grownCap w s.size 0 5) 5
  generalize grownCap w s.size 0 5 = cap at hconv hH
  have hbel : Below w.heap.size w (w.drew.alloc (.cells (bytesRow s cap) 5 ((bytesRow s cap).size, (bytesRow s cap).size + 1))) := (Below.refl _ w).drew.alloc (Nat.le_refl _) _
  have hlen : s.data.toList.length = s.size := by simp
  have hsz : (World.drew w).heap.size = w.heap.size := rfl
  rw [hsz] at hH
  generalize w.drew.alloc (.cells (bytesRow s cap) 5 ((bytesRow s cap).size, (bytesRow s cap).size + 1)) = w1 at hconv hH hbel
  have hrev := reverse_byte w.heap.size 0 cap s.data.toList w1 hH (by rw [hlen]; omega)
  rw [hlen] at hrev
  have HR := Lib.hid hrev
  have HH := Lib.hid hH
  clear hH hrev hlen hsz
  go_enter Try.func55, Try.ntmps55
  go_wp2_with fail
  refine HR.out.mono ?_
  rintro e w2 ⟨rfl, n, hw2⟩
  have hh2 : Sort.Holds encB w2 w.heap.size 0 s.data.toList.reverse.toArray := by
    rw [hw2]; exact Sort.holds_putRow encB _ _ _ _ _ (by intro j hj; exact HH.out j hj) (by simp)
  have hb2 : Below w.heap.size w w2 := by rw [hw2]; exact Lib.below_putRow hbel (Nat.le_refl _)
  have hback := run_convert_bytes_back (P := Try.prog) w2 125 9 5 ⟨w.heap.size, 0, none⟩ cap s.data.toList.reverse Try.underlying125 Try.underlying5 Try.underlying9 (fun j hj => by
    have := (hh2 j (by simpa using hj)).1
    rw [Nat.zero_add] at this
    rw [show (⟨w.heap.size, 0, none⟩ : Addr).add j = ⟨w.heap.size, j, none⟩ from by rw [Addr.add_lit, Nat.zero_add], this]
    simp at hj
    simp [encB, getElem!_pos, hj])
  have hl2 : s.data.toList.reverse.length = s.size := by simp
  rw [hl2] at hback
  clear hh2 hw2 hl2
  go_wp2
  go_ret
  exact ⟨rfl, hb2⟩

theorem implTurned (s : ByteArray) (w : World) (hs : s.size ≤ 1000000) :
    Calls Try.prog 55 #[.string s] w fun e w' => e = .returned (.string ⟨s.data.toList.reverse.toArray⟩) ∧ Below w.heap.size w w' := implTurnedL s w (by omega)
end Go.Proofs.Ytnhobcfpipedmaa
namespace Go.Proofs.Ytnhobcfpipedmaa
open Go.RowKit
open Wd
set_option linter.unusedVariables false

namespace Wd
def turnR (x : Rl) : Rl := ⟨x.L, x.r, x.l⟩
def turnK (gs : List Rl) (k : Nat) : List Rl := (gs.take k).map turnR ++ gs.drop k
theorem turnK_len (gs : List Rl) (k : Nat) (h : k ≤ gs.length) : (turnK gs k).length = gs.length := by simp [turnK]; omega
theorem turnK_zero (gs : List Rl) : turnK gs 0 = gs := by simp [turnK]
theorem turnK_all (gs : List Rl) : turnK gs gs.length = gs.map turnR := by simp [turnK]
theorem turnK_get (gs : List Rl) (k : Nat) (h : k < gs.length) : (turnK gs k)[k]? = some gs[k] := by
  have h1 : ((gs.take k).map turnR).length = k := by simp; omega
  rw [turnK, List.getElem?_append_right (by omega), h1, Nat.sub_self, List.getElem?_drop]
  simp [h]
theorem turnK_set (gs : List Rl) (k : Nat) (h : k < gs.length) : (turnK gs k).set k (turnR gs[k]) = turnK gs (k + 1) := by
  have h1 : ((gs.take k).map turnR).length = k := by simp; omega
  unfold turnK
  rw [List.set_append_right _ _ (by omega), h1, Nat.sub_self, List.drop_eq_getElem_cons h, List.set_cons_zero, List.take_succ_eq_append_getElem h, List.map_append, List.append_assoc]
  rfl
theorem rv_set2 (gs : List Rl) (k : Nat) (h : k < gs.length) (l r : Int) :
    ((rv gs).set (k * 3 + 1) (.int .i64 l)).set (k * 3 + 2) (.int .i64 r) = rv (gs.set k ⟨gs[k].L, l, r⟩) := by
  induction gs generalizing k with
  | nil => simp at h
  | cons y gs ih =>
    cases k with
    | zero => rfl
    | succ k =>
      have h1 := ih k (by simpa using h)
      have e : rv (y :: gs) = .string y.L :: .int .i64 y.l :: .int .i64 y.r :: rv gs := rfl
      have hk : k < gs.length := by simpa using h
      have e2 : rv ((y :: gs).set (k + 1) ⟨(y :: gs)[k + 1].L, l, r⟩) = .string y.L :: .int .i64 y.l :: .int .i64 y.r :: rv (gs.set k ⟨(gs[k]'hk).L, l, r⟩) := rfl
      rw [e, e2, ← h1, show (k + 1) * 3 + 1 = k * 3 + 1 + 1 + 1 + 1 from by omega, show (k + 1) * 3 + 2 = k * 3 + 2 + 1 + 1 + 1 from by omega]
      simp only [List.set_cons_succ]
/-- the answer of TurnGrammar -/
def gramTurnGrammar (gs : List Rl) : List Rl × Int := if gOk gs then (gs.map turnR, 0) else ([], 1)
theorem gramTurnGrammar_len (gs : List Rl) (hf : FewR gs) : (gramTurnGrammar gs).1.length ≤ 1048576 := by
  unfold gramTurnGrammar
  split
  · simp; exact hf.len
  · simp
end Wd
theorem turn_row {w : World} {B e M n c k : Nat} {gs : List Rl} (hk : k < gs.length) (h : w.ownsRow B e 3 (.slice (some ⟨M, 0, none⟩) n c) n (rv (turnK gs k))) :
    ((w.setCell ⟨M, k * 3 + 1, none⟩ (.int .i64 gs[k].r)).setCell ⟨M, k * 3 + 2, none⟩ (.int .i64 gs[k].l)).ownsRow B e 3 (.slice (some ⟨M, 0, none⟩) n c) n (rv (turnK gs (k + 1))) := by
  have hl := turnK_len gs k (Nat.le_of_lt hk)
  have hg := turnK_get gs k hk
  rw [List.getElem?_eq_getElem (by omega)] at hg
  injection hg with hg
  have h1 := ((h.stored (k * 3 + 1) (.int .i64 gs[k].r)).1.stored (k * 3 + 2) (.int .i64 gs[k].l)).1
  rw [rv_set2 _ k (by omega), hg, show (⟨gs[k].L, gs[k].r, gs[k].l⟩ : Rl) = turnR gs[k] from rfl, turnK_set gs k hk] at h1
  exact h1
theorem turn_cells {w : World} {B e M c k : Nat} {gs : List Rl} {n : Nat} (hn : n = gs.length) (hk : k < gs.length) (h : w.ownsRow B e 3 (.slice (some ⟨M, 0, none⟩) n c) n (rv (turnK gs k))) :
    (w.cell? ⟨M, k * 3, none⟩ = some (.string gs[k].L) ∧ w.cell? ⟨M, k * 3 + 1, none⟩ = some (.int .i64 gs[k].l) ∧ w.cell? ⟨M, k * 3 + 2, none⟩ = some (.int .i64 gs[k].r)) ∧ w.frozen? ⟨M, k * 3 + 1, none⟩ = false ∧ w.frozen? ⟨M, k * 3 + 2, none⟩ = false := by
  have hl := turnK_len gs k (Nat.le_of_lt hk)
  have hg := turnK_get gs k hk
  rw [List.getElem?_eq_getElem (by omega)] at hg
  injection hg with hg
  have hkl : k < (turnK gs k).length := by omega
  refine ⟨⟨?_, ?_, ?_⟩, h.frozenAt _, h.frozenAt _⟩
  · rw [h.cellAt (k * 3) (by omega)]; have := rv_get _ k hkl 0 (by omega); rw [hg] at this; exact this
  · rw [h.cellAt (k * 3 + 1) (by omega)]; have := rv_get _ k hkl 1 (by omega); rw [hg] at this; exact this
  · rw [h.cellAt (k * 3 + 2) (by omega)]; have := rv_get _ k hkl 2 (by omega); rw [hg] at this; exact this
end Go.Proofs.Ytnhobcfpipedmaa
namespace Go.Proofs.Ytnhobcfpipedmaa
open Go.RowKit
open Wd
set_option linter.unusedVariables false

def TRelI (gs : List Rl) (w : World) (t : TypeId) (yv : Value) (i : Value) (wr : World) : Prop :=
  ∃ k : Nat, k ≤ gs.length ∧ i = .int .i64 k ∧ wr.ownsRow (w.heap.size + 2) t 3 yv gs.length (rv (turnK gs k)) ∧ Below w.heap.size w wr ∧ Var wr (w.heap.size + 1) (.slice none 0 0) 31

set_option maxRecDepth 100000 in
set_option maxHeartbeats 6400000 in
theorem implTurnGrammar (v : Value) (gs : List Rl) (w : World) (hf : FewR gs) (hr : Rules w v gs) :
    Calls Try.prog 53 #[.agg #[v]] w fun e w' => ∃ y, e = .returned (.tuple #[.agg #[y], .int .i64 (gramTurnGrammar gs).2]) ∧ OwnsR w' w.heap.size y (gramTurnGrammar gs).1 ∧ Below w.heap.size w w' := by
  have hb : Below w.heap.size w ((w.alloc (.cells #[v] 31)).alloc (.cells #[.slice none 0 0] 31)) := ((Below.refl _ w).alloc (Nat.le_refl _) _).alloc (by simp) _
  have hv0 : Var ((w.alloc (.cells #[v] 31)).alloc (.cells #[.slice none 0 0] 31)) w.heap.size v 31 := (Var.new w v 31).kept ((Below.refl _ _).alloc (Nat.le_refl _) _)
  have hv : Var ((w.alloc (.cells #[v] 31)).alloc (.cells #[.slice none 0 0] 31)) (w.heap.size + 1) (.slice none 0 0) 31 := by
    have := Var.new (w.alloc (.cells #[v] 31)) (.slice none 0 0) 31
    rwa [show (w.alloc (.cells #[v] 31)).heap.size = w.heap.size + 1 from by simp] at this
  have h1 := implValidGrammar v gs _ hf (hr.kept hb)
  have hn := hf.len
  have HR := Lib.hid hr
  obtain ⟨A, c, rfl, _⟩ := hr
  have HB := Lib.hid hb
  have HV := Lib.hid hv
  have HV0 := Lib.hid hv0
  unfold gramTurnGrammar
  cases hok : gOk gs
  · rw [hok] at h1
    have H1 := Lib.hid h1
    clear h1 hok hb hv hv0
    go_enter Try.func53, Try.ntmps53
    go_wp2_with fail
    refine H1.out.mono ?_
    rintro e w1 ⟨rfl, hB1⟩
    have HB1 := Lib.hid (HB.out.trans (hB1.mono (by simp; omega)))
    obtain ⟨vc, vf⟩ := (HV.out.kept hB1).cell
    clear hB1
    go_wp2_with fail
    refine bodyPost_ret (v := .tuple #[.agg #[.slice none 0 0], .int .i64 1]) (by simp [results, Try.results53, go_sem, vc]) rfl ⟨_, rfl, World.ownsRow_nil _ _ _ _, HB1.out.setCell (by simp) _⟩
  · rw [hok] at h1
    have H1 := Lib.hid h1
    clear h1 hok hb hv hv0
    go_enter Try.func53, Try.ntmps53
    go_wp2_with fail
    refine H1.out.mono ?_
    rintro e w1 ⟨rfl, hB1⟩
    have HV1 := Lib.hid (HV.out.kept hB1)
    have HB1 := Lib.hid (HB.out.trans (hB1.mono (by simp; omega)))
    obtain ⟨z0, z1⟩ := (HV0.out.kept hB1).cell
    clear hB1
    go_wp2_with fail
    refine (clone_any _ gs w1 hn (HR.out.kept HB1.out)).mono ?_
    rintro e w2 ⟨y, rfl, ho, hB2⟩
    have HO2 := Lib.hid ho
    obtain ⟨Ay, cy, rfl⟩ := own_slice ho
    have HV2 := Lib.hid (HV1.out.kept hB2)
    have HB2 := Lib.hid (HB1.out.trans (hB2.mono HB1.out.size))
    have hs1 : w.heap.size + 1 < w1.heap.size := HV1.out.lt
    have hst : TRelI gs w 94 (.slice Ay gs.length cy) (.int .i64 0) w2 :=
      ⟨0, Nat.zero_le _, rfl, by rw [turnK_zero]; exact own_lower HO2.out (by omega), HB2.out, HV2.out⟩
    have HST := Lib.hid hst
    clear hB2 ho hs1 hst z0 z1
    go_wp2_with fail
    obtain ⟨n, hng⟩ : ∃ n, n = gs.length := ⟨_, rfl⟩
    rw [← hng] at hn HST ⊢
    have HN := Lib.hid hng
    clear hng
    go_loopw [5, 6, 16] (fun _ _ i wr => TRelI gs w 94 (.slice Ay n cy) i wr) (fun _ _ i _ => n - (intOf i).toNat)
    case atStart => exact HST.out
    case round =>
      obtain ⟨k, hk, rfl, hown, hB, hvr⟩ := hrel
      obtain ⟨wo, rfl⟩ : ∃ wo : World, wo = wr := ⟨_, rfl⟩
      rw [← HN.out] at hown
      have HO := Lib.hid hown
      have HVR := Lib.hid hvr
      have HBo := Lib.hid hB
      by_cases hlt : k < n
      · have hkg : k < gs.length := by rw [← HN.out]; exact hlt
        rcases hown.2 with ⟨_, h0⟩ | ⟨M, cap, cur, hAy, hMb, hMh, _⟩
        · omega
        injection hAy with hAy _ hcy
        subst hAy hcy
        obtain ⟨⟨c0, c1, c2⟩, f1, f2⟩ := turn_cells HN.out hkg HO.out
        have hMlt : M < wo.heap.size := (Array.getElem?_eq_some_iff.1 hMh).1
        have t1 : (0 : Int) ≤ (k : Int) := by omega
        have t2 : (k : Int) < (n : Int) := by omega
        clear hown hB hvr hMh
        go_wp2_with fail
        obtain ⟨o, ho⟩ : ∃ o, o = Obj.cells #[.string gs[k].L, .int .i64 gs[k].l, .int .i64 gs[k].r] 94 := ⟨_, rfl⟩
        have hoK := heap_alloc_new wo o
        rw [← ho]
        have own3 := World.ownsRow.alloc HO.out o
        have hB3 := HBo.out.alloc HBo.out.size o
        have hV3 := HVR.out.kept ((Below.refl _ wo).alloc (Nat.le_refl _) o)
        have k1 : (wo.alloc o).cell? ⟨wo.heap.size, 1, none⟩ = some (.int .i64 gs[k].l) := by rw [ho] at hoK ⊢; rw [cell_of_row _ _ _ _ _ _ hoK]; rfl
        have k2 : (wo.alloc o).cell? ⟨wo.heap.size, 2, none⟩ = some (.int .i64 gs[k].r) := by rw [ho] at hoK ⊢; rw [cell_of_row _ _ _ _ _ _ hoK]; rfl
        obtain ⟨K, hK⟩ : ∃ K, K = wo.heap.size := ⟨_, rfl⟩
        rw [← hK] at k1 k2 hMlt ⊢
        generalize wo.alloc o = w3 at *
        clear hoK ho c0 c1 c2 f1 f2 hK
        obtain ⟨⟨c0, c1, c2⟩, f1, f2⟩ := turn_cells HN.out hkg own3
        have hrow := turn_row hkg own3
        have HROW := Lib.hid hrow
        have HO3 := Lib.hid own3
        have HB3 := Lib.hid hB3
        have HV3 := Lib.hid hV3
        have hMw : w.heap.size + 2 ≤ M := hMb
        have HNWd : Hid (∀ q, TRelI gs w 94 (.slice (some ⟨M, 0, none⟩) n cy) (.int .i64 ((k + 1 : Nat) : Int)) (((w3.setCell ⟨M, k * 3 + 1, none⟩ (.int .i64 gs[k].r)).setCell ⟨M, k * 3 + 2, none⟩ (.int .i64 gs[k].l)).drewN q)) := Lib.hid fun q =>
          ⟨k + 1, hkg, rfl, by rw [← HN.out]; exact HROW.out, below_drewN ((HB3.out.setCell (by simp; omega) _).setCell (by simp; omega) _) q, ((HV3.out.far _ _ (by simp; omega)).far _ _ (by simp; omega)).drewN q⟩
        clear own3 hB3 hV3 hrow c0
        go_region
        go_wp2_with fail
        go_roundw
        case rel => first | exact HNWd.out 0 | exact HNWd.out 1 | exact HNWd.out _ | ((repeat apply Exists.intro); exact ⟨HNWd.out 1, rfl⟩)
        case measure => simp [intOf]; omega
      · have hkn : k = gs.length := by have := HN.out; omega
        obtain ⟨vc, vf⟩ := hvr.cell
        have HOF : Hid (∀ b u, b < w.heap.size + 2 → OwnsR (wo.setCell ⟨b, 0, none⟩ u) w.heap.size (.slice Ay n cy) (gs.map turnR)) := Lib.hid fun b u hb => by
          unfold OwnsR
          rw [List.length_map, ← HN.out]
          rw [hkn, turnK_all] at hown
          exact own_lower (own_setLow hown ⟨b, 0, none⟩ u (by simpa using hb)) (by omega)
        clear hown hB hvr hkn
        go_wp2_with fail
        refine bodyPost_ret (v := .tuple #[.agg #[.slice Ay n cy], .int .i64 0]) (by simp [results, Try.results53, go_sem, vc]) rfl ⟨_, rfl, HOF.out _ _ (by omega), HBo.out.setCell (by simp) _⟩
end Go.Proofs.Ytnhobcfpipedmaa
namespace Go.Proofs.Ytnhobcfpipedmaa
open Go.RowKit
open Wd
set_option linter.unusedVariables false
namespace Wd
theorem sel_bd {gs : List Rl} (hok : gOk gs = true) {l : Nat} (hl : l < 4) : ∀ f k (c : Int), k < f → k < gs.length → 0 ≤ c → c < (taAt gs k).getD l 0 → 0 ≤ selF gs l f k c ∧ selF gs l f k c < (lens gs).getD k 0
  | 0, _, _, h, _, _, _ => by omega
  | f + 1, k, c, h, hk, hc, hlt => by
    have hp := lens_pos hk fun q hq _ => fits_at (gOk_iff.1 hok).2.1 q hq
    by_cases h0 : gs[k].L.size = 0
    · obtain ⟨a, b, ha, hb, hak, hbk, hs2, p1, _, p2, _⟩ := pair_parts hok hk h0
      have hs : (taAt gs k).getD l 0 = (taAt gs a).getD l 0 + (taAt gs b).getD l 0 := by
        rw [← taJ_get _ _ l hl]
        exact congrArg (fun q => q.getD l 0) (valAt_pair (gOk_iff.1 hok).2.1 hk h0 ha hb hak hbk)
      by_cases h3 : c < (taAt gs a).getD l 0
      · rw [sel_left hk h0 ha h3]
        have := sel_bd hok hl f a c (by omega) (by omega) hc h3
        omega
      · rw [sel_right hk h0 ha hb h3]
        have := sel_bd hok hl f b (c - (taAt gs a).getD l 0) (by omega) (by omega) (by omega) (by omega)
        omega
    · rw [sel_letter hk h0]
      omega
/-- how many of a letter stand ahead of a place -/
def rkAt (gs : List Rl) (l : Nat) (n : Int) : Int := rankF gs (taAt gs) l gs.length (gs.length - 1) n
/-- the places of a text's letters, each the first behind the one before -/
def embL (gs : List Rl) : List UInt8 → Int → List Int
  | [], _ => []
  | c :: cs, fr => if totT gs (c.toNat - 97) ≤ rkAt gs (c.toNat - 97) fr then [] else selF gs (c.toNat - 97) gs.length (gs.length - 1) (rkAt gs (c.toNat - 97) fr) :: embL gs cs (selF gs (c.toNat - 97) gs.length (gs.length - 1) (rkAt gs (c.toNat - 97) fr) + 1)
theorem embL_drop {gs : List Rl} {s : ByteArray} {k : Nat} (h : k < s.size) (fr : Int) : embL gs (s.data.toList.drop k) fr = if totT gs (s[k].toNat - 97) ≤ rkAt gs (s[k].toNat - 97) fr then [] else selF gs (s[k].toNat - 97) gs.length (gs.length - 1) (rkAt gs (s[k].toNat - 97) fr) :: embL gs (s.data.toList.drop (k + 1)) (selF gs (s[k].toNat - 97) gs.length (gs.length - 1) (rkAt gs (s[k].toNat - 97) fr) + 1) := by
  have h' : k < s.data.toList.length := by simpa using h
  rw [List.drop_eq_getElem_cons h']
  rfl
theorem rkAt_nonneg {gs : List Rl} (hok : gOk gs = true) {l : Nat} (hl : l < 4) (n : Int) : 0 ≤ rkAt gs l n ∧ rkAt gs l n ≤ 9223372036854775807 := by
  unfold rkAt
  rcases Nat.eq_zero_or_pos gs.length with h0 | h0
  · rw [h0, rankF]; omega
  · have h3 := small_at (gOk_iff.1 hok).2.2 (gs.length - 1) (by omega)
    have key : ∀ f k (n : Int), k < gs.length → 0 ≤ rankF gs (taAt gs) l f k n ∧ rankF gs (taAt gs) l f k n ≤ (lens gs).getD k 0 := by
      intro f
      induction f with
      | zero =>
        intro k n hk
        have := lens_pos hk fun q hq _ => fits_at (gOk_iff.1 hok).2.1 q hq
        rw [rankF]; omega
      | succ f ih =>
        intro k n hk
        have hp := lens_pos hk fun q hq _ => fits_at (gOk_iff.1 hok).2.1 q hq
        have hk' := (taAt_ok hok hk).2 l hl
        by_cases h1 : n ≤ 0
        · rw [rank_none h1]; omega
        · by_cases h2 : (lens gs).getD k 0 ≤ n
          · rw [rank_all h1 h2]; exact hk'
          · have h0 : gs[k].L.size = 0 := by
              by_cases h0 : gs[k].L.size = 0
              · exact h0
              · have h1 : (lens gs).getD k 0 = 1 := vals_letter _ gs k hk h0
                omega
            obtain ⟨a, b, ha, hb, hak, hbk, hs2, p1, _, p2, _⟩ := pair_parts hok hk h0
            by_cases h3 : (lens gs).getD a 0 ≤ n
            · rw [rank_right hk ha hb h1 h2 h3]
              have := ih b (n - (lens gs).getD a 0) (by omega)
              have := (taAt_ok hok (show a < gs.length by omega)).2 l hl
              omega
            · rw [rank_left hk ha h1 h2 h3]
              have := ih a n (by omega)
              omega
    have := key gs.length (gs.length - 1) n (by omega)
    omega
/-- how much of a text is embedded, and the code -/
def embStG (gs : List Rl) (s : ByteArray) : Int × Int := if (gOk gs && okL s.data.toList) = true then (((embL gs s.data.toList 0).length : Nat), 0) else (0, 1)
/-- where a text is first embedded, and the code -/
def embFiG (gs : List Rl) (s : ByteArray) : List Int × Int := if (gOk gs && okL s.data.toList) = true then (if (embL gs s.data.toList 0).length < s.size then ([], 6) else (embL gs s.data.toList 0, 0)) else ([], 1)
theorem embL_len (gs : List Rl) : ∀ (l : List UInt8) (fr : Int), (embL gs l fr).length ≤ l.length
  | [], _ => Nat.le_refl _
  | c :: l, fr => by
    unfold embL
    split
    · simp
    · have := embL_len gs l (selF gs (c.toNat - 97) gs.length (gs.length - 1) (rkAt gs (c.toNat - 97) fr) + 1)
      simp only [List.length_cons]
      omega
theorem embFiG_len (gs : List Rl) (s : ByteArray) : (embFiG gs s).1.length ≤ 1000000 := by
  unfold embFiG
  split
  · next h =>
    split
    · simp
    · have h1 := embL_len gs s.data.toList 0
      rw [Bool.and_eq_true] at h
      have h2 := okL_len h.2
      simp only
      omega
  · simp
end Wd
end Go.Proofs.Ytnhobcfpipedmaa
namespace Go.Proofs.Ytnhobcfpipedmaa
open Go.RowKit
open Wd
set_option linter.unusedVariables false
namespace Wd
theorem valsOn_turn (gs : List Rl) : ∀ d : List Int, valsOn (fun a b => a + b) d (gs.map turnR) = valsOn (fun a b => a + b) d gs := by
  induction gs with
  | nil => intro d; rfl
  | cons x xs ih =>
    intro d
    have h1 : val1 (fun a b => a + b) d (turnR x) = val1 (fun a b => a + b) d x := by
      unfold val1 turnR
      simp only
      split
      · exact Int.add_comm _ _
      · rfl
    have h2 := ih (d ++ [val1 (fun a b => a + b) d x])
    unfold valsOn at h2 ⊢
    rw [List.map_cons, List.foldl_cons, List.foldl_cons, h1]
    exact h2
theorem lens_turn (gs : List Rl) : lens (gs.map turnR) = lens gs := valsOn_turn gs []
theorem ok_turn (x : Rl) (n : Nat) (h : x.ok n = true) : (turnR x).ok n = true := by
  by_cases h0 : x.L.size = 0
  · have h1 := (ok_pair h0).1 h
    exact (ok_pair (x := turnR x) h0).2 ⟨h1.2, h1.1⟩
  · have h1 := (ok_letter h0).1 h
    exact (ok_letter (x := turnR x) h0).2 ⟨h1.1, h1.2.2, h1.2.1⟩
theorem turn_turn (gs : List Rl) : (gs.map turnR).map turnR = gs := by
  rw [List.map_map]
  have : (turnR ∘ turnR) = id := by funext x; rfl
  rw [this, List.map_id]
theorem fits_turn {gs : List Rl} (h : fits gs = true) : fits (gs.map turnR) = true := by
  refine decide_eq_true fun k hk => ?_
  rw [List.getElem_map]
  exact ok_turn _ _ (fits_at h k (by simpa using hk))
theorem gOk_turn {gs : List Rl} (h : gOk gs = true) : gOk (gs.map turnR) = true := by
  obtain ⟨h1, h2, h3⟩ := gOk_iff.1 h
  refine gOk_iff.2 ⟨by simpa using h1, fits_turn h2, decide_eq_true fun k hk => ?_⟩
  rw [lens_turn]
  exact small_at h3 k (by simpa using hk)
theorem wordLen_turn (gs : List Rl) : wordLen (gs.map turnR) = wordLen gs := by
  unfold wordLen
  rw [lens_turn, List.length_map]
theorem ta_turn {gs : List Rl} (hok : gOk gs = true) {l : Nat} (hl : l < 4) : ∀ n k, k < n → k < gs.length → (taAt (gs.map turnR) k).getD l 0 = (taAt gs k).getD l 0
  | 0, _, h, _ => by omega
  | n + 1, k, h, hk => by
    have hk' : k < (gs.map turnR).length := by simpa using hk
    have hg : (gs.map turnR)[k] = turnR gs[k] := by rw [List.getElem_map]
    by_cases h0 : gs[k].L.size = 0
    · obtain ⟨a, b, ha, hb, hak, hbk, hs2, p1, _, p2, _⟩ := pair_parts hok hk h0
      have h1 : (taAt gs k).getD l 0 = (taAt gs a).getD l 0 + (taAt gs b).getD l 0 := by
        rw [← taJ_get _ _ l hl]
        exact congrArg (fun q => q.getD l 0) (valAt_pair (gOk_iff.1 hok).2.1 hk h0 ha hb hak hbk)
      have h2 : (taAt (gs.map turnR) k).getD l 0 = (taAt (gs.map turnR) b).getD l 0 + (taAt (gs.map turnR) a).getD l 0 := by
        rw [← taJ_get _ _ l hl]
        exact congrArg (fun q => q.getD l 0) (valAt_pair (fits_turn (gOk_iff.1 hok).2.1) hk' (by rw [hg]; exact h0) (by rw [hg]; exact hb) (by rw [hg]; exact ha) hbk hak)
      rw [h1, h2, ta_turn hok hl n a (by omega) (by omega), ta_turn hok hl n b (by omega) (by omega)]
      omega
    · have h1 := valAt_letter (F := taF) (J := taJ) hk h0
      have h2 := valAt_letter (F := taF) (J := taJ) hk' (by rw [hg]; exact h0)
      unfold taAt
      rw [h1, h2, hg]
      rfl
theorem tot_turn {gs : List Rl} (hok : gOk gs = true) {l : Nat} (hl : l < 4) : totT (gs.map turnR) l = totT gs l := by
  unfold totT
  rw [List.length_map]
  split
  · rfl
  · exact ta_turn hok hl _ _ (Nat.lt_succ_self _) (by omega)
theorem rank_turn {gs : List Rl} (hok : gOk gs = true) {l : Nat} (hl : l < 4) : ∀ f k (n : Int), k < f → k < gs.length → rankF (gs.map turnR) (taAt (gs.map turnR)) l f k n = (taAt gs k).getD l 0 - rankF gs (taAt gs) l f k ((lens gs).getD k 0 - n)
  | 0, _, _, h, _ => by omega
  | f + 1, k, n, h, hk => by
    have hk' : k < (gs.map turnR).length := by simpa using hk
    have hg : (gs.map turnR)[k] = turnR gs[k] := by rw [List.getElem_map]
    have hp := lens_pos hk fun q hq _ => fits_at (gOk_iff.1 hok).2.1 q hq
    have hT := ta_turn hok hl (k + 1) k (by omega) hk
    have hlt : (lens (gs.map turnR)) = lens gs := lens_turn gs
    by_cases h1 : n ≤ 0
    · rw [rank_none h1, rank_all (by omega) (by omega)]; omega
    · by_cases h2 : (lens gs).getD k 0 ≤ n
      · rw [rank_all h1 (by rw [hlt]; exact h2), rank_none (by omega), hT]; omega
      · have h0 : gs[k].L.size = 0 := by
          by_cases h0 : gs[k].L.size = 0
          · exact h0
          · have h3 : (lens gs).getD k 0 = 1 := vals_letter _ gs k hk h0
            omega
        obtain ⟨a, b, ha, hb, hak, hbk, hs2, p1, _, p2, _⟩ := pair_parts hok hk h0
        have hs : (taAt gs k).getD l 0 = (taAt gs a).getD l 0 + (taAt gs b).getD l 0 := by
          rw [← taJ_get _ _ l hl]
          exact congrArg (fun q => q.getD l 0) (valAt_pair (gOk_iff.1 hok).2.1 hk h0 ha hb hak hbk)
        have hTb := ta_turn hok hl (b + 1) b (by omega) (by omega)
        have ha' : (gs.map turnR)[k].l = (b : Int) := by rw [hg]; exact hb
        have hb' : (gs.map turnR)[k].r = (a : Int) := by rw [hg]; exact ha
        have iha := rank_turn hok hl f a (n - (lens gs).getD b 0) (by omega) (by omega)
        have ihb := rank_turn hok hl f b n (by omega) (by omega)
        obtain ⟨f', rfl⟩ : ∃ f', f = f' + 1 := ⟨f - 1, by omega⟩
        by_cases h3 : (lens gs).getD b 0 ≤ n
        · rw [rank_right hk' ha' hb' h1 (by rw [hlt]; exact h2) (by rw [hlt]; exact h3), hlt, hTb, iha]
          by_cases h4 : (lens gs).getD a 0 ≤ (lens gs).getD k 0 - n
          · rw [rank_right hk ha hb (by omega) (by omega) h4, rank_none (f := f') (k := b) (by omega), rank_all (by omega) (by omega)]
            omega
          · rw [rank_left hk ha (by omega) (by omega) h4, show (lens gs).getD a 0 - (n - (lens gs).getD b 0) = (lens gs).getD k 0 - n from by omega]
            omega
        · rw [rank_left hk' ha' h1 (by rw [hlt]; exact h2) (by rw [hlt]; exact h3), ihb]
          rw [rank_right hk ha hb (by omega) (by omega) (by omega), show (lens gs).getD k 0 - n - (lens gs).getD a 0 = (lens gs).getD b 0 - n from by omega]
          omega
theorem sel_turn {gs : List Rl} (hok : gOk gs = true) {l : Nat} (hl : l < 4) : ∀ f k (c : Int), k < f → k < gs.length → 0 ≤ c → c < (taAt gs k).getD l 0 → selF (gs.map turnR) l f k c = (lens gs).getD k 0 - 1 - selF gs l f k ((taAt gs k).getD l 0 - 1 - c)
  | 0, _, _, h, _, _, _ => by omega
  | f + 1, k, c, h, hk, hc0, hc1 => by
    have hk' : k < (gs.map turnR).length := by simpa using hk
    have hg : (gs.map turnR)[k] = turnR gs[k] := by rw [List.getElem_map]
    have hlt : (lens (gs.map turnR)) = lens gs := lens_turn gs
    by_cases h0 : gs[k].L.size = 0
    · obtain ⟨a, b, ha, hb, hak, hbk, hs2, p1, _, p2, _⟩ := pair_parts hok hk h0
      have hs : (taAt gs k).getD l 0 = (taAt gs a).getD l 0 + (taAt gs b).getD l 0 := by
        rw [← taJ_get _ _ l hl]
        exact congrArg (fun q => q.getD l 0) (valAt_pair (gOk_iff.1 hok).2.1 hk h0 ha hb hak hbk)
      have hTb := ta_turn hok hl (b + 1) b (by omega) (by omega)
      have h0' : (gs.map turnR)[k].L.size = 0 := by rw [hg]; exact h0
      have ha' : (gs.map turnR)[k].l = (b : Int) := by rw [hg]; exact hb
      have hb' : (gs.map turnR)[k].r = (a : Int) := by rw [hg]; exact ha
      by_cases h3 : c < (taAt gs b).getD l 0
      · rw [sel_left hk' h0' ha' (by rw [hTb]; exact h3), sel_turn hok hl f b c (by omega) (by omega) hc0 h3, sel_right hk h0 ha hb (by omega), show (taAt gs k).getD l 0 - 1 - c - (taAt gs a).getD l 0 = (taAt gs b).getD l 0 - 1 - c from by omega]
        omega
      · rw [sel_right hk' h0' ha' hb' (by rw [hTb]; exact h3), hlt, hTb, sel_turn hok hl f a (c - (taAt gs b).getD l 0) (by omega) (by omega) (by omega) (by omega), sel_left hk h0 ha (by omega), show (taAt gs a).getD l 0 - 1 - (c - (taAt gs b).getD l 0) = (taAt gs k).getD l 0 - 1 - c from by omega]
        omega
    · have h3 : (lens gs).getD k 0 = 1 := vals_letter _ gs k hk h0
      have h0' : (gs.map turnR)[k].L.size ≠ 0 := by rw [hg]; exact h0
      rw [sel_letter hk h0, sel_letter hk' h0', h3]
      rfl
/-- the places of a text's letters from its end, each the last ahead of the one before; the text is given turned -/
def lasL (gs : List Rl) : List UInt8 → Int → List Int
  | [], _ => []
  | c :: cs, e => if rkAt gs (c.toNat - 97) e = 0 then [] else selF gs (c.toNat - 97) gs.length (gs.length - 1) (rkAt gs (c.toNat - 97) e - 1) :: lasL gs cs (selF gs (c.toNat - 97) gs.length (gs.length - 1) (rkAt gs (c.toNat - 97) e - 1))
theorem rk_turn {gs : List Rl} (hok : gOk gs = true) {l : Nat} (hl : l < 4) (e : Int) : rkAt (gs.map turnR) l (wordLen gs - e) = totT gs l - rkAt gs l e := by
  unfold rkAt totT wordLen
  rw [List.length_map]
  by_cases h0 : gs.length = 0
  · rw [if_pos h0, h0, rankF, rankF]; rfl
  · rw [if_neg h0, rank_turn hok hl gs.length (gs.length - 1) _ (by omega) (by omega)]
    congr 2
    omega
theorem rk_le {gs : List Rl} (hok : gOk gs = true) {l : Nat} (hl : l < 4) (e : Int) : rkAt gs l e ≤ totT gs l := by
  have h1 := rk_turn hok hl e
  have h2 := (rkAt_nonneg (gOk_turn hok) hl (wordLen gs - e)).1
  omega
theorem las_emb {gs : List Rl} (hok : gOk gs = true) : ∀ (l : List UInt8) (e : Int), l.all lt = true → embL (gs.map turnR) l (wordLen gs - e) = (lasL gs l e).map fun p => wordLen gs - 1 - p
  | [], _, _ => rfl
  | c :: cs, e, hc => by
    rw [List.all_cons, Bool.and_eq_true] at hc
    have hl4 : c.toNat - 97 < 4 := by
      have := hc.1
      simp [lt, UInt8.le_iff_toNat_le] at this
      omega
    rw [embL, lasL, rk_turn hok hl4, tot_turn hok hl4]
    have hn := (rkAt_nonneg hok hl4 e).1
    have hle := rk_le hok hl4 e
    by_cases h0 : rkAt gs (c.toNat - 97) e = 0
    · rw [if_pos (by omega), if_pos h0]; rfl
    · rw [if_neg (by omega), if_neg h0]
      have hg0 : 0 < gs.length := by
        rcases Nat.eq_zero_or_pos gs.length with h | h
        · exfalso
          apply h0
          unfold rkAt
          rw [h, rankF]
        · exact h
      have hT : totT gs (c.toNat - 97) = (taAt gs (gs.length - 1)).getD (c.toNat - 97) 0 := by unfold totT; rw [if_neg (by omega)]
      have hse := sel_turn hok hl4 gs.length (gs.length - 1) (totT gs (c.toNat - 97) - rkAt gs (c.toNat - 97) e) (by omega) (by omega) (by omega) (by omega)
      rw [← hT, show totT gs (c.toNat - 97) - 1 - (totT gs (c.toNat - 97) - rkAt gs (c.toNat - 97) e) = rkAt gs (c.toNat - 97) e - 1 from by omega] at hse
      rw [List.length_map, hse, List.map_cons, ← las_emb hok cs _ hc.2]
      have hw : (lens gs).getD (gs.length - 1) 0 = wordLen gs := rfl
      rw [hw]
      congr 2
      omega
theorem las_len (gs : List Rl) : ∀ (l : List UInt8) (e : Int), (lasL gs l e).length ≤ l.length
  | [], _ => Nat.le_refl _
  | c :: cs, e => by
    unfold lasL
    split
    · simp
    · have := las_len gs cs (selF gs (c.toNat - 97) gs.length (gs.length - 1) (rkAt gs (c.toNat - 97) e - 1))
      simp only [List.length_cons]
      omega
theorem las_mem {gs : List Rl} (hok : gOk gs = true) : ∀ (l : List UInt8) (e : Int), l.all lt = true → ∀ p ∈ lasL gs l e, 0 ≤ p ∧ p < wordLen gs
  | [], _, _ => fun p hp => by simp [lasL] at hp
  | c :: cs, e, hc => by
    rw [List.all_cons, Bool.and_eq_true] at hc
    have hl4 : c.toNat - 97 < 4 := by
      have := hc.1
      simp [lt, UInt8.le_iff_toNat_le] at this
      omega
    have hn := (rkAt_nonneg hok hl4 e).1
    have hle := rk_le hok hl4 e
    rw [lasL]
    by_cases h0 : rkAt gs (c.toNat - 97) e = 0
    · rw [if_pos h0]; intro p hp; simp at hp
    · rw [if_neg h0]
      have hg0 : 0 < gs.length := by
        rcases Nat.eq_zero_or_pos gs.length with h | h
        · exfalso
          apply h0
          unfold rkAt
          rw [h, rankF]
        · exact h
      have hT : totT gs (c.toNat - 97) = (taAt gs (gs.length - 1)).getD (c.toNat - 97) 0 := by unfold totT; rw [if_neg (by omega)]
      have hb := sel_bd hok hl4 gs.length (gs.length - 1) (rkAt gs (c.toNat - 97) e - 1) (by omega) (by omega) (by omega) (by omega)
      intro p hp
      rcases List.mem_cons.1 hp with rfl | hp
      · exact hb
      · exact las_mem hok cs _ hc.2 p hp
/-- where a text is last embedded, and the code -/
def embLaG (gs : List Rl) (s : ByteArray) : List Int × Int := if (gOk gs && okL s.data.toList) = true then (if (lasL gs s.data.toList.reverse (wordLen gs)).length < s.size then ([], 6) else ((lasL gs s.data.toList.reverse (wordLen gs)).reverse, 0)) else ([], 1)
theorem embLaG_len (gs : List Rl) (s : ByteArray) : (embLaG gs s).1.length ≤ 1000000 := by
  unfold embLaG
  split
  · next h =>
    split
    · simp
    · have h1 := las_len gs s.data.toList.reverse (wordLen gs)
      rw [Bool.and_eq_true] at h
      have h2 := okL_len h.2
      rw [List.length_reverse] at h1
      simp only [List.length_reverse]
      omega
  · simp
end Wd
end Go.Proofs.Ytnhobcfpipedmaa
namespace Go.Proofs.Ytnhobcfpipedmaa
open Go.RowKit
open Wd
set_option linter.unusedVariables false
/-- between two letters of the text, from its end -/
def EmE (gs : List Rl) (s : ByteArray) (w6 : World) (E : List Int) (B : Nat) (ev iv' : Value) (wr : World) : Prop :=
  ∃ (t : Nat) (e : Int) (done : List Int), ev = .int .i64 e ∧ iv' = .int .i64 ((s.size : Int) - 1 - t) ∧ t ≤ s.size ∧ done.length = t ∧ 0 ≤ e ∧ e ≤ wordLen gs ∧ done ++ lasL gs (s.data.toList.reverse.drop t) e = E ∧
    wr.ownsRow B 2 1 (.slice (some ⟨B, 0, none⟩) s.size s.size) s.size (iv (List.replicate (s.size - t) 0 ++ done.reverse)) ∧ Below w6.heap.size w6 wr
namespace Wd
theorem lasL_drop {gs : List Rl} {s : ByteArray} {t : Nat} (h : t < s.size) (e : Int) : lasL gs (s.data.toList.reverse.drop t) e = if rkAt gs ((s[s.size - 1 - t]'(by omega)).toNat - 97) e = 0 then [] else selF gs ((s[s.size - 1 - t]'(by omega)).toNat - 97) gs.length (gs.length - 1) (rkAt gs ((s[s.size - 1 - t]'(by omega)).toNat - 97) e - 1) :: lasL gs (s.data.toList.reverse.drop (t + 1)) (selF gs ((s[s.size - 1 - t]'(by omega)).toNat - 97) gs.length (gs.length - 1) (rkAt gs ((s[s.size - 1 - t]'(by omega)).toNat - 97) e - 1)) := by
  have h' : t < s.data.toList.reverse.length := by simpa using h
  rw [List.drop_eq_getElem_cons h', List.getElem_reverse]
  have : s.data.toList[s.data.toList.length - 1 - t]'(by simp; omega) = s[s.size - 1 - t]'(by omega) := by
    have hl : s.data.toList.length = s.size := by simp
    simp only [hl]
    rfl
  rw [this]
  rfl
theorem set_place (n t : Nat) (d : List Int) (x : Int) (h : t < n) : (List.replicate (n - t) 0 ++ d).set (n - 1 - t) x = List.replicate (n - (t + 1)) 0 ++ (x :: d) := by
  rw [show n - t = (n - 1 - t) + 1 from by omega, List.replicate_succ', List.append_assoc, List.set_append_right _ _ (by simp)]
  simp
  omega
end Wd
set_option maxRecDepth 100000 in
set_option maxHeartbeats 6400000 in
theorem specEmbedLast (v : Value) (gs : List Rl) (s : ByteArray) (w : World) (hf : FewR gs) (hr : Rules w v gs) (hs : s.size ≤ maxLen) :
    Calls Try.prog 11 #[.agg #[v], .string s] w fun e w' => ∃ y, e = .returned (.tuple #[y, .int .i64 (embLaG gs s).2]) ∧ OwnsI w' w.heap.size y (embLaG gs s).1 ∧ Below w.heap.size w w' := by
  obtain ⟨j0, hj, hy0, hy1, hy2⟩ := info_parts Try.info_i64
  have hg := rules_gpT hr 31
  have h1 := l02Ok_any w.heap.size gs _ hf hg
  have HG := Lib.hid hg
  have hb := (Below.refl _ w).alloc (Nat.le_refl _) (.cells #[v] 31)
  have HSO := Lib.hid (fun W => specOk s W hs)
  obtain ⟨A, c, rfl, _⟩ := hr
  have HB := Lib.hid hb
  unfold embLaG
  cases hok : gOk gs
  · rw [hok] at h1
    rw [Bool.false_and, if_neg (by simp)]
    have H1 := Lib.hid h1
    clear h1 hok hg hb
    go_enter Try.func11, Try.ntmps11
    go_wp2_with fail
    refine H1.out.mono ?_
    rintro e w1 ⟨rfl, hB1⟩
    have HB1 := Lib.hid (HB.out.trans (hB1.mono (by simp)))
    clear hB1
    go_wp2_with fail
    go_ret2
    exact ⟨_, rfl, World.ownsRow_lit (base := w.heap.size) (e := 2) (size := 1) w1 #[] 0 HB1.out.size (by decide) rfl, HB1.out.alloc HB1.out.size _⟩
  · rw [hok] at h1
    have H1 := Lib.hid h1
    cases hl : okL s.data.toList
    · rw [hl] at HSO
      rw [Bool.and_false, if_neg (by simp)]
      clear h1 hok hg hl hb
      go_enter Try.func11, Try.ntmps11
      go_wp2_with fail
      refine H1.out.mono ?_
      rintro e w1 ⟨rfl, hB1⟩
      have HB1 := Lib.hid (HB.out.trans (hB1.mono (by simp)))
      clear hB1
      go_wp2_with fail
      refine (HSO.out _).mono ?_
      rintro e w2 ⟨rfl, rfl⟩
      go_wp2_with fail
      go_ret2
      exact ⟨_, rfl, World.ownsRow_lit (base := w.heap.size) (e := 2) (size := 1) w1 #[] 0 HB1.out.size (by decide) rfl, HB1.out.alloc HB1.out.size _⟩
    · rw [hl] at HSO
      rw [Bool.and_self, if_pos rfl]
      have hs2 : s.size ≤ 2000 := by
        have := hl
        simp only [okL, Bool.and_eq_true, decide_eq_true_iff] at this
        simpa using this.1
      have hwl := wordLen_bd' hok
      have HLS := Lib.hid (fun W (hW : GP W w.heap.size gs) => lengths_any w.heap.size gs W hf hW)
      have HCT := Lib.hid (fun W (h : GP W w.heap.size gs) => l05Counts_any w.heap.size gs W hok h)
      have HLE := Lib.hid (fun W (h : GP W w.heap.size gs) => l02Length_any w.heap.size gs W hf h (gOk_fs hok))
      have HRK := Lib.hid (fun lv yv l n W (hl : l < 4) (hn : 0 ≤ n ∧ n ≤ wordLen gs) (h : SpT W w.heap.size lv yv gs) => l05Rank_any w.heap.size lv yv gs l n W hok hl hn h)
      have HSE := Lib.hid (fun lv yv l c W (hl : l < 4) (hg : 0 < gs.length) (hc : 0 ≤ c ∧ c ≤ 9223372036854775807) (h : SpT W w.heap.size lv yv gs) => l05Select_any w.heap.size lv yv gs l c W hok hl hg hc h)
      have HOK := Lib.hid hok
      have HS := Lib.hid hl
      have HW := Lib.hid hwl
      have hEl := las_len gs s.data.toList.reverse (wordLen gs)
      rw [List.length_reverse] at hEl
      obtain ⟨E, hE⟩ : ∃ E, E = lasL gs s.data.toList.reverse (wordLen gs) := ⟨_, rfl⟩
      rw [← hE] at hEl ⊢
      have HE := Lib.hid hE
      obtain ⟨an, han⟩ : ∃ an : List Int × Int, an = if E.length < s.size then ([], 6) else (E.reverse, 0) := ⟨_, rfl⟩
      rw [← han]
      have HA1 : Hid (E.length < s.size → an = ([], 6)) := Lib.hid (fun h => by rw [han, if_pos h])
      have HA2 : Hid (¬ E.length < s.size → an = (E.reverse, 0)) := Lib.hid (fun h => by rw [han, if_neg h])
      clear h1 hok hg hl hb hE han hwl
      go_enter Try.func11, Try.ntmps11
      go_wp2_with fail
      refine H1.out.mono ?_
      rintro e w1 ⟨rfl, hB1⟩
      have HG1 := Lib.hid (HG.out.kept hB1)
      have HB1 := Lib.hid (HB.out.trans (hB1.mono (by simp)))
      clear hB1
      go_wp2_with fail
      refine (HSO.out _).mono ?_
      rintro e w2 ⟨rfl, rfl⟩
      go_wp2_with fail
      refine (HLS.out _ HG1.out).mono ?_
      rintro e w5 ⟨x, rfl, ho5, hB5⟩
      have ho5 := ho5 HOK.out
      have HB5 := Lib.hid (HB1.out.trans (hB5.mono HB1.out.size))
      have HG5 := Lib.hid (HG1.out.kept hB5)
      have HO5 : Hid (w5.ownsRow w1.heap.size 2 1 x gs.length (iv (lens gs))) := Lib.hid (by unfold OwnsI at ho5; rw [lens_len] at ho5; exact ho5)
      clear hB5 ho5
      go_wp2_with fail
      refine (HCT.out _ HG5.out).mono ?_
      rintro e w6 ⟨y, rfl, U, hmm, hB6⟩
      have HB6 := Lib.hid (HB5.out.trans (Below.mono hB6 HB5.out.size))
      have HG6 := Lib.hid (HG5.out.kept hB6)
      have HSP := Lib.hid (SpT.mk HG6.out ⟨_, own_below HO5.out hB6 (Nat.le_refl _)⟩ ⟨_, _, hmm⟩)
      clear hmm hB6
      go_wp2_with fail
      refine (HLE.out _ HG6.out).mono ?_
      rintro e w7 ⟨rfl, hB7⟩
      have HB7 := Lib.hid hB7
      have hs7 : w6.heap.size ≤ w7.heap.size := hB7.size
      clear hB7
      go_wp2_with (refine wpList_make_full _ rfl _ _ 26 rfl w7.heap.size 2 j0 (.int .i64 0) 1 Try.underlying26 hj hy0 hy1 .i64 .i64 _ _ s.size rfl rfl rfl rfl (by rw [hy2]; omega) (by unfold maxLen; omega) (Nat.le_refl _) ?_)
      intro w8 hown hg8
      rw [made_i64] at hown
      have HB8 := Lib.hid (HB7.out.trans ((below_of_grown hg8).mono hs7))
      obtain ⟨B, hBe⟩ : ∃ B, B = w7.heap.size := ⟨_, rfl⟩
      rw [← hBe] at hown ⊢
      have hB6 : w6.heap.size ≤ B := by omega
      have HST : Hid (EmE gs s w6 E B (.int .i64 (wordLen gs)) (.int .i64 ((s.size : Int) - 1)) w8) := Lib.hid
        ⟨0, wordLen gs, [], rfl, by simp, Nat.zero_le _, rfl, HW.out.1, Int.le_refl _, by rw [HE.out]; rfl, by rw [Nat.sub_zero, List.reverse_nil, List.append_nil]; exact hown, HB8.out⟩
      have hwn : IntKind.i64.wrap ((s.size : Int) - 1) = (s.size : Int) - 1 := by rw [IntKind.wrap_i64]; omega
      have HB6' := Lib.hid hB6
      generalize wordLen gs = N0 at HST
      clear hg8 hown hBe hs7
      go_wp2_with fail
      go_loopw [9, 11, 12, 13] (fun ev iv' _ _ wr => EmE gs s w6 E B ev iv' wr) (fun _ i _ _ _ => (intOf i + 1).toNat)
      case atStart => exact HST.out
      case round =>
        obtain ⟨t, e, done, rfl, rfl, ht, hdl, he0, he1, hemb, hown, hB⟩ := hrel
        obtain ⟨wo, rfl⟩ : ∃ wo : World, wo = wr := ⟨_, rfl⟩
        by_cases hlt : t < s.size
        · obtain ⟨k, hk⟩ : ∃ k, k = s.size - 1 - t := ⟨_, rfl⟩
          have hkI : (s.size : Int) - 1 - t = (k : Int) := by omega
          have hks : k < s.size := by omega
          rw [lasL_drop hlt] at hemb
          have hsk : s[s.size - 1 - t]'(by omega) = s[k] := by simp only [hk]
          rw [hsk] at hemb
          rw [hkI]
          have hlt8 := of_lt (okL_at HS.out (i := k) (by simpa using hks))
          have hch : s.data.toList[k]'(by simpa using hks) = s[k] := rfl
          rw [hch] at hlt8
          obtain ⟨d, hd⟩ : ∃ d : Nat, d = s[k].toNat - 97 := ⟨_, rfl⟩
          have hd4 : d < 4 := by omega
          have hd1 : s[k].toNat = 97 + d := by omega
          rw [← hd] at hemb
          have HLT : Hid (∀ W, Calls Try.prog 49 #[.int .u8 ((s[k].toNat : Nat) : Int)] W fun e w' => e = .returned (.int .i64 (d : Int)) ∧ w' = W) := Lib.hid (fun W => by rw [hd1]; exact letterN_any d hd4 W)
          have hrb := rkAt_nonneg HOK.out hd4 e
          have hrl := rk_le HOK.out hd4 e
          have HB := Lib.hid hB
          have HOW := Lib.hid hown
          have k0 : (0 : Int) ≤ (k : Int) := by omega
          have k1 : (k : Int) < (s.size : Int) := by omega
          have HR1 := Lib.hid (HRK.out x y d e wo hd4 ⟨he0, he1⟩ (HSP.out.kept hB))
          obtain ⟨rk, hrk⟩ : ∃ rk, rk = rkAt gs d e := ⟨_, rfl⟩
          have HRKE : Hid (rankF gs (taAt gs) d gs.length (gs.length - 1) e = rk) := Lib.hid hrk.symm
          rw [HRKE.out] at HR1
          rw [← hrk] at hemb hrb hrl
          by_cases hz : rk = 0
          · rw [if_pos hz, List.append_nil] at hemb
            have han := HA1.out (by rw [← hemb, hdl]; exact hlt)
            have HAN := Lib.hid han
            have hz' : (rk == 0) = true := by rw [beq_iff_eq]; exact hz
            clear hemb hown hB hlt8 hd hd1 hrk hsk hk hkI han hz
            go_wp2_with fail
            refine (HLT.out _).mono ?_
            rintro e' w9 ⟨rfl, rfl⟩
            go_wp2_with fail
            refine HR1.out.mono ?_
            rintro e' w10 ⟨rfl, hB10⟩
            have HB10 := Lib.hid (HB6.out.trans ((HB.out.trans (hB10.mono HB.out.size)).mono HB6.out.size))
            clear hB10
            go_wp2_with fail
            go_ret2
            refine ⟨.slice (some ⟨w10.heap.size, 0, none⟩) 0 0, by rw [HAN.out]; rfl, ?_, HB10.out.alloc HB10.out.size _⟩
            rw [HAN.out]
            exact World.ownsRow_lit (base := w.heap.size) (e := 2) (size := 1) w10 #[] 0 HB10.out.size (by decide) rfl
          · rw [if_neg hz] at hemb
            have hg0 : 0 < gs.length := by
              rcases Nat.eq_zero_or_pos gs.length with h0 | h0
              · exfalso
                apply hz
                rw [hrk]
                unfold rkAt
                rw [h0, rankF]
              · exact h0
            have htl : rk - 1 < (taAt gs (gs.length - 1)).getD d 0 := by
              unfold totT at hrl
              rw [if_neg (by omega)] at hrl
              omega
            have hsb := sel_bd HOK.out hd4 gs.length (gs.length - 1) (rk - 1) (by omega) (by omega) (by omega) htl
            have hwl : wordLen gs = (lens gs).getD (gs.length - 1) 0 := rfl
            have hw15 := HW.out
            have HS1 := Lib.hid (fun W (hb : Below w6.heap.size w6 W) => HSE.out x y d (rk - 1) W hd4 hg0 (by omega) (HSP.out.kept hb))
            generalize selF gs d gs.length (gs.length - 1) (rk - 1) = at' at *
            rw [← hwl] at hsb
            have HEMB : Hid ((done ++ [at']) ++ lasL gs (s.data.toList.reverse.drop (t + 1)) at' = E) := Lib.hid (by rw [List.append_assoc]; exact hemb)
            have HDL : Hid ((done ++ [at']).length = t + 1) := Lib.hid (by simp [hdl])
            have HF : Hid (0 ≤ at' ∧ at' ≤ wordLen gs) := Lib.hid ⟨by omega, by omega⟩
            have hz' : (rk == 0) = false := by rw [beq_eq_false_iff_ne]; exact hz
            have hwr : IntKind.i64.wrap (rk - 1) = rk - 1 := by rw [IntKind.wrap_i64]; omega
            have hwk : IntKind.i64.wrap ((k : Int) - 1) = (k : Int) - 1 := by rw [IntKind.wrap_i64]; omega
            have HKE : Hid ((k : Int) - 1 = (s.size : Int) - 1 - ((t + 1 : Nat) : Int)) := Lib.hid (by omega)
            have HROW : Hid ((List.replicate (s.size - t) 0 ++ done.reverse).set k at' = List.replicate (s.size - (t + 1)) 0 ++ (done ++ [at']).reverse) := Lib.hid (by rw [hk, set_place _ _ _ _ hlt]; simp)
            have HRL : Hid ((List.replicate (s.size - t) 0 ++ done.reverse).length = s.size) := Lib.hid (by simp [hdl]; omega)
            have HTL := Lib.hid hlt
            clear hemb hown hB hlt8 hd hd1 hrk hsk hk hkI hz hwl hw15 htl hsb hdl hrl
            go_wp2_with fail
            refine (HLT.out _).mono ?_
            rintro e' w9 ⟨rfl, rfl⟩
            go_wp2_with fail
            refine HR1.out.mono ?_
            rintro e' w10 ⟨rfl, hB10⟩
            have HB10 := Lib.hid (HB.out.trans (hB10.mono HB.out.size))
            have HO10 := Lib.hid (own_below HOW.out hB10 (Nat.le_refl _))
            clear hB10
            go_wp2_with fail
            refine (HS1.out _ HB10.out).mono ?_
            rintro e' w11 ⟨rfl, hB11⟩
            have HB11 := Lib.hid (HB10.out.trans (hB11.mono HB10.out.size))
            have ho11 := own_below HO10.out hB11 (Nat.le_refl _)
            have e0 := (ho11.cellAt k (by omega)).trans (List.getElem?_eq_getElem (by simp [iv]; have := HRL.out; simp at this; omega))
            have f0 : w11.frozen? ⟨B, k, none⟩ = false := ho11.frozenAt _
            have hs12 := (ho11.stored k (.int .i64 at')).1
            rw [show (iv (List.replicate (s.size - t) 0 ++ done.reverse)).set k (.int .i64 at') = iv (List.replicate (s.size - (t + 1)) 0 ++ (done ++ [at']).reverse) from by rw [← HROW.out]; simp [iv, List.map_set]] at hs12
            have c12 : (w11.setCell ⟨B, k, none⟩ (.int .i64 at')).cell? ⟨B, k, none⟩ = some (.int .i64 at') := by
              rw [hs12.cellAt k (by omega), ← HROW.out]
              simp only [iv, List.getElem?_map]
              rw [List.getElem?_set_self (by rw [HRL.out]; omega)]
              rfl
            have HST2 : Hid (EmE gs s w6 E B (.int .i64 at') (.int .i64 ((k : Int) - 1)) (w11.setCell ⟨B, k, none⟩ (.int .i64 at'))) := Lib.hid
              ⟨t + 1, at', done ++ [at'], rfl, by rw [HKE.out], HTL.out, HDL.out, HF.out.1, HF.out.2, HEMB.out, hs12, HB11.out.setCell (by exact HB6'.out) _⟩
            generalize (iv (List.replicate (s.size - t) 0 ++ done.reverse))[k]'_ = u0 at *
            clear hB11 ho11 hs12
            go_wp2_with fail
            go_roundw
            all_goals first | exact HST2.out | ((repeat apply Exists.intro); exact ⟨HST2.out, rfl⟩) | (simp [intOf]; done) | (simp [intOf]; omega) | omega
        · obtain rfl : t = s.size := by omega
          have hend : done = E := by rw [← hemb, List.drop_of_length_le (by simp)]; simp [lasL]
          have han := HA2.out (by rw [← hend, hdl]; omega)
          have HAN := Lib.hid han
          have hneg : (s.size : Int) - 1 - (s.size : Int) = -1 := by omega
          rw [hneg]
          rw [Nat.sub_self, List.replicate_zero, List.nil_append, hend] at hown
          have HOW := Lib.hid hown
          have HBB := Lib.hid (HB6.out.trans (hB.mono HB6.out.size))
          have HEL : Hid (E.length = s.size) := Lib.hid (by rw [← hend]; exact hdl)
          clear hend hemb hown hB han hneg
          go_wp2_with fail
          go_ret2
          refine ⟨.slice (some ⟨B, 0, none⟩) s.size s.size, by rw [HAN.out]; rfl, ?_, HBB.out⟩
          rw [HAN.out]
          unfold OwnsI
          rw [List.length_reverse, HEL.out]
          exact own_lower HOW.out (Nat.le_trans HB6.out.size HB6'.out)
end Go.Proofs.Ytnhobcfpipedmaa
namespace Go.Proofs.Ytnhobcfpipedmaa
open Go.RowKit Go.Shelf
open Wd
set_option linter.unusedVariables false
attribute [local go_sem] Oper.semAt_some
namespace Wd
/-- 'embL' over the letters' numbers -/
def embN (gs : List Rl) : List Nat → Int → List Int
  | [], _ => []
  | d :: ds, fr => if totT gs d ≤ rkAt gs d fr then [] else selF gs d gs.length (gs.length - 1) (rkAt gs d fr) :: embN gs ds (selF gs d gs.length (gs.length - 1) (rkAt gs d fr) + 1)
theorem embL_N (gs : List Rl) : ∀ (l : List UInt8) (fr : Int), embL gs l fr = embN gs (l.map fun c => c.toNat - 97) fr
  | [], _ => rfl
  | c :: l, fr => by
    rw [embL, List.map_cons, embN]
    split
    · rfl
    · rw [embL_N gs l]
theorem letN_all {s : ByteArray} (hok : okL s.data.toList = true) : (letN s s.size).map Fin.val = s.data.toList.map fun c => c.toNat - 97 := by
  apply List.ext_getElem
  · simp [letN]
  · intro i h1 h2
    have hi : i < s.size := by simpa [letN] using h1
    obtain ⟨h4, _⟩ := noAt_lt hok hi
    have he := noAt_eq hi
    simp only [letN, List.getElem_map, List.getElem_range, noF]
    rw [Nat.mod_eq_of_lt h4, he]
    rfl
end Wd
theorem wpIn_seq_scopeE {n : Nat} {P : Program} {x c : Code} {Q : Exit → Act → World → Prop} {a : Act} {w : World} (h : x.wpIn Fence.wide n P (Exit.then (c.wpIn Fence.wide n P (Exit.noGoto Q)) (Exit.noGoto Q)) a w) : (x.seq (.scope c)).wpIn Fence.wide n P Q a w := by
  refine wpIn_seq (wpIn_mono h fun e a' w' hq => ?_)
  cases e with
  | normal => exact wpIn_wide.2 (wp_scope_straight (wpIn_wide.1 hq))
  | goto l => exact hq.elim
  | exit id => exact hq
  | ret => exact hq
  | panic ch => exact hq
  | outgrown => exact hq
theorem wpListIn_load_rowD {F : Fence} {n : Nat} {P : Program} {ops : Array Oper} {rest : List Oper} {o : Oper} {a : Act} {w : World} {Q : Exit → Act → World → Prop} {d : TypeDesc} (hd : rowD d = true) (hgd : o.guard = none) (ty : TypeId) (x : Operand) (ho : o.op = .load ty x)
    (g : Nat) (hx : a.eval x = .pointer (some ⟨g, 0, none⟩)) (t : TypeId) (cs : Array Value) (fr : Nat × Nat) (hg : w.heap[g]? = some (.cells cs t fr))
    (hu : P.underlying ty = some d) (hi : (P.info? ty).map (·.size) = some cs.size)
    (h : wpListIn F n P ops Q rest (a.put o.dst (.agg cs)) w) : wpListIn F n P ops Q (o :: rest) a w := by
  refine wpListIn_plain hgd fun K hK => ?_
  unfold Oper.wpIn
  refine ⟨by simp [Oper.about, ho], ?_⟩
  rw [Oper.semAt_plain F _ _ (by rw [ho]; intro c hc'; cases hc')]
  unfold execOp
  simp only [ho, hx, Instr.loadAt, Instr.sureAddr, Sem.run_bind, Sem.run_pure, Result.andThen_ok, load_row' w g t ty cs fr d hd hg hu hi]
  exact hK _ _ h
theorem block_kept {X Y : World} {row : Option Nat} {B : Nat} {cs : Array Value} {t : TypeId} {fr : Nat × Nat} (h : X.heap[B]? = some (.cells cs t fr)) (hg : X.grownBy Y row) (hrow : ∀ r, row = some r → ∃ o : Obj, X.heap[r]? = some o ∧ o.isCells = false) : Y.heap[B]? = some (.cells cs t fr) :=
  (grownBy_keeps_cells hg hrow h rfl).trans h
theorem row_kept {X Y : World} {row : Option Nat} {base e size k : Nat} {v : Value} {xs : List Value} (hr : X.ownsRow base e size v k xs) (hg : X.grownBy Y row) (hrow : ∀ r, row = some r → ∃ o : Obj, X.heap[r]? = some o ∧ o.isCells = false) : Y.ownsRow base e size v k xs := by
  refine hr.kept hg ?_
  rcases hr.2 with ⟨rfl, _⟩ | ⟨g, cap, cur, rfl, _, hgb, _⟩
  · exact .inl rfl
  · refine .inr fun e' => ?_
    obtain ⟨o, ho, hc⟩ := hrow g (by simpa [Value.ownBlock] using e'.symm)
    rw [hgb] at ho; cases ho; cases hc
/-- the list so far: the literal, or a row of the loop's own -/
def EmOv (B lit : Nat) (ov : Value) (done : List Int) (W : World) : Prop :=
  ((done = [] ∧ ov = .slice (some ⟨lit, 0, none⟩) 0 0) ∧ W.ownsRow lit 2 1 ov done.length (iv done)) ∨ W.ownsRow B 2 1 ov done.length (iv done)
theorem EmOv.own {B lit : Nat} {ov : Value} {done : List Int} {X Y : World} {row : Option Nat} (h : EmOv B lit ov done X) (hg : X.grownBy Y row) (hrow : ∀ r, row = some r → ∃ o : Obj, X.heap[r]? = some o ∧ o.isCells = false) : EmOv B lit ov done Y := by
  rcases h with ⟨h0, h⟩ | h
  · exact .inl ⟨h0, row_kept h hg hrow⟩
  · exact .inr (row_kept h hg hrow)
theorem EmOv.low {B lit lo : Nat} {ov : Value} {done : List Int} {W : World} (h : EmOv B lit ov done W) (h1 : lo ≤ lit) (h2 : lo ≤ B) : W.ownsRow lo 2 1 ov done.length (iv done) := by
  rcases h with ⟨_, h⟩ | h
  · exact own_lower h h1
  · exact own_lower h h2
theorem wpListIn_append_em {F : Fence} {n : Nat} {ops : Array Oper} {rest : List Oper} {o : Oper} {a : Act} {w : World} {Q : Exit → Act → World → Prop}
    (hg : o.guard = none) (s x : Operand) (hop : o.op = Op.call { callee := Callee.builtin Builtin.append, args := #[s, x], argTypes := #[26, 26] })
    (B lit : Nat) (ov : Value) (done : List Int) (hs : a.eval s = ov) (hov : EmOv B lit ov done w) (ad : Addr) (z : Int) (hx : a.eval x = .slice (some ad) 1 1)
    (hc : ∀ j u, [Value.int .i64 z][j]? = some u → w.cell? (ad.add j) = some u) (b1 : done.length ≤ 100000) (b3 : B ≤ w.heap.size)
    (hK : ∀ v' w' row, w'.ownsRow B 2 1 v' (done.length + 1) (iv (done ++ [z])) → w.grownBy w' row → (∀ j, row = some j → B ≤ j) → (∀ j o, row = some j → w.heap[j]? = some o → o.isCells = true) → wpListIn F n Try.prog ops Q rest (a.put o.dst v') w') :
    wpListIn F n Try.prog ops Q (o :: rest) a w := by
  obtain ⟨j0, hj, hy0, hy1, hy2⟩ := info_parts Try.info_i64
  refine wpListIn_plain hg fun K hK' => ?_
  have h1c : ∀ u ∈ [Value.int .i64 z], u.oneCell' = true := by intro u hu; simp at hu; subst hu; rfl
  have hend : ∀ v' w', (Builtin.append_ #[26, 26] o.type #[ov, .slice (some ad) 1 1]).run Try.prog w = .ok v' w' → K (a.put o.dst v') w' → o.wpIn F n Try.prog a w K Q := fun v' w' hrun hk => by
    unfold Oper.wpIn
    refine ⟨?_, ?_⟩
    · simp [Oper.about, hop, resolve, Target.leads, Sem.run_pure]
    · rw [Oper.semAt_plain F _ _ (by rw [hop]; intro c hc'; cases hc')]
      simp [execOp, hop, resolve, invoke, builtin, hs, hx, hrun, Result.andThen]
      exact hk
  rcases hov with ⟨⟨rfl, rfl⟩, _⟩ | hov
  · obtain ⟨v', w', hrun, r1, r2⟩ := run_append_arg_grows (P := Try.prog) w 26 o.type 2 j0 (.int .i64 0) 1 8 Try.underlying26 hj hy0 hy1 hy2 rfl (by decide) ⟨lit, 0, none⟩ 0 0 [] rfl (by intro j u h; simp at h) ad 1 1 [.int .i64 z] rfl hc (by omega) (by unfold maxLen; omega) (by omega)
    exact hend v' w' hrun (hK' _ _ (hK v' w' none (own_lower r1 b3) r2 (fun j e => by cases e) (fun j o e => by cases e)))
  · obtain ⟨v', w', hrun, r1, r2, r3⟩ := run_append_own (P := Try.prog) w B 26 o.type 2 j0 (.int .i64 0) 1 8 Try.underlying26 hj hy0 hy1 hy2 rfl (by decide) ov done.length (iv done) hov ad 1 1 [.int .i64 z] rfl hc h1c (by unfold maxLen; omega) (by omega) b3
    refine hend v' w' hrun (hK' _ _ (hK v' w' ov.ownBlock (by rw [iv_app]; exact r1) r2 (fun j e => (hov.lt j e).1) (fun j o' e hj' => ?_)))
    rcases hov.2 with ⟨rfl, _⟩ | ⟨g, cap, cur, rfl, _, hgb, _⟩
    · simp [Value.ownBlock] at e
    · obtain rfl : g = j := by simpa [Value.ownBlock] using e
      rw [hgb] at hj'; cases hj'; rfl
/-- what the loop's body keeps in memory -/
def EmMem (w0 : World) (fc : Array Value) (s : ByteArray) (ov : Value) (done : List Int) (fr : Int) (W : World) : Prop :=
  Boxed W (w0.heap.size + 2) 26 ov ∧ EmOv (w0.heap.size + 5) (w0.heap.size + 1) ov done W ∧ Boxed W (w0.heap.size + 3) 2 (.int .i64 fr) ∧
  W.heap[w0.heap.size]? = some (.cells fc 154 (0, 0)) ∧ W.heap[w0.heap.size + 4]? = some (.cells #[.string s] 9 (0, 0))
theorem EmMem.own {w0 : World} {fc : Array Value} {s : ByteArray} {ov : Value} {done : List Int} {fr : Int} {X Y : World} {row : Option Nat} (h : EmMem w0 fc s ov done fr X) (hg : X.grownBy Y row) (hrow : ∀ r, row = some r → ∃ o : Obj, X.heap[r]? = some o ∧ o.isCells = false) : EmMem w0 fc s ov done fr Y :=
  ⟨block_kept h.1 hg hrow, h.2.1.own hg hrow, block_kept h.2.2.1 hg hrow, block_kept h.2.2.2.1 hg hrow, block_kept h.2.2.2.2 hg hrow⟩
theorem EmMem.below {w0 : World} {fc : Array Value} {s : ByteArray} {ov : Value} {done : List Int} {fr : Int} {X Y : World} (h : EmMem w0 fc s ov done fr X) (hb : Below X.heap.size X Y) : EmMem w0 fc s ov done fr Y :=
  h.own (row := none) ⟨hb.os, hb.tape, hb.output, hb.size, fun i hi _ => hb.block i hi⟩ (fun r e => by cases e)
/-- behind the append and the two stores -/
theorem EmMem.step {w0 : World} {fc : Array Value} {s : ByteArray} {ov v' : Value} {done : List Int} {fr z q : Int} {X Y : World} {tmp : Obj} {row : Option Nat} (h : EmMem w0 fc s ov done fr X) (hX : w0.heap.size + 5 ≤ X.heap.size) (hB : Below w0.heap.size w0 X)
    (hown : Y.ownsRow (w0.heap.size + 5) 2 1 v' (done.length + 1) (iv (done ++ [z]))) (hg : (X.alloc tmp).grownBy Y row) (hr1 : ∀ j, row = some j → w0.heap.size + 5 ≤ j) (hr2 : ∀ j o, row = some j → (X.alloc tmp).heap[j]? = some o → o.isCells = true) :
    (Boxed Y (w0.heap.size + 2) 26 ov ∧ Boxed (Y.setCell ⟨w0.heap.size + 2, 0, none⟩ v') (w0.heap.size + 3) 2 (.int .i64 fr)) ∧
    EmMem w0 fc s v' (done ++ [z]) q ((Y.setCell ⟨w0.heap.size + 2, 0, none⟩ v').setCell ⟨w0.heap.size + 3, 0, none⟩ (.int .i64 q)) ∧
    KeepsOthers X ((Y.setCell ⟨w0.heap.size + 2, 0, none⟩ v').setCell ⟨w0.heap.size + 3, 0, none⟩ (.int .i64 q)) ∧ Below w0.heap.size w0 ((Y.setCell ⟨w0.heap.size + 2, 0, none⟩ v').setCell ⟨w0.heap.size + 3, 0, none⟩ (.int .i64 q)) := by
  obtain ⟨m1, m2, m3, m4, m5⟩ := h
  have hk : ∀ b, b < w0.heap.size + 5 → Y.heap[b]? = X.heap[b]? := fun b hb => by
    rw [hg.block b (by simp; omega) (fun e => by have := hr1 b e.symm; omega)]
    exact Below.heap_alloc X tmp b (by omega)
  have n1 : Boxed Y (w0.heap.size + 2) 26 ov := (hk _ (by omega)).trans m1
  have n3 : Boxed Y (w0.heap.size + 3) 2 (.int .i64 fr) := (hk _ (by omega)).trans m3
  have n3' := n3.other (B' := w0.heap.size + 2) (by omega) v'
  have k1 := KeepsOthers.of_grownBy hg hr2
  refine ⟨⟨n1, n3'⟩, ⟨(n1.set v').other (by omega) _, .inr ?_, n3'.set _, ?_, ?_⟩, (((KeepsOthers.alloc X tmp).trans k1).trans (KeepsOthers.setCell _ _ _)).trans (KeepsOthers.setCell _ _ _), ?_⟩
  · rw [List.length_append]
    exact own_setLow (own_setLow hown _ _ (by simp)) _ _ (by simp)
  · rw [Below.heap_setCell _ _ _ _ (by simp), Below.heap_setCell _ _ _ _ (by simp), hk _ (by omega)]; exact m4
  · rw [Below.heap_setCell _ _ _ _ (by simp), Below.heap_setCell _ _ _ _ (by simp), hk _ (by omega)]; exact m5
  · exact (((hB.alloc hB.size tmp).grown hg (by have := hB.size; simp; omega) (fun j e => by have := hr1 j e; omega)).setCell (by simp) _).setCell (by simp) _
theorem keeps_below {X Y : World} (hb : Below X.heap.size X Y) : KeepsOthers X Y := KeepsOthers.of_grownBy (row := none) ⟨hb.os, hb.tape, hb.output, hb.size, fun i hi _ => hb.block i hi⟩ (fun j o e => by cases e)
/-- between two letters -/
def EmJ (w0 : World) (fc : Array Value) (s : ByteArray) (gs : List Rl) (pre : List (Fin 4)) (W : World) : Prop :=
  ∃ (fr : Int) (done : List Int) (ov : Value), (0 ≤ fr ∧ fr ≤ wordLen gs) ∧ done.length = pre.length ∧ (∀ rest, embN gs (pre.map Fin.val ++ rest) 0 = done ++ embN gs rest fr) ∧ EmMem w0 fc s ov done fr W
/-- where a letter is not met any more -/
def EmX (w0 : World) (fc : Array Value) (s : ByteArray) (gs : List Rl) (c : Code) (pre : List (Fin 4)) (W : World) : Prop :=
  c = .exit 0 ∧ ∃ (fr : Int) (done : List Int) (ov : Value), (∀ rest, embN gs (pre.map Fin.val ++ rest) 0 = done) ∧ EmMem w0 fc s ov done fr W
theorem heap5 (w : World) (a b c d e : Obj) : (((((w.alloc a).alloc b).alloc c).alloc d).alloc e).heap[w.heap.size]? = some a ∧ (((((w.alloc a).alloc b).alloc c).alloc d).alloc e).heap[w.heap.size + 1]? = some b ∧ (((((w.alloc a).alloc b).alloc c).alloc d).alloc e).heap[w.heap.size + 2]? = some c ∧ (((((w.alloc a).alloc b).alloc c).alloc d).alloc e).heap[w.heap.size + 3]? = some d ∧ (((((w.alloc a).alloc b).alloc c).alloc d).alloc e).heap[w.heap.size + 4]? = some e := by
  have k := fun (W : World) (o : Obj) (i : Nat) (h : i < W.heap.size) => ((Below.refl _ W).alloc (Nat.le_refl _) o).block i h
  have n1 := heap_alloc_new w a
  have n2 := heap_alloc_new (w.alloc a) b
  have n3 := heap_alloc_new ((w.alloc a).alloc b) c
  have n4 := heap_alloc_new (((w.alloc a).alloc b).alloc c) d
  have n5 := heap_alloc_new ((((w.alloc a).alloc b).alloc c).alloc d) e
  simp only [World.size_alloc] at n2 n3 n4 n5
  refine ⟨?_, ?_, ?_, ?_, n5⟩
  · rw [k _ e _ (by first | (simp; done) | (simp; omega)), k _ d _ (by first | (simp; done) | (simp; omega)), k _ c _ (by first | (simp; done) | (simp; omega)), k _ b _ (by simp)]; exact n1
  · rw [k _ e _ (by first | (simp; done) | (simp; omega)), k _ d _ (by first | (simp; done) | (simp; omega)), k _ c _ (by simp)]; exact n2
  · rw [k _ e _ (by first | (simp; done) | (simp; omega)), k _ d _ (by simp)]; exact n3
  · rw [k _ e _ (by simp)]; exact n4
set_option maxRecDepth 100000 in
set_option maxHeartbeats 6400000 in
theorem embedded_any (fv gv : Value) (gs : List Rl) (s : ByteArray) (lo : Nat) (w : World) (hok : gOk gs = true) (hr : Rules w gv gs) (h : IsTa w lo fv gv gs) (hs : okL s.data.toList = true) :
    Calls Try.prog 112 #[fv, .string s] w fun e w' => ∃ y, e = .returned y ∧ OwnsI w' w.heap.size y (embL gs s.data.toList 0) ∧ Below w.heap.size w w' := by
  obtain ⟨j0, hj, hy0, hy1, hy2⟩ := info_parts Try.info_i64
  have hsz : s.size ≤ 2000 := by have := okL_len hs; simpa using this
  obtain ⟨E, hE⟩ : ∃ E, E = embL gs s.data.toList 0 := ⟨_, rfl⟩
  rw [← hE]
  have HE : Hid (embN gs ((letN s s.size).map Fin.val) 0 = E) := Lib.hid (by rw [letN_all hs, hE, embL_N])
  have HSO := Lib.hid (fun W => numbersOf_any s W)
  have HOKS := Lib.hid hs
  have HIS := Lib.hid h
  obtain ⟨A1, c1, A2, c2, rfl, _, _⟩ := h.shape
  have HRU := Lib.hid hr
  obtain ⟨A, c, rfl, _⟩ := hr
  have HOK := Lib.hid hok
  have hwl := wordLen_bd' hok
  clear hE hs h hok
  refine (callsIn_wide (n := 3)).1 ?_
  refine callsIn_of_wp_marks Try.func112 rfl trivial ?_ rfl
  simp only [Try.ntmps112, List.size_toArray, List.length_cons, List.length_nil, Nat.reduceAdd, Nat.reduceSub, Array.replicate_succ, Array.replicate_zero, List.push_toArray, List.append_toArray, List.nil_append, List.cons_append]
  refine wpIn_seq_scopeE ?_
  gi_wp2_with fail
  refine wpIn_label ?_
  gi_wp2_with fail
  refine ⟨trivial, (callsIn_wide.2 (HSO.out _)).mono ?_⟩
  rintro e w3 ⟨rfl, rfl⟩
  gi_wp2_with fail
  obtain ⟨d, hu, hd⟩ := und_taFold
  have HSF := size_taFold (.slice A gs.length c) (.slice A1 gs.length c1) (.slice A2 gs.length c2)
  have HPA : Hid (∀ fr W, 0 ≤ fr → fr ≤ wordLen gs → Below w.heap.size w W → Calls Try.prog 150 #[.agg (taAll (.slice A gs.length c) (.slice A1 gs.length c1) (.slice A2 gs.length c2)), .int .i64 0, .int .i64 fr] W fun e w' => e = .returned (.agg (taCs (taPart gs 0 fr))) ∧ Below W.heap.size W w') := Lib.hid (fun fr W h1 h2 hb => taPart_any _ _ gs 0 fr lo W HOK.out (HRU.out.kept hb) (HIS.out.kept hb) ⟨Int.le_refl _, h1, h2⟩)
  have HPL : Hid (∀ (x : Fin 4) k W, 0 ≤ k → k ≤ 9223372036854775807 → Below w.heap.size w W → Calls Try.prog 151 #[.agg (taAll (.slice A gs.length c) (.slice A1 gs.length c1) (.slice A2 gs.length c2)), .int .i64 (x.val : Int), .int .i64 k] W fun e w' => e = .returned (.tuple #[.int .i64 (shortT gs x.val k - 1), .bool (decide (k < totT gs x.val))]) ∧ Below W.heap.size W w') := Lib.hid (fun x k W h1 h2 hb => placeIn_any _ _ gs x.val k lo W HOK.out (HRU.out.kept hb) (HIS.out.kept hb) x.isLt ⟨h1, h2⟩)
  obtain ⟨fc, hfc⟩ : ∃ fc, fc = taAll (.slice A gs.length c) (.slice A1 gs.length c1) (.slice A2 gs.length c2) := ⟨_, rfl⟩
  rw [← hfc] at HPA HPL HSF ⊢
  clear hfc HIS
  have hb0 : Below w.heap.size w (((((w.alloc (.cells fc 154)).alloc (.cells #[] 2)).alloc (.cells #[.slice (some ⟨w.heap.size + 1, 0, none⟩) 0 0] 26)).alloc (.cells #[.int .i64 0] 2)).alloc (.cells #[.string s] 9)) := (((((Below.refl _ w).alloc (Nat.le_refl _) _).alloc (by simp) _).alloc (by simp; omega) _).alloc (by simp; omega) _).alloc (by simp; omega) _
  have hlit : (((((w.alloc (.cells fc 154)).alloc (.cells #[] 2)).alloc (.cells #[.slice (some ⟨w.heap.size + 1, 0, none⟩) 0 0] 26)).alloc (.cells #[.int .i64 0] 2)).alloc (.cells #[.string s] 9)).ownsRow (w.heap.size + 1) 2 1 (.slice (some ⟨w.heap.size + 1, 0, none⟩) 0 0) 0 (iv []) := by
    have h1 := World.ownsRow_lit (base := w.heap.size + 1) (e := 2) (size := 1) (w.alloc (.cells fc 154)) #[] 0 (by simp) (by decide) rfl
    rw [show (w.alloc (.cells fc 154)).heap.size = w.heap.size + 1 from by simp] at h1
    exact ((h1.alloc _).alloc _).alloc _
  obtain ⟨b0, b1, b2, b3, b4⟩ := heap5 w (.cells fc 154) (.cells #[] 2) (.cells #[.slice (some ⟨w.heap.size + 1, 0, none⟩) 0 0] 26) (.cells #[.int .i64 0] 2) (.cells #[.string s] 9)
  obtain ⟨W0, hW0⟩ : ∃ W0, W0 = (((((w.alloc (.cells fc 154)).alloc (.cells #[] 2)).alloc (.cells #[.slice (some ⟨w.heap.size + 1, 0, none⟩) 0 0] 26)).alloc (.cells #[.int .i64 0] 2)).alloc (.cells #[.string s] 9)) := ⟨_, rfl⟩
  have z0 : W0.heap.size = w.heap.size + 5 := by rw [hW0]; simp
  rw [← hW0] at hb0 hlit b0 b1 b2 b3 b4 ⊢
  clear hW0
  refine wpIn_rangeFunc_ownF rfl (by omega) (gf := 171) (lb := #[.pointer (some ⟨w.heap.size + 1 + 1 + 1 + 1, 0, none⟩)]) rfl trivial (enters_of Try.func171 (by kernel_rfl) rfl)
    (numbers_stops _ (by omega) (w.heap.size + 1 + 1 + 1 + 1) s W0 hsz HOKS.out (by omega) b4) kpN_t (kpN_b (by omega)) (Below.refl _ _) (fun _ => rfl)
    (fun pre W => EmJ w fc s gs pre W ∧ Below w.heap.size w W)
    (fun c pre W => EmX w fc s gs c pre W ∧ Below w.heap.size w W)
    (OwnFrom.and (Own.from (fun pre A B row hs hg hr => by obtain ⟨fr, done, ov, h1, h2, h3, h4⟩ := hs; exact ⟨fr, done, ov, h1, h2, h3, h4.own hg hr⟩) _) (ownFrom_below (Nat.le_refl _) (by omega)))
    (fun c => OwnFrom.and (Own.from (fun pre A B row hs hg hr => by obtain ⟨h0, fr, done, ov, h3, h4⟩ := hs; exact ⟨h0, fr, done, ov, h3, h4.own hg hr⟩) _) (ownFrom_below (Nat.le_refl _) (by omega)))
    ⟨⟨0, [], _, ⟨Int.le_refl _, hwl.1⟩, rfl, fun rest => rfl, b2, .inl ⟨⟨rfl, rfl⟩, hlit⟩, b3, b0, b4⟩, hb0⟩
    (fun x => { tmps := #[.agg fc, .string s, .pointer (some ⟨w.heap.size, 0, none⟩), undef, .slice none 0 0, .pointer (some ⟨w.heap.size + 1 + 1, 0, none⟩), .pointer (some ⟨w.heap.size + 1 + 1 + 1, 0, none⟩), .int .i64 (x.val : Int), undef, undef, undef, .slice (some ⟨w.heap.size + 1, 0, none⟩) 0 0, .string s, .func (.func 171) #[] #[.pointer (some ⟨w.heap.size + 1 + 1 + 1 + 1, 0, none⟩)], .int .i64 (x.val : Int), undef, undef, undef, undef, undef, undef, undef, undef, undef, undef, undef, undef, undef, undef, undef, undef, undef, undef, undef, undef, undef], defers := [] }) ?assign ?body ?done ?stop
  case assign =>
    intro l x W K hK
    gi_wp2
    exact hK
  case body =>
    rintro l pre x W ⟨⟨fr, done, ov, ⟨f0, f1⟩, hlen, hall, hmem⟩, hB⟩ hN
    have x4 := x.isLt
    have hX5 : w.heap.size + 5 ≤ W.heap.size := by
      have := (Array.getElem?_eq_some_iff.1 hmem.2.2.2.2).1
      omega
    have hrk := rkAt_nonneg HOK.out x4 fr
    have hri := rank_impl HOK.out x4 (n := fr) ⟨f0, f1⟩
    have hix := fun W => index_ta ((taPart gs 0 fr).getD 0 0) ((taPart gs 0 fr).getD 1 0) ((taPart gs 0 fr).getD 2 0) ((taPart gs 0 fr).getD 3 0) x.val x4 W
    have hgd : [(taPart gs 0 fr).getD 0 0, (taPart gs 0 fr).getD 1 0, (taPart gs 0 fr).getD 2 0, (taPart gs 0 fr).getD 3 0].getD x.val 0 = rkAt gs x.val fr := by
      have : (taPart gs 0 fr).length = 4 := by
        rcases Nat.eq_zero_or_pos gs.length with h0 | h0
        · have := wordLen_zero h0
          obtain rfl : fr = 0 := by omega
          unfold taPart
          rw [if_pos rfl]
          rfl
        · exact (taPart_ok HOK.out h0 0 fr).1
      rw [← four_of this]
      exact hri
    rw [hgd] at hix
    have hP := HPA.out fr W f0 f1 hB
    rw [show taCs (taPart gs 0 fr) = #[.int .i64 ((taPart gs 0 fr).getD 0 0), .int .i64 ((taPart gs 0 fr).getD 1 0), .int .i64 ((taPart gs 0 fr).getD 2 0), .int .i64 ((taPart gs 0 fr).getD 3 0)] from rfl] at hP
    have hNx : ∀ rest, embN gs ((pre ++ [x]).map Fin.val ++ rest) 0 = done ++ embN gs (x.val :: rest) fr := fun rest => by
      rw [List.map_append, List.append_assoc]
      exact hall _
    have HPL2 := Lib.hid (fun W' (h : Below w.heap.size w W') => HPL.out x (rkAt gs x.val fr) W' hrk.1 hrk.2 h)
    have HM := Lib.hid hmem
    have HB := Lib.hid hB
    by_cases htt : totT gs x.val ≤ rkAt gs x.val fr
    · have hdec : decide (rkAt gs x.val fr < totT gs x.val) = false := decide_eq_false (by omega)
      have HEND : Hid (∀ rest, embN gs ((pre ++ [x]).map Fin.val ++ rest) 0 = done) := Lib.hid (fun rest => by rw [hNx, embN, if_pos htt, List.append_nil])
      rw [hdec] at HPL2
      generalize rkAt gs x.val fr = rk at *
      generalize shortT gs x.val rk - 1 = pl at *
      obtain ⟨m1, m2, m3, m4, m5⟩ := hmem
      have m3c := m3.cell
      have HP := Lib.hid hP
      generalize (taPart gs 0 fr).getD 0 0 = x0 at *
      generalize (taPart gs 0 fr).getD 1 0 = x1 at *
      generalize (taPart gs 0 fr).getD 2 0 = x2 at *
      generalize (taPart gs 0 fr).getD 3 0 = x3 at *
      clear hP hdec htt hNx hall m2 hgd hri m5 hB
      gi_wp2_with (with_reducible refine wpListIn_load_rowD hd rfl 154 _ rfl w.heap.size rfl 154 _ _ m4 hu HSF ?_)
      refine ⟨trivial, (CallsIn.inRound l (callsIn_wide.2 HP.out)).mono ?_⟩
      rintro e w5 ⟨rfl, hB5⟩
      have m4' := (hB5.block _ (Array.getElem?_eq_some_iff.1 m4).1).trans m4
      have HB5 := Lib.hid (HB.out.trans (hB5.mono (by omega)))
      have HM5 := Lib.hid (HM.out.below hB5)
      have HK5 := Lib.hid (keeps_below hB5)
      have hs5 := hB5.size
      clear hB5 m4 m3c m1 m3
      gi_wp2_with (with_reducible refine wpListIn_load_rowD hd rfl 154 _ rfl w.heap.size rfl 154 _ _ m4' hu HSF ?_)
      refine ⟨trivial, (CallsIn.inRound l (callsIn_wide.2 (HPL2.out _ HB5.out))).mono ?_⟩
      rintro e w6 ⟨rfl, hB6⟩
      have HB6 := Lib.hid (HB5.out.trans (hB6.mono (by omega)))
      have HM6 := Lib.hid (HM5.out.below hB6)
      have HK6 := Lib.hid (HK5.out.trans (keeps_below hB6))
      clear hB6 m4'
      gi_wp2_with fail
      exact ⟨HK6.out, ⟨rfl, fr, done, ov, HEND.out, HM6.out⟩, HB6.out⟩
    · have hdec : decide (rkAt gs x.val fr < totT gs x.val) = true := decide_eq_true (by omega)
      have hg0 : 0 < gs.length := by
        rcases Nat.eq_zero_or_pos gs.length with h0 | h0
        · exfalso
          apply htt
          unfold totT
          rw [if_pos h0]
          exact hrk.1
        · exact h0
      have htl : rkAt gs x.val fr < (taAt gs (gs.length - 1)).getD x.val 0 := by
        have h := htt
        unfold totT at h
        rw [if_neg (by omega)] at h
        omega
      have hsb := Wd.sel_bd HOK.out x4 gs.length (gs.length - 1) (rkAt gs x.val fr) (by omega) (by omega) hrk.1 htl
      have hwl2 : wordLen gs = (lens gs).getD (gs.length - 1) 0 := rfl
      have hsh : shortT gs x.val (rkAt gs x.val fr) - 1 = selF gs x.val gs.length (gs.length - 1) (rkAt gs x.val fr) := by
        unfold shortT
        rw [if_neg htt]
        omega
      have hnx : ∀ rest, embN gs ((pre ++ [x]).map Fin.val ++ rest) 0 = (done ++ [selF gs x.val gs.length (gs.length - 1) (rkAt gs x.val fr)]) ++ embN gs rest (selF gs x.val gs.length (gs.length - 1) (rkAt gs x.val fr) + 1) := fun rest => by
        rw [hNx, embN, if_neg htt, List.append_assoc]
        rfl
      rw [hdec, hsh] at HPL2
      rw [← hwl2] at hsb
      generalize selF gs x.val gs.length (gs.length - 1) (rkAt gs x.val fr) = at' at *
      generalize rkAt gs x.val fr = rk at *
      have hwr : IntKind.i64.wrap (at' + 1) = at' + 1 := IntWalk.i64_in _ (by omega)
      have HNX := Lib.hid hnx
      have HF : Hid (0 ≤ at' + 1 ∧ at' + 1 ≤ wordLen gs) := Lib.hid ⟨by omega, by omega⟩
      have hdl : done.length ≤ 100000 := by omega
      have HDL : Hid ((done ++ [at']).length = (pre ++ [x]).length) := Lib.hid (by simp [hlen])
      obtain ⟨m1, m2, m3, m4, m5⟩ := hmem
      have m3c := m3.cell
      have HP := Lib.hid hP
      generalize (taPart gs 0 fr).getD 0 0 = x0 at *
      generalize (taPart gs 0 fr).getD 1 0 = x1 at *
      generalize (taPart gs 0 fr).getD 2 0 = x2 at *
      generalize (taPart gs 0 fr).getD 3 0 = x3 at *
      clear hP hdec htt hNx hall m2 hgd hri m5 hB hnx hsh hsb hwl2 htl hlen hN
      gi_wp2_with (with_reducible refine wpListIn_load_rowD hd rfl 154 _ rfl w.heap.size rfl 154 _ _ m4 hu HSF ?_)
      refine ⟨trivial, (CallsIn.inRound l (callsIn_wide.2 HP.out)).mono ?_⟩
      rintro e w5 ⟨rfl, hB5⟩
      have m4' := (hB5.block _ (Array.getElem?_eq_some_iff.1 m4).1).trans m4
      have HB5 := Lib.hid (HB.out.trans (hB5.mono (by omega)))
      have HM5 := Lib.hid (HM.out.below hB5)
      have HK5 := Lib.hid (keeps_below hB5)
      have hs5 := hB5.size
      clear hB5 m4 m3c m1 m3
      gi_wp2_with (with_reducible refine wpListIn_load_rowD hd rfl 154 _ rfl w.heap.size rfl 154 _ _ m4' hu HSF ?_)
      refine ⟨trivial, (CallsIn.inRound l (callsIn_wide.2 (HPL2.out _ HB5.out))).mono ?_⟩
      rintro e w6 ⟨rfl, hB6⟩
      have HB6 := Lib.hid (HB5.out.trans (hB6.mono (by omega)))
      have HM6 := Lib.hid (HM5.out.below hB6)
      have HK6 := Lib.hid (HK5.out.trans (keeps_below hB6))
      have hs6 := hB6.size
      have hx6 : w.heap.size + 5 ≤ w6.heap.size := by omega
      have o1 := HM6.out.1.cell
      clear hB6 m4'
      gi_wp2_with (gi_at_builtin; refine wpListIn_append_em rfl _ _ rfl (w.heap.size + 5) (w.heap.size + 1) ov done rfl (HM6.out.2.1.own (World.grownBy_alloc w6 _ none) (fun r e => by cases e)) ⟨w6.heap.size, 0, none⟩ at' rfl (one_new _ _ _) hdl (by simp; omega) ?_; intro v' w7 row hown' hgrow hr1 hr2; have HS := Lib.hid (HM6.out.step (q := at' + 1) hx6 HB6.out hown' hgrow hr1 hr2); obtain ⟨Av, cv, rfl⟩ := own_slice hown'; have n1 := HS.out.1.1.cell; have nf1 := HS.out.1.1.frozen; have n3 := HS.out.1.2.cell; have nf3 := HS.out.1.2.frozen; clear hown' hgrow hr1 hr2)
      have h4 := HS.out.2.1.2.2.2.2
      exact ⟨HK6.out.trans HS.out.2.2.1, ⟨h4.trans HM.out.2.2.2.2.symm, (HK6.out.trans HS.out.2.2.1).walks⟩, ⟨at' + 1, done ++ [at'], _, HF.out, HDL.out, HNX.out, HS.out.2.1⟩, HS.out.2.2.2⟩
  case done =>
    rintro D xs W hD rfl ⟨⟨fr, done, ov, hfr, hlen, hall, hmem⟩, hB⟩ hK
    clear hlen hfr
    have hE : done = E := by
      have := hall []
      rw [List.append_nil, HE.out] at this
      rw [this]
      simp [embN]
    subst hE
    obtain ⟨m1, m2, m3, m4, m5⟩ := hmem
    have m2' := m2.low (lo := w.heap.size) (by omega) (by omega)
    obtain ⟨Ao, co, rfl⟩ := own_slice m2'
    have q2 := m1.cell
    have HO := Lib.hid m2'
    clear hall m2 m2' m3 m4 m5
    gi_wp2
    refine ⟨by simp, .inl ⟨_, _, rfl, run_takeDeferred hK, ?_⟩⟩
    have hB' := hB.trans (belowK_b (w := w) (Nat.le_refl _) W D _ (.deferred none) (by omega) hK rfl rfl)
    refine ⟨.slice Ao done.length co, ?_, ⟨_, rfl, ownsRow_putObj HO.out _ hK rfl, hB'⟩⟩
    simp [results, Try.f112, go_sem]
  case stop =>
    rintro D c pre W hD ⟨m, hm, rfl⟩ ⟨⟨rfl, fr, done, ov, hall, hmem⟩, hB⟩ hK
    have hE : done = E := by
      obtain ⟨r, hr⟩ := letN_add s (m + 1) s.size (by omega)
      have := hall (r.map Fin.val)
      rw [← List.map_append, ← hr, HE.out] at this
      exact this.symm
    subst hE
    obtain ⟨m1, m2, m3, m4, m5⟩ := hmem
    have m2' := m2.low (lo := w.heap.size) (by omega) (by omega)
    obtain ⟨Ao, co, rfl⟩ := own_slice m2'
    have q2 := m1.cell
    have HO := Lib.hid m2'
    clear hall m2 m2' m3 m4 m5
    gi_wp2
    refine ⟨by simp, .inl ⟨_, _, rfl, run_takeDeferred hK, ?_⟩⟩
    have hB' := hB.trans (belowK_b (w := w) (Nat.le_refl _) W D _ (.deferred none) (by omega) hK rfl rfl)
    refine ⟨.slice Ao done.length co, ?_, ⟨_, rfl, ownsRow_putObj HO.out _ hK rfl, hB'⟩⟩
    simp [results, Try.f112, go_sem]
end Go.Proofs.Ytnhobcfpipedmaa
namespace Go.Proofs.Ytnhobcfpipedmaa
open Go.RowKit
open Wd
set_option linter.unusedVariables false
set_option maxRecDepth 100000 in
set_option maxHeartbeats 3200000 in
theorem implEmbedFirst (v : Value) (gs : List Rl) (s : ByteArray) (w : World) (hf : FewR gs) (hr : Rules w v gs) (hs : s.size ≤ maxLen) :
    Calls Try.prog 54 #[.agg #[v], .string s] w fun e w' => ∃ y, e = .returned (.tuple #[y, .int .i64 (embFiG gs s).2]) ∧ OwnsI w' w.heap.size y (embFiG gs s).1 ∧ Below w.heap.size w w' := by
  have hb := (Below.refl _ w).alloc (Nat.le_refl _) (.cells #[v] 31)
  have h1 := letterFold_any v gs _ hf (hr.kept hb)
  have HSO := Lib.hid (fun W => implOk s W hs)
  have HB := Lib.hid hb
  have HRU := Lib.hid (fun W (hb : Below w.heap.size w W) => hr.kept hb)
  obtain ⟨A, c, rfl, _⟩ := hr
  unfold embFiG
  cases hok : gOk gs
  · rw [hok] at h1
    rw [Bool.false_and, if_neg (by simp)]
    have H1 := Lib.hid h1
    clear h1 hok hb
    go_enter Try.func54, Try.ntmps54
    go_wp2_with fail
    refine H1.out.mono ?_
    rintro e w1 ⟨fv, rfl, _, hz, hB1⟩
    obtain rfl := hz trivial
    have HB1 := Lib.hid (HB.out.trans (hB1.mono (by simp)))
    clear hB1 hz
    go_wp2_with fail
    go_ret2
    exact ⟨_, rfl, World.ownsRow_nil _ _ _ _, HB1.out.alloc HB1.out.size _⟩
  · rw [hok] at h1
    have H1 := Lib.hid h1
    have HOK := Lib.hid hok
    cases hl : okL s.data.toList
    · rw [hl] at HSO
      rw [Bool.and_false, if_neg (by simp)]
      clear h1 hok hl hb
      go_enter Try.func54, Try.ntmps54
      go_wp2_with fail
      refine H1.out.mono ?_
      rintro e w1 ⟨fv, rfl, hy, _, hB1⟩
      obtain ⟨A1, c1, A2, c2, he, _, _⟩ := (hy trivial).shape
      injection he with he
      subst he
      have HB1 := Lib.hid (HB.out.trans (hB1.mono (by simp)))
      clear hB1 hy
      go_wp2_with fail
      refine (HSO.out _).mono ?_
      rintro e w2 ⟨rfl, rfl⟩
      go_wp2_with fail
      go_ret2
      exact ⟨_, rfl, World.ownsRow_nil _ _ _ _, HB1.out.alloc HB1.out.size _⟩
    · rw [hl] at HSO
      rw [Bool.and_self, if_pos rfl]
      have HEM : Hid (∀ fv W, IsTa W (w.heap.size + 1) fv (.slice A gs.length c) gs → Below w.heap.size w W → Calls Try.prog 112 #[fv, .string s] W fun e w' => ∃ y, e = .returned y ∧ OwnsI w' W.heap.size y (embL gs s.data.toList 0) ∧ Below W.heap.size W w') := Lib.hid (fun fv W h hb => embedded_any fv _ gs s _ W hok (HRU.out W hb) h hl)
      generalize embL gs s.data.toList 0 = E at *
      by_cases hlt : E.length < s.size
      · rw [if_pos hlt]
        have t1 : (E.length : Int) < (s.size : Int) := by omega
        clear hlt
        clear h1 hok hl hb
        obtain ⟨d, hu, hd⟩ := und_taFold
        have HU := Lib.hid (And.intro hu hd)
        clear hu hd
        go_enter Try.func54, Try.ntmps54
        go_wp2_with fail
        refine H1.out.mono ?_
        rintro e w1 ⟨fv, rfl, hy, _, hB1⟩
        have hy := hy trivial
        have HY : Hid (IsTa w1 (w.heap.size + 1) (.agg fv) (.slice A gs.length c) gs) := Lib.hid (hy.lower (by simp))
        obtain ⟨A1, c1, A2, c2, he, _, _⟩ := hy.shape
        injection he with he
        subst he
        have HB1 := Lib.hid (HB.out.trans (hB1.mono (by simp)))
        clear hB1 hy
        go_wp2_with fail
        refine (HSO.out _).mono ?_
        rintro e w2 ⟨rfl, rfl⟩
        have hb3 := (Below.refl _ w1).alloc (Nat.le_refl _) (.cells (taAll (.slice A gs.length c) (.slice A1 gs.length c1) (.slice A2 gs.length c2)) 154)
        have hX3 := heap_alloc_new w1 (.cells (taAll (.slice A gs.length c) (.slice A1 gs.length c1) (.slice A2 gs.length c2)) 154)
        have HSF := Lib.hid (size_taFold (.slice A gs.length c) (.slice A1 gs.length c1) (.slice A2 gs.length c2))
        have HB3 := Lib.hid (HB1.out.trans (hb3.mono HB1.out.size))
        have HX3 := Lib.hid hX3
        have HEM3 := Lib.hid (HEM.out _ _ (HY.out.kept hb3) HB3.out)
        clear hb3 hX3
        go_wp2_with (with_reducible refine wpList_load_rowD HU.out.2 rfl 154 _ rfl w1.heap.size rfl 154 _ _ HX3.out HU.out.1 HSF.out ?_)
        refine HEM3.out.mono ?_
        rintro e w4 ⟨y, rfl, hyo, hB4⟩
        have HO4 : Hid (OwnsI w4 w.heap.size y E) := Lib.hid (own_lower hyo HB3.out.size)
        obtain ⟨Ay, cy, rfl⟩ := own_slice hyo
        have HB4 := Lib.hid (HB3.out.trans (hB4.mono HB3.out.size))
        clear hB4 hyo
        go_wp2_with fail
        go_ret2
        exact ⟨_, rfl, World.ownsRow_nil _ _ _ _, HB4.out⟩
      · rw [if_neg hlt]
        have t1 : ¬ (E.length : Int) < (s.size : Int) := by omega
        clear hlt
        clear h1 hok hl hb
        obtain ⟨d, hu, hd⟩ := und_taFold
        have HU := Lib.hid (And.intro hu hd)
        clear hu hd
        go_enter Try.func54, Try.ntmps54
        go_wp2_with fail
        refine H1.out.mono ?_
        rintro e w1 ⟨fv, rfl, hy, _, hB1⟩
        have hy := hy trivial
        have HY : Hid (IsTa w1 (w.heap.size + 1) (.agg fv) (.slice A gs.length c) gs) := Lib.hid (hy.lower (by simp))
        obtain ⟨A1, c1, A2, c2, he, _, _⟩ := hy.shape
        injection he with he
        subst he
        have HB1 := Lib.hid (HB.out.trans (hB1.mono (by simp)))
        clear hB1 hy
        go_wp2_with fail
        refine (HSO.out _).mono ?_
        rintro e w2 ⟨rfl, rfl⟩
        have hb3 := (Below.refl _ w1).alloc (Nat.le_refl _) (.cells (taAll (.slice A gs.length c) (.slice A1 gs.length c1) (.slice A2 gs.length c2)) 154)
        have hX3 := heap_alloc_new w1 (.cells (taAll (.slice A gs.length c) (.slice A1 gs.length c1) (.slice A2 gs.length c2)) 154)
        have HSF := Lib.hid (size_taFold (.slice A gs.length c) (.slice A1 gs.length c1) (.slice A2 gs.length c2))
        have HB3 := Lib.hid (HB1.out.trans (hb3.mono HB1.out.size))
        have HX3 := Lib.hid hX3
        have HEM3 := Lib.hid (HEM.out _ _ (HY.out.kept hb3) HB3.out)
        clear hb3 hX3
        go_wp2_with (with_reducible refine wpList_load_rowD HU.out.2 rfl 154 _ rfl w1.heap.size rfl 154 _ _ HX3.out HU.out.1 HSF.out ?_)
        refine HEM3.out.mono ?_
        rintro e w4 ⟨y, rfl, hyo, hB4⟩
        have HO4 : Hid (OwnsI w4 w.heap.size y E) := Lib.hid (own_lower hyo HB3.out.size)
        obtain ⟨Ay, cy, rfl⟩ := own_slice hyo
        have HB4 := Lib.hid (HB3.out.trans (hB4.mono HB3.out.size))
        clear hB4 hyo
        go_wp2_with fail
        go_ret2
        exact ⟨_, rfl, HO4.out, HB4.out⟩
end Go.Proofs.Ytnhobcfpipedmaa
namespace Go.Proofs.Ytnhobcfpipedmaa
open Go.RowKit
open Wd
set_option linter.unusedVariables false
theorem revI_any (B : Nat) (A : Option Addr) (c : Nat) (zs : List Int) (w : World) (h : OwnsI w B (.slice A zs.length c) zs) (hn : zs.length ≤ 1048576) :
    Calls Try.prog 57 #[.slice A zs.length c] w fun e w' => e = .returned (.tuple #[]) ∧ OwnsI w' B (.slice A zs.length c) zs.reverse ∧ (∀ B0 w0, Below B0 w0 w → B0 ≤ B → Below B0 w0 w') := by
  by_cases hz : zs = []
  · subst hz
    refine (AnyE.slices_Reverse_empty Try.laysRevI A c w).mono ?_
    rintro e w' ⟨rfl, rfl⟩
    exact ⟨rfl, h, fun _ _ hb _ => hb⟩
  · have h0 : 0 < zs.length := List.length_pos_iff.2 hz
    obtain ⟨g, cap, hv, hb, hlt, hnc, hm, hl, hH⟩ := Lib.holds_of_ownsRow (enc := fun i : Int => Value.int .i64 i) (zs := zs) h (by
      intro e
      injection e with _ e2 _
      omega)
    injection hv with e1 e2 e3
    subst e1; subst e3
    refine (AnyE.slices_Reverse Try.laysRevI (fun i : Int => Value.int .i64 i) (fun _ => rfl) g 0 c zs w hH (by omega)).mono ?_
    rintro e w' ⟨rfl, n, rfl⟩
    refine ⟨rfl, ?_, fun B0 w0 hb0 hB => Lib.below_putRow hb0 (Nat.le_trans hB hb)⟩
    have := Lib.ownsRow_putRow (q := n) (k := zs.length) (ys := zs.reverse) (enc := fun i : Int => Value.int .i64 i) h (by simp) (Nat.le_refl _)
    rw [List.take_of_length_le (by simp)] at this
    unfold OwnsI
    rw [List.length_reverse]
    exact this
namespace Wd
def mirK (N : Int) (zs : List Int) (k : Nat) : List Int := (zs.take k).map (fun p => N - 1 - p) ++ zs.drop k
theorem mirK_len (N : Int) (zs : List Int) (k : Nat) (h : k ≤ zs.length) : (mirK N zs k).length = zs.length := by simp [mirK]; omega
theorem mirK_get (N : Int) (zs : List Int) (k : Nat) (h : k < zs.length) : (mirK N zs k)[k]? = some zs[k] := by
  unfold mirK
  rw [List.getElem?_append_right (by simp; omega)]
  simp
  rw [show k - min k zs.length = 0 from by omega, Nat.add_zero, List.getElem?_eq_getElem h]
theorem mirK_set (N : Int) (zs : List Int) (k : Nat) (h : k < zs.length) : (mirK N zs k).set k (N - 1 - zs[k]) = mirK N zs (k + 1) := by
  unfold mirK
  have h1 : ((zs.take k).map (fun p => N - 1 - p)).length = k := by simp; omega
  rw [List.set_append_right _ _ (by omega), h1, Nat.sub_self, List.drop_eq_getElem_cons h, List.set_cons_zero, List.take_succ_eq_append_getElem h, List.map_append, List.append_assoc]
  rfl
theorem few_turn {gs : List Rl} (h : FewR gs) : FewR (gs.map turnR) := by
  unfold FewR sumL at h ⊢
  rw [List.map_map, List.length_map]
  exact h
theorem okL_rev (l : List UInt8) : okL l.reverse = okL l := by
  unfold okL
  rw [List.length_reverse, List.all_reverse]
end Wd
set_option maxRecDepth 100000 in
set_option maxHeartbeats 6400000 in
theorem implEmbedLast (v : Value) (gs : List Rl) (s : ByteArray) (w : World) (hf : FewR gs) (hr : Rules w v gs) (hs : s.size ≤ 1048576) :
    Calls Try.prog 13 #[.agg #[v], .string s] w fun e w' => ∃ y, e = .returned (.tuple #[y, .int .i64 (embLaG gs s).2]) ∧ OwnsI w' w.heap.size y (embLaG gs s).1 ∧ Below w.heap.size w w' := by
  have hb := (Below.refl _ w).alloc (Nat.le_refl _) (.cells #[v] 31)
  have HV0 := Lib.hid (Var.new w v 31)
  have hv0 := HV0.out.cell.1
  have HTG := Lib.hid (implTurnGrammar v gs _ hf (hr.kept hb))
  have HB := Lib.hid hb
  have HRU := Lib.hid (fun W (hb : Below w.heap.size w W) => hr.kept hb)
  have HTD := Lib.hid (fun W => implTurnedL s W hs)
  have HLN := Lib.hid (fun v W (hr : Rules W v gs) => implLengthOf v gs W hf hr)
  obtain ⟨A, c, rfl, _⟩ := hr
  obtain ⟨s', hs'⟩ : ∃ s' : ByteArray, s' = ⟨s.data.toList.reverse.toArray⟩ := ⟨_, rfl⟩
  rw [← hs'] at HTD
  have hsl : s'.data.toList = s.data.toList.reverse := by rw [hs']
  have hsz : s'.size = s.size := by
    rw [hs']
    show s.data.toList.reverse.toArray.size = s.size
    rw [List.size_toArray, List.length_reverse, Array.length_toList]
    rfl
  unfold embLaG
  cases hok : gOk gs
  · have ht : gramTurnGrammar gs = ([], 1) := by unfold gramTurnGrammar; rw [hok]; rfl
    rw [ht] at HTG
    rw [Bool.false_and, if_neg (by simp)]
    clear hb ht hok hs' hsl hsz
    go_enter Try.func13, Try.ntmps13
    go_wp2_with fail
    refine HTG.out.mono ?_
    rintro e w1 ⟨y, rfl, ho, hB1⟩
    obtain ⟨Ay, cy, rfl⟩ := own_slice ho
    have HB1 := Lib.hid (HB.out.trans (hB1.mono (by simp)))
    clear hB1 ho
    go_wp2_with fail
    go_ret2
    exact ⟨_, rfl, World.ownsRow_nil _ _ _ _, HB1.out.alloc HB1.out.size _⟩
  · have ht : gramTurnGrammar gs = (gs.map turnR, 0) := by unfold gramTurnGrammar; rw [hok]; rfl
    rw [ht] at HTG
    have hln : lenAns gs = (wordLen gs, 0) := by unfold lenAns; rw [hok]; rfl
    rw [hln] at HLN
    have HEF := Lib.hid (fun v W (h : Rules W v (gs.map turnR)) => implEmbedFirst v (gs.map turnR) s' W (few_turn hf) h (by unfold maxLen; omega))
    have hef : embFiG (gs.map turnR) s' = (if okL s.data.toList = true then (if (embL (gs.map turnR) s'.data.toList 0).length < s.size then ([], 6) else (embL (gs.map turnR) s'.data.toList 0, 0)) else ([], 1)) := by
      unfold embFiG
      rw [gOk_turn hok, hsl, okL_rev, hsz, Bool.true_and]
    rw [hef] at HEF
    have hnl := hf.len
    cases hl : okL s.data.toList
    · rw [hl, if_neg (by simp)] at HEF
      rw [Bool.and_false, if_neg (by simp)]
      generalize gs.map turnR = tg at *
      clear hb ht hok hs' hsl hsz hef hl hln
      go_enter Try.func13, Try.ntmps13
      go_wp2_with fail
      refine HTG.out.mono ?_
      rintro e w1 ⟨y, rfl, ho, hB1⟩
      obtain ⟨Ay, cy, rfl⟩ := own_slice ho
      have hb2 := (Below.refl _ w1).alloc (Nat.le_refl _) (.cells #[.slice Ay tg.length cy] 31)
      have z0 := (Var.new w1 (.slice Ay tg.length cy) 31).cell.1
      have HB2 := Lib.hid ((HB.out.trans (hB1.mono (by simp))).trans (hb2.mono (Nat.le_trans (by simp) hB1.size)))
      have HR2 := Lib.hid ((Rules.of_own ho).kept hb2)
      clear hB1 ho hb2
      go_wp2_with fail
      obtain ⟨V, hV⟩ : ∃ V, V = w1.heap.size := ⟨_, rfl⟩
      rw [← hV] at z0 ⊢
      generalize w1.alloc (.cells #[.slice Ay tg.length cy] 31) = w2 at *
      have HT2 := Lib.hid (fun m => HTD.out (w2.drewN m))
      have HZ := Lib.hid (fun W (h : Below w2.heap.size w2 W) => (h.cell (p := ⟨V, 0, none⟩) (lt_of_cell z0)).trans z0)
      clear hV
      go_region_held3 (fun w' => w'.cell? ⟨V, 0, none⟩ = some (.slice Ay tg.length cy)) (first | exact HS4.out | exact HS3.out | go_keep)
        (first
          | (go_at_call 55; refine (HT2.out _).mono ?_; rintro e w3 ⟨rfl, hB3⟩; have HB3 := Lib.hid (below_undrew hB3); have HS3 := Lib.hid (HZ.out _ HB3.out); clear hB3)
          | (go_at_call 54; refine (HEF.out _ _ (HR2.out.kept HB3.out)).mono ?_; rintro e w4 ⟨y4, rfl, ho4, hB4⟩; obtain ⟨A4, c4, rfl⟩ := own_slice ho4; have HB4 := Lib.hid (HB3.out.trans (hB4.mono HB3.out.size)); have HS4 := Lib.hid (HZ.out _ HB4.out); clear hB4 ho4))
      all_goals
        go_wp2_with fail
        go_ret2
        exact ⟨_, rfl, World.ownsRow_nil _ _ _ _, HB2.out.trans (HB4.out.mono HB2.out.size)⟩
    · rw [hl, if_pos rfl, hsl] at HEF
      rw [Bool.and_self, if_pos rfl]
      have hall : s.data.toList.reverse.all lt = true := by
        rw [List.all_reverse]
        simp only [okL, Bool.and_eq_true] at hl
        exact hl.2
      have hs2 : s.size ≤ 2000 := by
        have := hl
        simp only [okL, Bool.and_eq_true, decide_eq_true_iff] at this
        simpa using this.1
      have hle := las_emb hok s.data.toList.reverse (wordLen gs) hall
      rw [Int.sub_self] at hle
      rw [hle, List.length_map] at HEF
      have hmem := las_mem hok s.data.toList.reverse (wordLen gs) hall
      have hcap := las_len gs s.data.toList.reverse (wordLen gs)
      have hwl := wordLen_bd' hok
      generalize lasL gs s.data.toList.reverse (wordLen gs) = E at *
      by_cases hlt : E.length < s.size
      · rw [if_pos hlt] at HEF ⊢
        generalize gs.map turnR = tg at *
        clear hb ht hok hs' hsl hsz hef hl hln hle hmem hcap hwl hlt hall
        go_enter Try.func13, Try.ntmps13
        go_wp2_with fail
        refine HTG.out.mono ?_
        rintro e w1 ⟨y, rfl, ho, hB1⟩
        obtain ⟨Ay, cy, rfl⟩ := own_slice ho
        have hb2 := (Below.refl _ w1).alloc (Nat.le_refl _) (.cells #[.slice Ay tg.length cy] 31)
        have z0 := (Var.new w1 (.slice Ay tg.length cy) 31).cell.1
        have HB2 := Lib.hid ((HB.out.trans (hB1.mono (by simp))).trans (hb2.mono (Nat.le_trans (by simp) hB1.size)))
        have HR2 := Lib.hid ((Rules.of_own ho).kept hb2)
        clear hB1 ho hb2
        go_wp2_with fail
        obtain ⟨V, hV⟩ : ∃ V, V = w1.heap.size := ⟨_, rfl⟩
        rw [← hV] at z0 ⊢
        generalize w1.alloc (.cells #[.slice Ay tg.length cy] 31) = w2 at *
        have HT2 := Lib.hid (fun m => HTD.out (w2.drewN m))
        have HZ := Lib.hid (fun W (h : Below w2.heap.size w2 W) => (h.cell (p := ⟨V, 0, none⟩) (lt_of_cell z0)).trans z0)
        clear hV
        go_region_held3 (fun w' => w'.cell? ⟨V, 0, none⟩ = some (.slice Ay tg.length cy)) (first | exact HS4.out | exact HS3.out | go_keep)
          (first
            | (go_at_call 55; refine (HT2.out _).mono ?_; rintro e w3 ⟨rfl, hB3⟩; have HB3 := Lib.hid (below_undrew hB3); have HS3 := Lib.hid (HZ.out _ HB3.out); clear hB3)
            | (go_at_call 54; refine (HEF.out _ _ (HR2.out.kept HB3.out)).mono ?_; rintro e w4 ⟨y4, rfl, ho4, hB4⟩; obtain ⟨A4, c4, rfl⟩ := own_slice ho4; have HB4 := Lib.hid (HB3.out.trans (hB4.mono HB3.out.size)); have HS4 := Lib.hid (HZ.out _ HB4.out); clear hB4 ho4))
        all_goals
          go_wp2_with fail
          go_ret2
          exact ⟨_, rfl, World.ownsRow_nil _ _ _ _, HB2.out.trans (HB4.out.mono HB2.out.size)⟩
      · rw [if_neg hlt] at HEF ⊢
        obtain ⟨X, hX⟩ : ∃ X, X = (E.map fun p => wordLen gs - 1 - p).reverse := ⟨_, rfl⟩
        have HXE : Hid (X.map (fun p => wordLen gs - 1 - p) = E.reverse) := Lib.hid (by
          rw [hX, List.map_reverse, List.map_map]
          congr 1
          have : ((fun p => wordLen gs - 1 - p) ∘ fun p => wordLen gs - 1 - p) = (id : Int → Int) := by funext p; simp; omega
          rw [this, List.map_id])
        have HXB : Hid (∀ p ∈ X, 0 ≤ p ∧ p < wordLen gs) := Lib.hid (by
          intro p hp
          rw [hX, List.mem_reverse, List.mem_map] at hp
          obtain ⟨q, hq, rfl⟩ := hp
          have := hmem q hq
          omega)
        have hXl : X.length = E.length := by rw [hX]; simp
        have HXR : Hid (X = (E.map fun p => wordLen gs - 1 - p).reverse) := Lib.hid hX
        have hMl : (E.map fun p => wordLen gs - 1 - p).length = E.length := by simp
        have hEl : E.length ≤ 2000 := by simp at hcap; omega
        generalize E.map (fun p => wordLen gs - 1 - p) = F at *
        obtain ⟨n, hn⟩ : ∃ n, n = F.length := ⟨_, rfl⟩
        have HNF := Lib.hid hn
        have HNX : Hid (X.length = n) := Lib.hid (by omega)
        have HNE : Hid (E.reverse.length = n) := Lib.hid (by simp; omega)
        have hn2 : n ≤ 2000 := by omega
        generalize gs.map turnR = tg at *
        generalize wordLen gs = N at *
        have hwN : IntKind.i64.wrap (N - 1) = N - 1 := by rw [IntKind.wrap_i64]; omega
        clear hb ht hok hs' hsl hsz hef hl hln hle hmem hcap hlt hall hX hXl hMl hEl hn
        go_enter Try.func13, Try.ntmps13
        go_wp2_with fail
        refine HTG.out.mono ?_
        rintro e w1 ⟨y, rfl, ho, hB1⟩
        obtain ⟨Ay, cy, rfl⟩ := own_slice ho
        have hb2 := (Below.refl _ w1).alloc (Nat.le_refl _) (.cells #[.slice Ay tg.length cy] 31)
        have z0 := (Var.new w1 (.slice Ay tg.length cy) 31).cell.1
        have HV2 := Lib.hid ((HV0.out.kept hB1).kept hb2)
        have HB2 := Lib.hid ((HB.out.trans (hB1.mono (by simp))).trans (hb2.mono (Nat.le_trans (by simp) hB1.size)))
        have HR2 := Lib.hid ((Rules.of_own ho).kept hb2)
        clear hB1 ho hb2
        go_wp2_with fail
        obtain ⟨V, hV⟩ : ∃ V, V = w1.heap.size := ⟨_, rfl⟩
        rw [← hV] at z0 ⊢
        generalize w1.alloc (.cells #[.slice Ay tg.length cy] 31) = w2 at *
        have HT2 := Lib.hid (fun m => HTD.out (w2.drewN m))
        have HZ := Lib.hid (fun W (h : Below w2.heap.size w2 W) => (h.cell (p := ⟨V, 0, none⟩) (lt_of_cell z0)).trans z0)
        clear hV
        go_region_held3 (fun w' => w'.cell? ⟨V, 0, none⟩ = some (.slice Ay tg.length cy)) (first | exact HS4.out | exact HS3.out | go_keep)
          (first
            | (go_at_call 55; refine (HT2.out _).mono ?_; rintro e w3 ⟨rfl, hB3⟩; have HB3 := Lib.hid (below_undrew hB3); have HS3 := Lib.hid (HZ.out _ HB3.out); clear hB3)
            | (go_at_call 54; refine (HEF.out _ _ (HR2.out.kept HB3.out)).mono ?_; rintro e w4 ⟨y4, rfl, ho4, hB4⟩; have HO4 := Lib.hid ho4; obtain ⟨A4, c4, rfl⟩ := own_slice ho4; have HB4 := Lib.hid (HB3.out.trans (hB4.mono HB3.out.size)); have HS4 := Lib.hid (HZ.out _ HB4.out); clear hB4 ho4))
        all_goals
          have HO4' : Hid (OwnsI w4 w3.heap.size (.slice A4 F.length c4) F) := Lib.hid HO4.out
          have HB24 := Lib.hid (HB2.out.trans (HB4.out.mono HB2.out.size))
          have z4 := (HV2.out.kept HB4.out).cell.1
          have hs23 : w2.heap.size ≤ w3.heap.size := HB3.out.size
          have hs02 : w.heap.size ≤ w2.heap.size := HB2.out.size
          have hs24 : w2.heap.size ≤ w4.heap.size := HB4.out.size
          clear HO4
          rw [← HNF.out]
          go_wp2_with fail
          refine (HLN.out _ _ (HRU.out _ HB24.out)).mono ?_
          rintro e w5 ⟨rfl, hB5⟩
          have HO5 := Lib.hid (own_below HO4'.out hB5 (Nat.le_refl _))
          have HB5 := Lib.hid (HB24.out.trans (hB5.mono HB24.out.size))
          clear hB5
          go_wp2_with fail
          have hrv := revI_any w3.heap.size A4 c4 F w5 HO5.out (by have := HNF.out; omega)
          rw [← HNF.out] at hrv
          have HRV := Lib.hid hrv
          clear hrv
          refine HRV.out.mono ?_
          rintro e w6 ⟨rfl, ho6, hB6⟩
          rw [← HXR.out] at ho6
          have HB6 := Lib.hid (hB6 _ _ HB5.out (by omega))
          unfold OwnsI at ho6
          rw [HNX.out] at ho6
          have HO6 := Lib.hid ho6
          clear hB6
          rcases Nat.eq_zero_or_pos n with hn0 | hn0
          · subst hn0
            clear ho6
            go_wp2_with fail
            go_loopw [11, 12, 40] (fun a b i wr => i = .int .i64 0 ∧ wr = w6) (fun _ _ i _ => 0)
            case atStart => exact ⟨rfl, rfl⟩
            case round =>
              obtain ⟨rfl, rfl⟩ := hrel
              go_wp2_with fail
              go_ret2
              refine ⟨_, rfl, ?_, HB6.out⟩
              have hx : X = [] := List.eq_nil_of_length_eq_zero HNX.out
              have he : E.reverse = [] := List.eq_nil_of_length_eq_zero HNE.out
              rw [he]
              have := HO6.out
              rw [hx] at this
              exact own_lower this (by omega)
          · obtain ⟨g, rfl, hgB, hgl⟩ := own_addr ho6 hn0
            have hst : w6.ownsRow w3.heap.size 2 1 (.slice (some ⟨g, 0, none⟩) n c4) n (iv (mirK N X 0)) := by
              rw [show mirK N X 0 = X from by simp [mirK]]; exact ho6
            have HST := Lib.hid hst
            clear ho6 hst
            go_wp2_with fail
            go_loopw [11, 12, 40] (fun a b i wr => ∃ k : Nat, k ≤ n ∧ i = .int .i64 k ∧ wr.ownsRow w3.heap.size 2 1 (.slice (some ⟨g, 0, none⟩) n c4) n (iv (mirK N X k)) ∧ Below w.heap.size w wr) (fun _ _ i _ => n - (intOf i).toNat)
            case atStart => exact ⟨0, Nat.zero_le _, rfl, HST.out, HB6.out⟩
            case round =>
              obtain ⟨k, hk, rfl, hown, hB⟩ := hrel
              by_cases hlt : k < n
              · have hkx : k < X.length := by rw [HNX.out]; exact hlt
                have hbx := HXB.out X[k] (List.getElem_mem hkx)
                have c0 : wr.cell? ⟨g, k, none⟩ = some (.int .i64 X[k]) := by
                  rw [hown.cellAt k (by omega)]
                  simp only [iv, List.getElem?_map, mirK_get N X k hkx, Option.map_some]
                have f0 : wr.frozen? ⟨g, k, none⟩ = false := hown.frozenAt _
                have hs7 := (hown.stored k (.int .i64 (N - 1 - X[k]))).1
                rw [show (iv (mirK N X k)).set k (.int .i64 (N - 1 - X[k])) = iv (mirK N X (k + 1)) from by rw [← mirK_set N X k hkx]; simp [iv, List.map_set]] at hs7
                have HS7 := Lib.hid hs7
                have HB7 := Lib.hid (hB.setCell (p := ⟨g, k, none⟩) (by simp only; omega) (.int .i64 (N - 1 - X[k])))
                have hwx : IntKind.i64.wrap (N - 1 - X[k]) = N - 1 - X[k] := by rw [IntKind.wrap_i64]; omega
                generalize X[k] = z at *
                have k0 : (0 : Int) ≤ (k : Int) := by omega
                have k1 : (k : Int) < (n : Int) := by omega
                clear hown hB hs7 hbx
                go_wp2_with fail
                go_roundw
                all_goals first | exact ⟨k + 1, by omega, by go_num, HS7.out, HB7.out⟩ | ((repeat apply Exists.intro); exact ⟨⟨k + 1, by omega, by go_num, HS7.out, HB7.out⟩, rfl⟩) | (simp [intOf]; done) | (simp [intOf]; omega) | omega
              · obtain rfl : k = n := by omega
                have hxx : mirK N X k = E.reverse := by rw [← HXE.out, ← HNX.out]; simp [mirK]
                rw [hxx] at hown
                have HOF : Hid (OwnsI wr w.heap.size (.slice (some ⟨g, 0, none⟩) k c4) E.reverse) := Lib.hid (by unfold OwnsI; rw [HNE.out]; exact own_lower hown (by omega))
                have HBF := Lib.hid hB
                clear hown hB hxx
                go_wp2_with fail
                go_ret2
                exact ⟨_, rfl, HOF.out, HBF.out⟩
end Go.Proofs.Ytnhobcfpipedmaa
