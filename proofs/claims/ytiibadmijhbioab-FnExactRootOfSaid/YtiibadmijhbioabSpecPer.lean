/-
  Walks: spec.l01Periods, spec.PeriodsOf, spec.BordersOf.
-/
import Derived.Test.YtiibadmijhbioabInts
import Derived.Test.YtiibadmijhbioabKmp
import Derived.Lib.Strings
namespace Go.Proofs.Ytiibadmijhbioab
open Go.RowKit
open Wd
set_option linter.unusedVariables false

namespace Wd
/-- the text from p on is that without its last p letters -/
def perB (s : ByteArray) (p : Nat) : Bool := (s.extract p s.size).toList == (s.extract 0 (s.size - p)).toList
/-- the first n letters are the last ones -/
def brdB (s : ByteArray) (n : Nat) : Bool := (s.extract 0 n).toList == (s.extract (s.size - n) s.size).toList
/-- the numbers from 1 to k that a test takes -/
def upTo (f : Nat → Bool) (k : Nat) : List Int := ((List.range k).filter fun j => f (j + 1)).map fun (j : Nat) => ((j + 1 : Nat) : Int)
theorem upTo_yes {f : Nat → Bool} {k : Nat} (h : f (k + 1) = true) : upTo f (k + 1) = upTo f k ++ [((k + 1 : Nat) : Int)] := by
  simp [upTo, List.range_succ, List.filter_append, h]
theorem upTo_no {f : Nat → Bool} {k : Nat} (h : f (k + 1) = false) : upTo f (k + 1) = upTo f k := by
  simp [upTo, List.range_succ, List.filter_append, h]
theorem upTo_len (f : Nat → Bool) (k : Nat) : (upTo f k).length ≤ k := by
  unfold upTo
  rw [List.length_map]
  exact Nat.le_trans (List.length_filter_le _ _) (by simp)
end Wd

theorem OwnsI.lit0 (w : World) : w.heap.size = w.heap.size → OwnsI (w.alloc (.cells #[] 2)) w.heap.size (.slice (some ⟨w.heap.size, 0, none⟩) 0 0) [] := fun _ =>
  World.ownsRow_lit w #[] 0 (Nat.le_refl _) (by decide) rfl

theorem Try.info_i64' : (Try.prog.info? 2).map (fun i => (i.zero, i.size, i.bytes)) = some (some (.int .i64 0), 1, 8) := by kernel_rfl

set_option maxRecDepth 100000 in
set_option maxHeartbeats 1600000 in
theorem specPers (s : ByteArray) (w : World) (hs : s.size ≤ 2000) :
    Calls Try.prog 56 #[.string s] w fun e w' => ∃ x, e = .returned x ∧ OwnsI w' w.heap.size x (upTo (perB s) s.size) ∧ Below w.heap.size w w' := by
  obtain ⟨i0, hi, hz0, hz1, hz2⟩ := info_parts Try.info_i64'
  go_enter Try.func56, Try.ntmps56
  go_wp2
  go_loopw [3, 4] (fun x i wr => ∃ k n : Nat, k ≤ s.size ∧ n ≤ k ∧ (upTo (perB s) k).length = n ∧ i = .int .i64 ((k + 1 : Nat) : Int) ∧ wr.ownsRow w.heap.size 2 1 x n (iv (upTo (perB s) k)) ∧ Below w.heap.size w wr)
    (fun _ i _ => s.size + 1 - (intOf i).toNat)
  case atStart => exact ⟨0, 0, Nat.zero_le _, Nat.le_refl _, rfl, rfl, World.ownsRow_lit w #[] 0 (Nat.le_refl _) (by decide) rfl, (Below.refl _ _).alloc (Nat.le_refl _) _⟩
  case round =>
    obtain ⟨k, n, hk, hnk, hfl, rfl, hown, hB⟩ := hrel
    have HL := Lib.hid hfl
    clear hfl
    by_cases hlt : k < s.size
    · obtain ⟨p, hp⟩ : ∃ p, k + 1 = p := ⟨_, rfl⟩
      have hy := fun h => upTo_yes (f := perB s) (k := k) h
      have hn := fun h => upTo_no (f := perB s) (k := k) h
      rw [hp] at hy hn ⊢
      have hp0 : (0 : Int) ≤ (p : Int) := by omega
      have hp1 : (p : Int) ≤ (s.size : Int) := by omega
      have hp2 : p ≤ s.size := by omega
      have HP := Lib.hid hp
      have HYY := Lib.hid hy
      have HNN := Lib.hid hn
      clear hp hy hn
      cases hb : perB s p
      · have hbx : ((s.extract p s.size).toList == (s.extract 0 (s.size - p)).toList) = false := hb
        have HN := Lib.hid (HNN.out hb)
        have hrelw : ∀ q, (upTo (perB s) p).length = n ∧ (wr.drewN q).ownsRow w.heap.size 2 1 u3 n (iv (upTo (perB s) p)) ∧ Below w.heap.size w (wr.drewN q) := fun q => by
          rw [HN.out]; exact ⟨HL.out, hown, below_drewN hB q⟩
        have HR := Lib.hid hrelw
        clear hb hrelw hown hB
        go_wp2
        go_quiet (fail)
        go_wp2
        go_roundw
        case rel => exact ⟨p, n, hp2, by have := HP.out; omega, (HR.out 0).1, by go_num, (HR.out _).2.1, (HR.out _).2.2⟩
        case measure => simp [intOf]; omega
      · have hbx : ((s.extract p s.size).toList == (s.extract 0 (s.size - p)).toList) = true := hb
        have HY := Lib.hid (HYY.out hb)
        have hsz := hB.size
        have hn1 : n ≤ 2000 := by omega
        have HOWN := Lib.hid hown
        have HBB := Lib.hid hB
        clear hb hown hB
        go_wp2
        go_quiet (fail)
        rename_i nq
        obtain ⟨wq, hwq⟩ : ∃ wq, wr.drewN nq = wq := ⟨_, rfl⟩
        have hown : wq.ownsRow w.heap.size 2 1 u3 n (iv (upTo (perB s) k)) := by rw [← hwq]; exact HOWN.out
        have hB : Below w.heap.size w wq := by rw [← hwq]; exact below_drewN HBB.out _
        have hsq : w.heap.size ≤ wq.heap.size := hB.size
        rw [hwq]
        clear hwq hsz
        go_wp2_with (first | (at_builtin; refine wpList_append_own _ rfl _ _ 25 rfl w.heap.size 2 i0 (.int .i64 0) 1 8 Try.underlying25 hi hz0 hz1 hz2 rfl (by decide) _ _ _ rfl (hown.alloc _) ⟨wq.heap.size, 0, none⟩ 1 1 [.int .i64 p] rfl rfl (one_new _ _ _) (one_int _ _) (by unfold maxLen; omega) (by omega) (base_alloc hsq _) ?_))
        intro v' w1 hown' hgrow _
        have hb1 : Below w.heap.size w w1 := (hB.alloc hsq _).grown hgrow (by simp; omega) (fun q hq => (hown.lt q hq).1)
        have hown1 : w1.ownsRow w.heap.size 2 1 v' (n + 1) (iv (upTo (perB s) p)) := by rw [HY.out, iv_app]; exact hown'
        clear hown' hgrow hown hB
        go_wp2
        go_roundw
        case rel => exact ⟨p, n + 1, hp2, by have := HP.out; omega, by rw [HY.out, List.length_append, HL.out]; rfl, by go_num, hown1, hb1⟩
        case measure => simp [intOf]; omega
    · have hkn : k = s.size := by omega
      have hox : OwnsI wr w.heap.size u3 (upTo (perB s) s.size) := by rw [← hkn]; unfold OwnsI; rw [HL.out]; exact hown
      have HO := Lib.hid hox
      have HK := Lib.hid hkn
      clear hkn hox hown
      go_wp2
      go_ret
      exact ⟨_, rfl, HO.out, hB⟩
set_option maxRecDepth 100000 in
set_option maxHeartbeats 1600000 in
theorem specBorders_ok (s : ByteArray) (w : World) (hs : s.size ≤ 2000) (h : okL s.data.toList = true) :
    Calls Try.prog 17 #[.string s] w fun e w' => ∃ x, e = .returned (.tuple #[x, .int .i64 0]) ∧ OwnsI w' w.heap.size x (upTo (brdB s) (s.size - 1)) ∧ Below w.heap.size w w' := by
  have c1 := specOk s w (by unfold maxLen; omega)
  rw [h] at c1
  have C1 := Lib.hid c1
  clear c1 h
  obtain ⟨i0, hi, hz0, hz1, hz2⟩ := info_parts Try.info_i64'
  go_enter Try.func17, Try.ntmps17
  go_wp2_with (go_at_call 50; refine C1.out.mono ?_; rintro e w' ⟨rfl, rfl⟩)
  go_loopw [4, 5] (fun x i wr => ∃ k n : Nat, k ≤ s.size - 1 ∧ n ≤ k ∧ (upTo (brdB s) k).length = n ∧ i = .int .i64 ((k + 1 : Nat) : Int) ∧ wr.ownsRow w.heap.size 2 1 x n (iv (upTo (brdB s) k)) ∧ Below w.heap.size w wr)
    (fun _ i _ => s.size + 1 - (intOf i).toNat)
  case atStart => exact ⟨0, 0, Nat.zero_le _, Nat.le_refl _, rfl, rfl, World.ownsRow_lit w #[] 0 (Nat.le_refl _) (by decide) rfl, (Below.refl _ _).alloc (Nat.le_refl _) _⟩
  case round =>
    obtain ⟨k, n, hk, hnk, hfl, rfl, hown, hB⟩ := hrel
    have HL := Lib.hid hfl
    clear hfl
    by_cases hlt : k < s.size - 1
    · obtain ⟨p, hp⟩ : ∃ p, k + 1 = p := ⟨_, rfl⟩
      have hy := fun h => upTo_yes (f := brdB s) (k := k) h
      have hn := fun h => upTo_no (f := brdB s) (k := k) h
      rw [hp] at hy hn ⊢
      have hp0 : (0 : Int) ≤ (p : Int) := by omega
      have hp1 : (p : Int) < (s.size : Int) := by omega
      have hp2 : p ≤ s.size - 1 := by omega
      have hp3 : p < s.size := by omega
      have HP := Lib.hid hp
      have HYY := Lib.hid hy
      have HNN := Lib.hid hn
      clear hp hy hn
      cases hb : brdB s p
      · have hbx : ((s.extract 0 p).toList == (s.extract (s.size - p) s.size).toList) = false := hb
        have HN := Lib.hid (HNN.out hb)
        have hrelw : ∀ q, (upTo (brdB s) p).length = n ∧ (wr.drewN q).ownsRow w.heap.size 2 1 u4 n (iv (upTo (brdB s) p)) ∧ Below w.heap.size w (wr.drewN q) := fun q => by
          rw [HN.out]; exact ⟨HL.out, hown, below_drewN hB q⟩
        have HR := Lib.hid hrelw
        clear hb hrelw hown hB
        go_wp2
        go_quiet (fail)
        go_wp2
        go_roundw
        case rel => exact ⟨p, n, hp2, by have := HP.out; omega, (HR.out 0).1, by go_num, (HR.out _).2.1, (HR.out _).2.2⟩
        case measure => simp [intOf]; omega
      · have hbx : ((s.extract 0 p).toList == (s.extract (s.size - p) s.size).toList) = true := hb
        have HY := Lib.hid (HYY.out hb)
        have hsz := hB.size
        have hn1 : n ≤ 2000 := by omega
        have HOWN := Lib.hid hown
        have HBB := Lib.hid hB
        clear hb hown hB
        go_wp2
        go_quiet (fail)
        rename_i nq
        obtain ⟨wq, hwq⟩ : ∃ wq, wr.drewN nq = wq := ⟨_, rfl⟩
        have hown : wq.ownsRow w.heap.size 2 1 u4 n (iv (upTo (brdB s) k)) := by rw [← hwq]; exact HOWN.out
        have hB : Below w.heap.size w wq := by rw [← hwq]; exact below_drewN HBB.out _
        have hsq : w.heap.size ≤ wq.heap.size := hB.size
        rw [hwq]
        clear hwq hsz
        go_wp2_with (first | (at_builtin; refine wpList_append_own _ rfl _ _ 25 rfl w.heap.size 2 i0 (.int .i64 0) 1 8 Try.underlying25 hi hz0 hz1 hz2 rfl (by decide) _ _ _ rfl (hown.alloc _) ⟨wq.heap.size, 0, none⟩ 1 1 [.int .i64 p] rfl rfl (one_new _ _ _) (one_int _ _) (by unfold maxLen; omega) (by omega) (base_alloc hsq _) ?_))
        intro v' w1 hown' hgrow _
        have hb1 : Below w.heap.size w w1 := (hB.alloc hsq _).grown hgrow (by simp; omega) (fun q hq => (hown.lt q hq).1)
        have hown1 : w1.ownsRow w.heap.size 2 1 v' (n + 1) (iv (upTo (brdB s) p)) := by rw [HY.out, iv_app]; exact hown'
        clear hown' hgrow hown hB
        go_wp2
        go_roundw
        case rel => exact ⟨p, n + 1, hp2, by have := HP.out; omega, by rw [HY.out, List.length_append, HL.out]; rfl, by go_num, hown1, hb1⟩
        case measure => simp [intOf]; omega
    · have hkn : k = s.size - 1 := by omega
      have hnl : ¬ ((k : Int) + 1 < (s.size : Int)) := by omega
      have hox : OwnsI wr w.heap.size u4 (upTo (brdB s) (s.size - 1)) := by rw [← hkn]; unfold OwnsI; rw [HL.out]; exact hown
      have HO := Lib.hid hox
      have HK := Lib.hid hkn
      clear hkn hox hown
      go_wp2
      go_ret2
      exact ⟨_, rfl, HO.out, hB⟩

theorem specBorders_bad (s : ByteArray) (w : World) (hs : s.size ≤ maxLen) (h : okL s.data.toList = false) :
    Calls Try.prog 17 #[.string s] w fun e w' => ∃ x, e = .returned (.tuple #[x, .int .i64 1]) ∧ OwnsI w' w.heap.size x [] ∧ Below w.heap.size w w' := by
  have c1 := specOk s w hs
  rw [h] at c1
  have C1 := Lib.hid c1
  clear c1 h
  go_enter Try.func17, Try.ntmps17
  go_wp2_with (go_at_call 50; refine C1.out.mono ?_; rintro e w' ⟨rfl, rfl⟩)
  go_ret2
  exact ⟨_, rfl, OwnsI.lit0 _ rfl, (Below.refl _ _).alloc (Nat.le_refl _) _⟩
theorem specPeriods_bad (s : ByteArray) (w : World) (hs : s.size ≤ maxLen) (h : okL s.data.toList = false) :
    Calls Try.prog 22 #[.string s] w fun e w' => ∃ x, e = .returned (.tuple #[x, .int .i64 1]) ∧ OwnsI w' w.heap.size x [] ∧ Below w.heap.size w w' := by
  have c1 := specOk s w hs
  rw [h] at c1
  have C1 := Lib.hid c1
  clear c1 h
  go_enter Try.func22, Try.ntmps22
  go_wp2_with (go_at_call 50; refine C1.out.mono ?_; rintro e w' ⟨rfl, rfl⟩)
  go_ret2
  exact ⟨_, rfl, OwnsI.lit0 _ rfl, (Below.refl _ _).alloc (Nat.le_refl _) _⟩
theorem specPeriods_ok (s : ByteArray) (w : World) (hs : s.size ≤ 2000) (h : okL s.data.toList = true) :
    Calls Try.prog 22 #[.string s] w fun e w' => ∃ x, e = .returned (.tuple #[x, .int .i64 0]) ∧ OwnsI w' w.heap.size x (upTo (perB s) s.size) ∧ Below w.heap.size w w' := by
  have c1 := specOk s w (by unfold maxLen; omega)
  rw [h] at c1
  have C1 := Lib.hid c1
  have C2 := Lib.hid (fun w => specPers s w hs)
  clear c1 h
  go_enter Try.func22, Try.ntmps22
  go_wp2_with fail
  refine C1.out.mono ?_; rintro e w' ⟨rfl, rfl⟩
  go_wp2_with fail
  refine (C2.out _).mono ?_; rintro e w1 ⟨x, rfl, ho, hb⟩
  go_wp2
  go_ret2
  exact ⟨_, rfl, ho, hb⟩
end Go.Proofs.Ytiibadmijhbioab
