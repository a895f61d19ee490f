/-
  Shifts of words: what they are, spec.l01Shift, spec.ShiftTo.
-/
import Derived.Test.YtbenlbfommodiaaOk
import Derived.Test.YtbenlbfommodiaaBase
import Derived.BigQuiet
namespace Go.Proofs.Ytbenlbfommodiaa
open Go.RowKit
open Wd
set_option linter.unusedVariables false
namespace Wd
/-- the shift by a number of places -/
def shE (s : ByteArray) (k : Nat) : ByteArray := (s ++ s).extract k (k + s.size)
theorem shE_list (s : ByteArray) (k : Nat) (hk : k ≤ s.size) : (shE s k).data.toList = s.data.toList.drop k ++ s.data.toList.take k := by
  have hl : s.data.toList.length = s.size := by simp
  unfold shE
  rw [ByteArray.data_extract, Array.toList_extract, List.extract_eq_take_drop, ByteArray.data_append, Array.toList_append, show k + s.size - k = s.size from by omega, List.drop_append_of_le_length (by omega), List.take_append]
  rw [List.take_of_length_le (by rw [List.length_drop]; omega), List.length_drop]
  congr 2
  omega
theorem shE_eq (s : ByteArray) (k : Nat) (hk : k ≤ s.size) : s.extract k s.size ++ s.extract 0 k = shE s k := by
  have h1 : (s.extract k s.size ++ s.extract 0 k).data.toList = (shE s k).data.toList := by
    have hl : s.data.toList.length = s.size := by simp
    rw [shE_list s k hk, ByteArray.data_append, Array.toList_append, ByteArray.data_extract, ByteArray.data_extract, Array.toList_extract, Array.toList_extract, List.extract_eq_take_drop, List.extract_eq_take_drop]
    rw [List.take_of_length_le (by rw [List.length_drop]; omega)]
    simp
  have h2 := Array.toList_inj.1 h1
  exact ByteArray.ext h2
theorem shE_zero (s : ByteArray) : shE s 0 = s := by
  have h1 : (shE s 0).data.toList = s.data.toList := by rw [shE_list s 0 (Nat.zero_le _)]; simp
  exact ByteArray.ext (Array.toList_inj.1 h1)
theorem shE_size (s : ByteArray) (k : Nat) (hk : k ≤ s.size) : (shE s k).size = s.size := by
  have h1 := congrArg List.length (shE_list s k hk)
  simp at h1
  omega
/-- the first shift that is the word -/
def shTo (u w : ByteArray) : Option Nat := (List.range (max 1 u.size)).find? fun k => decide (shE u k = w)
def shAns (o : Option Nat) : Int × Int := match o with | some k => ((k : Int), 0) | none => (0, 6)
def intsShiftTo (u w : ByteArray) : Int × Int := if okL u.data.toList && okL w.data.toList then shAns (shTo u w) else (0, 1)
theorem shTo_some {u w : ByteArray} {k : Nat} (hk : k < max 1 u.size) (h : shE u k = w) (hn : ∀ j, j < k → shE u j ≠ w) : shTo u w = some k := by
  unfold shTo
  rw [List.find?_range_eq_some]
  exact ⟨decide_eq_true h, List.mem_range.2 hk, fun j hj => by simpa using hn j hj⟩
theorem shTo_none {u w : ByteArray} (hn : ∀ j, j < max 1 u.size → shE u j ≠ w) : shTo u w = none := by
  unfold shTo
  rw [List.find?_eq_none]
  intro j hj
  simpa using hn j (List.mem_range.1 hj)
end Wd

theorem eq_lists (u v : ByteArray) : (u.toList == v.toList) = decide (u = v) := by
  rw [ByteArray.toList_eq, ByteArray.toList_eq, Bool.eq_iff_iff, beq_iff_eq, decide_eq_true_iff]
  exact ⟨fun h => ByteArray.ext (Array.toList_inj.1 h), fun h => by rw [h]⟩
theorem Below.drewN' (w : World) (q : Nat) : Below w.heap.size w (w.drewN q) := ((Drawn.refl w).drewN q).below _
theorem l01Shift_any (s : ByteArray) (k : Nat) (w : World) (hs : s.size ≤ 2000) (hk : k ≤ s.size) :
    Calls Try.prog 70 #[.string s, .int .i64 (k : Int)] w fun e w' => e = .returned (.string (shE s k)) ∧ Below w.heap.size w w' := by
  have he := shE_eq s k hk
  have h0 : (0 : Int) ≤ (k : Int) := by omega
  have h1 : (k : Int) ≤ (s.size : Int) := by omega
  go_enter Try.func70, Try.ntmps70
  go_wp2_with fail
  go_quiet (fail)
  go_wp2_with fail
  go_ret
  exact ⟨rfl, Below.drewN' _ _⟩

/-- between two shifts -/
def ShRel (u v : ByteArray) (w : World) (i : Value) (wr : World) : Prop :=
  ∃ k : Nat, k ≤ max 1 u.size ∧ 1 ≤ k ∧ i = .int .i64 k ∧ (∀ j, j < k → shE u j ≠ v) ∧ Below w.heap.size w wr

set_option maxRecDepth 100000 in
set_option maxHeartbeats 3200000 in
theorem specShiftTo_ok (u v : ByteArray) (w : World) (hu : okL u.data.toList = true) (hv : okL v.data.toList = true) (bu : u.size ≤ maxLen) (bv : v.size ≤ maxLen) :
    Calls Try.prog 26 #[.string u, .string v] w fun e w' => e = .returned (.tuple #[.int .i64 (intsShiftTo u v).1, .int .i64 (intsShiftTo u v).2]) ∧ Below w.heap.size w w' := by
  have hsz : u.size ≤ 2000 := by have := okL_len hu; simpa using this
  have c1 := fun W => specOk u W bu
  have c2 := fun W => specOk v W bv
  unfold intsShiftTo
  rw [hu, hv]
  rw [hu] at c1
  rw [hv] at c2
  have C1 := Lib.hid c1
  have C2 := Lib.hid c2
  clear c1 c2 hu hv
  simp only [Bool.and_self, if_true]
  by_cases he : u = v
  · have hA := shTo_some (u := u) (w := v) (k := 0) (by omega) (by rw [shE_zero]; exact he) (fun j hj => by omega)
    rw [hA]
    subst he
    clear hA
    go_enter Try.func26, Try.ntmps26
    go_wp2_with fail
    refine (C1.out _).mono ?_
    rintro e w1 ⟨rfl, rfl⟩
    go_wp2_with fail
    refine (C2.out _).mono ?_
    rintro e w2 ⟨rfl, rfl⟩
    go_wp2_with fail
    go_ret2
    exact ⟨rfl, Below.refl _ _⟩
  · have hne : (u.toList == v.toList) = false := by rw [eq_lists]; exact decide_eq_false he
    have HST : Hid (ShRel u v w (.int .i64 1) w) := Lib.hid ⟨1, by omega, Nat.le_refl _, rfl, fun j hj => by
      obtain rfl : j = 0 := by omega
      rw [shE_zero]; exact he, Below.refl _ _⟩
    have HS := Lib.hid (fun W k (hk : k ≤ u.size) => l01Shift_any u k W hsz hk)
    clear he
    obtain ⟨r, hr⟩ : ∃ r : Int × Int, r = shAns (shTo u v) := ⟨_, rfl⟩
    rw [← hr]
    have HR := Lib.hid hr
    clear hr
    go_enter Try.func26, Try.ntmps26
    go_wp2_with fail
    refine (C1.out _).mono ?_
    rintro e w1 ⟨rfl, rfl⟩
    go_wp2_with fail
    refine (C2.out _).mono ?_
    rintro e w2 ⟨rfl, rfl⟩
    go_wp2_with fail
    go_loopw [6] (fun i wr => ShRel u v w i wr) (fun i _ => u.size - (intOf i).toNat)
    case atStart => exact HST.out
    case round =>
      obtain ⟨k, hk, hk1, rfl, hn, hB⟩ := hrel
      have HN := Lib.hid hn
      have HB := Lib.hid hB
      have hbs := hB.size
      clear hn hB
      by_cases hlt : k < u.size
      · go_wp2_with fail
        refine (HS.out _ k (by omega)).mono ?_
        rintro e w5 ⟨rfl, hB5⟩
        have HB5 := Lib.hid (HB.out.trans (hB5.mono hbs))
        clear hB5
        by_cases hq : shE u k = v
        · have hA := shTo_some (u := u) (w := v) (k := k) (by omega) hq HN.out
          have hr : r = ((k : Int), 0) := by rw [HR.out, hA]; rfl
          have HR1 := Lib.hid (show Ending.returned (.tuple #[.int .i64 (k : Int), .int .i64 0]) = Ending.returned (.tuple #[.int .i64 r.1, .int .i64 r.2]) from by rw [hr])
          have hq' : ((shE u k).toList == v.toList) = true := by rw [eq_lists]; exact decide_eq_true hq
          clear hA hq hr
          generalize shE u k = sk at *
          go_wp2_with fail
          go_ret2
          exact ⟨HR1.out, HB5.out⟩
        · have hq' : ((shE u k).toList == v.toList) = false := by rw [eq_lists]; exact decide_eq_false hq
          have HST2 : Hid (ShRel u v w (.int .i64 ((k : Int) + 1)) w5) := Lib.hid ⟨k + 1, by omega, by omega, by go_num, fun j hj => by
            by_cases e : j = k
            · subst e; exact hq
            · exact HN.out j (by omega), HB5.out⟩
          clear hq
          generalize shE u k = sk at *
          go_wp2_with fail
          go_roundw
          case rel => first | exact HST2.out | ((repeat apply Exists.intro); exact ⟨HST2.out, rfl⟩)
          case measure => (first | (simp [intOf]; done) | (simp [intOf]; omega))
      · have hA := shTo_none (u := u) (w := v) (fun j hj => HN.out j (by omega))
        have hr : r = (0, 6) := by rw [HR.out, hA]; rfl
        have HR1 := Lib.hid (show Ending.returned (.tuple #[.int .i64 0, .int .i64 6]) = Ending.returned (.tuple #[.int .i64 r.1, .int .i64 r.2]) from by rw [hr])
        clear hA hr
        go_wp2_with fail
        go_ret2
        exact ⟨HR1.out, HB.out⟩
theorem specShiftTo_bad (u v : ByteArray) (w : World) (bu : u.size ≤ maxLen) (bv : v.size ≤ maxLen) (h : okL u.data.toList = false ∨ (okL u.data.toList = true ∧ okL v.data.toList = false)) :
    Calls Try.prog 26 #[.string u, .string v] w fun e w' => e = .returned (.tuple #[.int .i64 0, .int .i64 1]) ∧ Below w.heap.size w w' := by
  have c1 := fun W => specOk u W bu
  have c2 := fun W => specOk v W bv
  rcases h with h | ⟨h, h'⟩
  · rw [h] at c1
    have C1 := Lib.hid c1
    clear c1 c2 h
    go_enter Try.func26, Try.ntmps26
    go_wp2_with fail
    refine (C1.out _).mono ?_
    rintro e w1 ⟨rfl, rfl⟩
    go_wp2_with fail
    go_ret2
    exact ⟨rfl, Below.refl _ _⟩
  · rw [h] at c1
    rw [h'] at c2
    have C1 := Lib.hid c1
    have C2 := Lib.hid c2
    clear c1 c2 h h'
    go_enter Try.func26, Try.ntmps26
    go_wp2_with fail
    refine (C1.out _).mono ?_
    rintro e w1 ⟨rfl, rfl⟩
    go_wp2_with fail
    refine (C2.out _).mono ?_
    rintro e w2 ⟨rfl, rfl⟩
    go_wp2_with fail
    go_ret2
    exact ⟨rfl, Below.refl _ _⟩
theorem specShiftTo (u v : ByteArray) (w : World) (bu : u.size ≤ maxLen) (bv : v.size ≤ maxLen) :
    Calls Try.prog 26 #[.string u, .string v] w fun e w' => e = .returned (.tuple #[.int .i64 (intsShiftTo u v).1, .int .i64 (intsShiftTo u v).2]) ∧ Below w.heap.size w w' := by
  by_cases h : okL u.data.toList = true ∧ okL v.data.toList = true
  · exact specShiftTo_ok u v w h.1 h.2 bu bv
  · have e : intsShiftTo u v = (0, 1) := by unfold intsShiftTo; rw [if_neg (by simpa using h)]
    rw [e]
    refine specShiftTo_bad u v w bu bv ?_
    cases h1 : okL u.data.toList
    · exact .inl rfl
    · refine .inr ⟨rfl, ?_⟩
      cases h2 : okL v.data.toList
      · rfl
      · exact absurd ⟨h1, h2⟩ h
end Go.Proofs.Ytbenlbfommodiaa
