/-
  The least shift of a word: what it is, spec.LeastShift.
-/
import Derived.Test.YtbenlbfommodiaaShift
namespace Go.Proofs.Ytbenlbfommodiaa
open Go.RowKit
open Wd
set_option linter.unusedVariables false
namespace Wd
def ltE (s t : ByteArray) : Bool := Op.bytesLess s.toList t.toList
theorem bl_irrefl : ∀ x : List UInt8, Op.bytesLess x x = false
  | [] => rfl
  | a :: x => by simp [Op.bytesLess, bl_irrefl x]
theorem bl_trans : ∀ x y z : List UInt8, Op.bytesLess x y = true → Op.bytesLess y z = true → Op.bytesLess x z = true
  | _, [], _, h, _ => by simp [Op.bytesLess] at h
  | _, _ :: _, [], _, h => by simp [Op.bytesLess] at h
  | [], _ :: _, _ :: _, _, _ => rfl
  | a :: x, b :: y, c :: z, h, h' => by
    simp only [Op.bytesLess, Bool.or_eq_true, decide_eq_true_eq, Bool.and_eq_true, beq_iff_eq] at h h' ⊢
    rcases h with h | ⟨rfl, h⟩
    · rcases h' with h' | ⟨rfl, h'⟩
      · exact .inl (UInt8.lt_trans h h')
      · exact .inl h
    · rcases h' with h' | ⟨rfl, h'⟩
      · exact .inl h'
      · exact .inr ⟨rfl, bl_trans x y z h h'⟩
theorem ltE_irrefl (s : ByteArray) : ltE s s = false := bl_irrefl _
theorem ltE_trans {s t u : ByteArray} (h : ltE s t = true) (h' : ltE t u = true) : ltE s u = true := bl_trans _ _ _ h h'
/-- the first of the least shifts below a number -/
def bst (s : ByteArray) : Nat → Nat
  | 0 => 0
  | m + 1 => if ltE (shE s m) (shE s (bst s m)) = true then m else bst s m
theorem bst_le (s : ByteArray) : ∀ m, bst s m ≤ m - 1
  | 0 => Nat.le_refl _
  | m + 1 => by
    have := bst_le s m
    rw [bst]
    split <;> omega
theorem bst_one (s : ByteArray) : bst s 1 = 0 := by have := bst_le s 1; omega
theorem bst_min (s : ByteArray) : ∀ m i, i < m → ltE (shE s i) (shE s (bst s m)) = false
  | 0, i, h => by omega
  | m + 1, i, h => by
    rw [bst]
    split
    · rename_i hm
      by_cases e : i = m
      · subst e; exact ltE_irrefl _
      · cases hq : ltE (shE s i) (shE s m)
        · rfl
        · have h1 := ltE_trans hq hm
          rw [bst_min s m i (by omega)] at h1
          cases h1
    · rename_i hm
      by_cases e : i = m
      · subst e
        cases hq : ltE (shE s i) (shE s (bst s i))
        · rfl
        · exact absurd hq hm
      · exact bst_min s m i (by omega)
theorem shE_shift (s : ByteArray) (k j : Nat) (h1 : k ≤ j) (h2 : j ≤ s.size) (h : shE s k = s) : shE s j = shE s (j - k) := by
  have e : shE s j = shE (shE s k) (j - k) := by
    have hl : s.data.toList.length = s.size := by simp
    have hz := shE_size s k (by omega)
    have h3 : (shE s j).data.toList = (shE (shE s k) (j - k)).data.toList := by
      rw [shE_list s j h2, shE_list _ _ (by omega), shE_list s k (by omega)]
      rw [List.drop_append_of_le_length (by rw [List.length_drop]; omega), List.take_append_of_le_length (by rw [List.length_drop]; omega), List.drop_drop, List.append_assoc]
      rw [show k + (j - k) = j from by omega]
      congr 1
      have : s.data.toList.take j = s.data.toList.take (k + (j - k)) := by rw [show k + (j - k) = j from by omega]
      rw [this, List.take_add]
    exact ByteArray.ext (Array.toList_inj.1 h3)
  rw [e, h]
theorem bst_stop (s : ByteArray) (k : Nat) (hk : 0 < k) (h : shE s k = s) : ∀ m, k ≤ m → m ≤ s.size → bst s m = bst s k
  | 0, h1, _ => by omega
  | m + 1, h1, h2 => by
    by_cases e : k = m + 1
    · rw [e]
    · have h3 := bst_stop s k hk h m (by omega) (by omega)
      have h4 := bst_min s m (m - k) (by omega)
      rw [← shE_shift s k m (by omega) (by omega) h] at h4
      rw [bst, if_neg (by rw [h4]; decide), h3]
def intsLeastShift (u : ByteArray) : Int × Int := if okL u.data.toList then ((bst u u.size : Int), 0) else (0, 1)
end Wd

/-- between two shifts -/
def LsRel (u : ByteArray) (w : World) (b i : Value) (wr : World) : Prop :=
  ∃ k : Nat, k ≤ max 1 u.size ∧ 1 ≤ k ∧ b = .int .i64 (bst u k : Int) ∧ i = .int .i64 k ∧ Below w.heap.size w wr

set_option maxRecDepth 100000 in
set_option maxHeartbeats 3200000 in
theorem specLeast_ok (u : ByteArray) (w : World) (hu : okL u.data.toList = true) (bu : u.size ≤ maxLen) :
    Calls Try.prog 24 #[.string u] w fun e w' => e = .returned (.tuple #[.int .i64 (bst u u.size : Int), .int .i64 0]) ∧ Below w.heap.size w w' := by
  have hsz : u.size ≤ 2000 := by have := okL_len hu; simpa using this
  have c1 := fun W => specOk u W bu
  rw [hu] at c1
  have C1 := Lib.hid c1
  obtain ⟨R, hR⟩ : ∃ R, R = bst u u.size := ⟨_, rfl⟩
  rw [← hR]
  have HR := Lib.hid hR
  clear c1 hu hR
  have HS := Lib.hid (fun W k (hk : k ≤ u.size) => l01Shift_any u k W hsz hk)
  go_enter Try.func24, Try.ntmps24
  go_wp2_with fail
  refine (C1.out _).mono ?_
  rintro e w1 ⟨rfl, rfl⟩
  go_wp2_with fail
  go_loopw [4, 5] (fun b i wr => LsRel u w b i wr) (fun _ i _ => u.size - (intOf i).toNat)
  case atStart => exact ⟨1, by omega, Nat.le_refl _, by rw [bst_one]; rfl, rfl, Below.refl _ _⟩
  case round =>
    obtain ⟨k, hk, hk1, rfl, rfl, hB⟩ := hrel
    have hB0 := Lib.hid hB
    have hbs := hB.size
    clear hB
    by_cases hlt : k < u.size
    · have hbl := bst_le u k
      have hst : bst u (k + 1) = if ltE (shE u k) (shE u (bst u k)) = true then k else bst u k := rfl
      unfold ltE at hst
      have HST := Lib.hid hst
      clear hst
      generalize bst u k = c at *
      go_wp2_with fail
      refine (HS.out _ k (by omega)).mono ?_
      rintro e w5 ⟨rfl, hB5⟩
      go_wp2_with fail
      refine (HS.out _ c (by omega)).mono ?_
      rintro e w6 ⟨rfl, hB6⟩
      have HB6 := Lib.hid (hB0.out.trans ((hB5.trans (hB6.mono hB5.size)).mono hbs))
      clear hB5 hB6
      cases hq : Op.bytesLess (shE u k).toList (shE u c).toList
      · have hst := HST.out
        rw [hq, if_neg (by decide)] at hst
        have HN := Lib.hid hst
        clear hst
        generalize shE u k = sk at *
        generalize shE u c = sc at *
        go_wp2_with fail
        go_roundw
        case rel => exact ⟨k + 1, by omega, by omega, by rw [HN.out], by go_num, HB6.out⟩
        case measure => (first | (simp [intOf]; done) | (simp [intOf]; omega))
      · have hst := HST.out
        rw [hq, if_pos rfl] at hst
        have HN := Lib.hid hst
        clear hst
        generalize shE u k = sk at *
        generalize shE u c = sc at *
        go_wp2_with fail
        go_roundw
        case rel => exact ⟨k + 1, by omega, by omega, by rw [HN.out], by go_num, HB6.out⟩
        case measure => (first | (simp [intOf]; done) | (simp [intOf]; omega))
    · have hkR : bst u k = R := by
        rw [HR.out]
        by_cases e : u.size = 0
        · have h1 := bst_le u k
          have h2 := bst_le u u.size
          omega
        · congr 1
          omega
      rw [hkR]
      clear hkR
      go_wp2_with fail
      go_ret2
      exact ⟨rfl, hB0.out⟩
theorem specLeastShift (u : ByteArray) (w : World) (bu : u.size ≤ maxLen) :
    Calls Try.prog 24 #[.string u] w fun e w' => e = .returned (.tuple #[.int .i64 (intsLeastShift u).1, .int .i64 (intsLeastShift u).2]) ∧ Below w.heap.size w w' := by
  unfold intsLeastShift
  cases h : okL u.data.toList
  · rw [if_neg (by decide)]
    have c1 := fun W => specOk u W bu
    rw [h] at c1
    have C1 := Lib.hid c1
    clear c1 h
    go_enter Try.func24, Try.ntmps24
    go_wp2_with fail
    refine (C1.out _).mono ?_
    rintro e w1 ⟨rfl, rfl⟩
    go_wp2_with fail
    go_ret2
    exact ⟨rfl, Below.refl _ _⟩
  · rw [if_pos rfl]
    exact specLeast_ok u w h bu
end Go.Proofs.Ytbenlbfommodiaa
