/-
  The model's tests for borders and periods say what the program's failure table says; rising lists with the same members are equal (plain facts).
-/
import Derived.Test.YtdfdeppfhadopaaSpecPerM
import Derived.Test.YtdfdeppfhadopaaPer
namespace Go.Proofs.Ytdfdeppfhadopaa
open Wd
set_option linter.unusedVariables false
namespace Wd
theorem extract_l (s : ByteArray) (a b : Nat) : (s.extract a b).toList = (s.data.toList.drop a).take (b - a) := by
  rw [ByteArray.toList_eq, ByteArray.data_extract, Array.toList_extract, List.extract_eq_take_drop]

theorem at0_l {s : ByteArray} {i : Nat} (h : i < s.data.toList.length) : at0 s i = s.data.toList[i] := by
  unfold at0
  rw [List.getD_eq_getElem?_getD, List.getElem?_eq_getElem h]
  rfl

theorem brd_bd {s : ByteArray} {n : Nat} (h2 : n < s.size) : brdB s n = true ↔ Bd s s.size n := by
  have hl : s.data.toList.length = s.size := by simp
  unfold brdB
  rw [beq_iff_eq, extract_l, extract_l, List.drop_zero, Nat.sub_zero, show s.size - (s.size - n) = n by omega]
  constructor
  · intro h
    refine ⟨h2, fun i hi => ?_⟩
    have := congrArg (fun l => l.getD i 0) h
    simp only [List.getD_eq_getElem?_getD, List.getElem?_take, List.getElem?_drop, if_pos hi] at this
    simpa [at0, List.getD_eq_getElem?_getD] using this
  · rintro ⟨_, h⟩
    apply List.ext_getElem?
    intro i
    rw [List.getElem?_take, List.getElem?_take]
    by_cases hi : i < n
    · rw [if_pos hi, if_pos hi, List.getElem?_drop]
      have := h i hi
      rw [at0_l (by omega), at0_l (by omega)] at this
      rw [List.getElem?_eq_getElem (by omega), List.getElem?_eq_getElem (by omega), this]
    · rw [if_neg hi, if_neg hi]

theorem brd_iff {s : ByteArray} {n : Nat} (h1 : 1 ≤ n) (h2 : n < s.size) : brdB s n = true ↔ Per s (s.size - n) := by
  rw [brd_bd h2]
  unfold Per
  rw [show s.size - (s.size - n) = n by omega]
  exact ⟨fun h => ⟨by omega, by omega, h⟩, fun h => h.2.2⟩

theorem per_iff {s : ByteArray} {p : Nat} (h1 : 1 ≤ p) (h2 : p ≤ s.size) : perB s p = true ↔ Per s p := by
  have hl : s.data.toList.length = s.size := by simp
  unfold perB Per
  rw [beq_iff_eq, extract_l, extract_l, List.drop_zero, Nat.sub_zero, List.take_of_length_le (by simp)]
  constructor
  · intro h
    refine ⟨h1, h2, by omega, fun i hi => ?_⟩
    have := congrArg (fun l => l.getD i 0) h
    simp only [List.getD_eq_getElem?_getD, List.getElem?_take, List.getElem?_drop, if_pos hi] at this
    rw [show s.size - (s.size - p) + i = p + i by omega]
    simpa [at0, List.getD_eq_getElem?_getD] using this.symm
  · rintro ⟨_, _, _, h⟩
    apply List.ext_getElem?
    intro i
    rw [List.getElem?_take, List.getElem?_drop]
    by_cases hi : i < s.size - p
    · rw [if_pos hi]
      have := h i hi
      rw [show s.size - (s.size - p) + i = p + i by omega] at this
      rw [at0_l (by omega), at0_l (by omega)] at this
      rw [List.getElem?_eq_getElem (by omega), List.getElem?_eq_getElem (by omega), this]
    · rw [if_neg hi, List.getElem?_eq_none (by omega)]

theorem rising_ext : ∀ (l m : List Int), l.Pairwise (· < ·) → m.Pairwise (· < ·) → (∀ x, x ∈ l ↔ x ∈ m) → l = m
  | [], [], _, _, _ => rfl
  | [], b :: m, _, _, h => by have := (h b).2 (by simp); simp at this
  | a :: l, [], _, _, h => by have := (h a).1 (by simp); simp at this
  | a :: l, b :: m, h1, h2, h => by
    rw [List.pairwise_cons] at h1 h2
    have hab : a = b := by
      have ha := (h a).1 (by simp)
      have hb := (h b).2 (by simp)
      rcases List.mem_cons.1 ha with e | ha
      · exact e
      rcases List.mem_cons.1 hb with e | hb
      · exact e.symm
      have := h1.1 b hb
      have := h2.1 a ha
      omega
    subst hab
    congr 1
    refine rising_ext l m h1.2 h2.2 fun x => ?_
    have hx := h x
    rw [List.mem_cons, List.mem_cons] at hx
    constructor
    · intro hm
      rcases hx.1 (.inr hm) with e | h'
      · subst e; have := h1.1 x hm; omega
      · exact h'
    · intro hm
      rcases hx.2 (.inr hm) with e | h'
      · subst e; have := h2.1 x hm; omega
      · exact h'

theorem sort_rising {l : List Int} (h : l.Nodup) : (l.mergeSort fun x y => decide (x ≤ y)).Pairwise (· < ·) := by
  have hs : (l.mergeSort fun x y => decide (x ≤ y)).Pairwise fun x y => decide (x ≤ y) = true :=
    List.pairwise_mergeSort (le := fun x y : Int => decide (x ≤ y)) (by intro a b c h1 h2; simp at *; omega) (by intro a b; simp; omega) l
  have hn : (l.mergeSort fun x y => decide (x ≤ y)).Nodup := (List.mergeSort_perm l _).nodup_iff.2 h
  have := List.pairwise_and_iff.2 ⟨hs, hn⟩
  refine this.imp fun {a b} hab => ?_
  have h1 := of_decide_eq_true hab.1
  have h2 := hab.2
  omega
theorem sort_mem {l : List Int} (x : Int) : x ∈ (l.mergeSort fun x y => decide (x ≤ y)) ↔ x ∈ l := (List.mergeSort_perm l _).mem_iff

theorem upTo_mem {f : Nat → Bool} {k : Nat} (x : Int) : x ∈ upTo f k ↔ ∃ n : Nat, 1 ≤ n ∧ n ≤ k ∧ f n = true ∧ x = n := by
  unfold upTo
  rw [List.mem_map]
  constructor
  · rintro ⟨j, h1, rfl⟩
    rw [List.mem_filter, List.mem_range] at h1
    exact ⟨j + 1, by omega, by omega, h1.2, rfl⟩
  · rintro ⟨n, h1, h2, h3, rfl⟩
    exact ⟨n - 1, by rw [List.mem_filter, List.mem_range, show n - 1 + 1 = n by omega]; exact ⟨by omega, h3⟩, by rw [show n - 1 + 1 = n by omega]⟩
theorem upTo_rising (f : Nat → Bool) (k : Nat) : (upTo f k).Pairwise (· < ·) := by
  unfold upTo
  rw [List.pairwise_map]
  refine (List.Pairwise.filter _ List.pairwise_lt_range).imp fun {a b} h => ?_
  omega
end Wd
end Go.Proofs.Ytdfdeppfhadopaa
