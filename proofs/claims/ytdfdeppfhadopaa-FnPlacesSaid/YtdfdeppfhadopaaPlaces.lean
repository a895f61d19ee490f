/-
  Places and numbers of factors (plain facts).
-/
import Derived.Test.YtdfdeppfhadopaaOccImp
import Derived.Test.YtdfdeppfhadopaaFacImp
namespace Go.Proofs.Ytdfdeppfhadopaa
open Wd
set_option linter.unusedVariables false
namespace Wd
theorem found_mem {p w : List UInt8} {k j : Nat} : (j : Int) ∈ found p w k ↔ j < k ∧ begins p w j = true := by
  unfold found
  simp only [List.mem_map, List.mem_filter, List.mem_range]
  constructor
  · rintro ⟨i, h, e⟩
    obtain rfl : i = j := by omega
    exact h
  · intro h
    exact ⟨j, h, rfl⟩
theorem fac_pre {s : ByteArray} {L i j : Nat} (h : fac s (L + 1) j = fac s (L + 1) i) : fac s L j = fac s L i := by
  have e : ∀ i, fac s L i = (fac s (L + 1) i).take L := fun i => by
    unfold fac
    rw [ByteArray.toList_eq, ByteArray.toList_eq, ByteArray.data_extract, ByteArray.data_extract, Array.toList_extract, Array.toList_extract, List.extract_eq_take_drop, List.extract_eq_take_drop, List.take_take]
    congr 1
    omega
  rw [e j, e i, h]
theorem newTo_pre {s : ByteArray} {L i : Nat} (h : newTo s L i i = true) : newTo s (L + 1) i i = true := by
  rw [newTo_iff] at h ⊢
  exact fun j hj e => h j hj (fac_pre e)
theorem cnt_pre (s : ByteArray) (L : Nat) : ∀ k, cnt s L k ≤ cnt s (L + 1) k
  | 0 => Nat.le_refl _
  | k + 1 => by
    have := cnt_pre s L k
    simp only [cnt]
    by_cases h : newTo s L k k = true
    · rw [if_pos h, if_pos (newTo_pre h)]; omega
    · rw [if_neg h]; split <;> omega
theorem cnt_step (s : ByteArray) (L k : Nat) : cnt s L (k + 1) ≤ cnt s L k + 1 := by
  simp only [cnt]; split <;> omega
theorem cnt_one (s : ByteArray) (L : Nat) : cnt s L 1 = 1 := by
  simp [cnt, newTo]
theorem cnt_mono (s : ByteArray) (L : Nat) {k m : Nat} (h : k ≤ m) : cnt s L k ≤ cnt s L m := by
  induction h with
  | refl => exact Nat.le_refl _
  | step _ ih => exact Nat.le_trans ih (by simp only [cnt]; split <;> omega)
end Wd
end Go.Proofs.Ytdfdeppfhadopaa
