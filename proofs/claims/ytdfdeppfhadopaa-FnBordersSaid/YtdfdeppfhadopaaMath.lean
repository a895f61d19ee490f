/-
  Plain facts on lists of bytes, for the walks of this seat. Nothing of the program.
-/
import Derived.WalkKit
namespace Go.Proofs.Ytdfdeppfhadopaa
namespace Wd

/-- a letter -/
def lt (c : UInt8) : Bool := 97 ≤ c && c ≤ 100
/-- a plain word -/
def okL (l : List UInt8) : Bool := decide (l.length ≤ 2000) && l.all lt

theorem lt_true {c : UInt8} (h1 : (97 : Int) ≤ (c.toNat : Int)) (h2 : (c.toNat : Int) ≤ 100) : lt c = true := by
  simp [lt, UInt8.le_iff_toNat_le]; omega
theorem lt_low {c : UInt8} (h1 : (c.toNat : Int) < 97) : lt c = false := by
  simp [lt, UInt8.le_iff_toNat_le]; omega
theorem lt_high {c : UInt8} (h1 : (100 : Int) < (c.toNat : Int)) : lt c = false := by
  simp [lt, UInt8.le_iff_toNat_le]; omega
theorem of_lt {c : UInt8} (h : lt c = true) : (97 : Int) ≤ (c.toNat : Int) ∧ (c.toNat : Int) ≤ 100 := by
  simp [lt, UInt8.le_iff_toNat_le] at h; omega
theorem of_not_lt {c : UInt8} (h : lt c = false) : (c.toNat : Int) < 97 ∨ (100 : Int) < (c.toNat : Int) := by
  by_cases h1 : (c.toNat : Int) < 97
  · exact .inl h1
  · by_cases h2 : (100 : Int) < (c.toNat : Int)
    · exact .inr h2
    · exact absurd (lt_true (c := c) (by omega) (by omega)) (by rw [h]; simp)

theorem take_snoc (s : ByteArray) (k : Nat) (h : k < s.size) : s.data.toList.take (k + 1) = s.data.toList.take k ++ [s[k]] := by
  rw [List.take_succ_eq_append_getElem (by simpa using h)]; rfl

theorem rev_snoc (s : ByteArray) (j m : Nat) (h : j + (m + 1) = s.size) : s.data.toList.reverse.take (j + 1) = s.data.toList.reverse.take j ++ [s[m]] := by
  have hl : s.data.toList.length = s.size := by simp
  rw [List.take_succ_eq_append_getElem (by simp; omega)]
  congr 1
  have : s[m] = s.data.toList[m]'(by omega) := rfl
  rw [this, List.getElem_reverse]
  congr 2
  omega

theorem extract_one (s : ByteArray) (k : Nat) (h : k < s.size) : (s.extract k (k + 1)).data.toList = [s[k]] := by
  have h' : k < s.data.size := h
  rw [ByteArray.data_extract, Array.toList_extract, List.extract_eq_take_drop]
  rw [show k + 1 - k = 1 from by omega, List.drop_eq_getElem_cons (by simpa using h')]
  simp
  rfl

theorem okL_long {l : List UInt8} (h : 2000 < l.length) : okL l = false := by
  simp [okL]; omega
theorem okL_len {l : List UInt8} (h : okL l = true) : l.length ≤ 2000 := by
  simp [okL] at h; exact h.1
theorem okL_of {l : List UInt8} (h : l.length ≤ 2000) (ha : l.all lt = true) : okL l = true := by
  simp only [okL, h, ha]; rfl
theorem okL_bad {l : List UInt8} {i : Nat} (h : i < l.length) (hb : lt l[i] = false) : okL l = false := by
  have : l.all lt = false := by
    rw [List.all_eq_false]; exact ⟨l[i], List.getElem_mem _, by simp [hb]⟩
  simp [okL, this]
theorem okL_at {l : List UInt8} (h : okL l = true) {i : Nat} (hi : i < l.length) : lt l[i] = true := by
  simp only [okL, Bool.and_eq_true, List.all_eq_true] at h
  exact h.2 _ (List.getElem_mem _)
/-- how many letters two lists have in common from the beginning on -/
def lcp : List UInt8 → List UInt8 → Nat
  | a :: u, b :: v => if a = b then lcp u v + 1 else 0
  | _, _ => 0
theorem lcp_of : ∀ (u v : List UInt8) (k : Nat), k ≤ u.length → k ≤ v.length → u.take k = v.take k →
    ((k = u.length ∨ k = v.length) ∨ ∃ (h1 : k < u.length) (h2 : k < v.length), u[k] ≠ v[k]) → lcp u v = k
  | [], v, k, h1, _, _, _ => by simp at h1; subst h1; simp [lcp]
  | _ :: _, [], k, _, h2, _, _ => by simp at h2; subst h2; simp [lcp]
  | a :: u, b :: v, 0, _, _, _, h => by
    rcases h with (h | h) | ⟨h1, h2, h⟩
    · simp at h
    · simp at h
    · simp at h; simp [lcp, h]
  | a :: u, b :: v, k + 1, h1, h2, ht, h => by
    simp only [List.take_succ_cons, List.cons.injEq] at ht
    simp only [lcp, ht.1, if_true]
    rw [lcp_of u v k (by simpa using h1) (by simpa using h2) ht.2]
    rcases h with (h | h) | ⟨h3, h4, h⟩
    · exact .inl (.inl (by simpa using h))
    · exact .inl (.inr (by simpa using h))
    · exact .inr ⟨by simpa using h3, by simpa using h4, by simpa using h⟩
end Wd
end Go.Proofs.Ytdfdeppfhadopaa
