/-
  The Lyndon factors of a text as Go's two loops find them (plain functions on the text).
-/
import Derived.Test.YtiibadmijhbioabMath
namespace Go.Proofs.Ytiibadmijhbioab
namespace Wd

/-- the inner loop: from the places j and k on, for the factor that begins at i -/
def duvIn (s : ByteArray) (i : Nat) : Nat → Nat → Nat → Nat × Nat
  | 0, j, k => (j, k)
  | f + 1, j, k => if h : j < s.size ∧ k < s.size then (if s[k] < s[j] then duvIn s i f (j + 1) i else if s[k] = s[j] then duvIn s i f (j + 1) (k + 1) else (j, k)) else (j, k)
/-- the last loop: pieces of d letters from i on, as long as they begin at k or ahead of it -/
def duvOut (s : ByteArray) (k d : Nat) : Nat → Nat → List ByteArray × Nat
  | 0, i => ([], i)
  | f + 1, i => if i ≤ k then let r := duvOut s k d f (i + d); (s.extract i (i + d) :: r.1, r.2) else ([], i)
/-- all factors from i on -/
def duv (s : ByteArray) : Nat → Nat → List ByteArray
  | 0, _ => []
  | f + 1, i => if i < s.size then
      let p := duvIn s i (s.size - (i + 1)) (i + 1) i
      let r := duvOut s p.2 (p.1 - p.2) (s.size + 1) i
      r.1 ++ duv s f r.2
    else []

theorem duvIn_lt {s : ByteArray} {i f j k : Nat} (hj : j < s.size) (hk : k < s.size) (h : s[k] < s[j]) : duvIn s i (f + 1) j k = duvIn s i f (j + 1) i := by
  rw [duvIn, dif_pos ⟨hj, hk⟩, if_pos h]
theorem duvIn_eq {s : ByteArray} {i f j k : Nat} (hj : j < s.size) (hk : k < s.size) (h : s[k] = s[j]) : duvIn s i (f + 1) j k = duvIn s i f (j + 1) (k + 1) := by
  rw [duvIn, dif_pos ⟨hj, hk⟩, if_neg (by rw [h]; exact UInt8.lt_irrefl _), if_pos h]
theorem duvIn_gt {s : ByteArray} {i f j k : Nat} (hj : j < s.size) (hk : k < s.size) (h : s[j] < s[k]) : duvIn s i (f + 1) j k = (j, k) := by
  rw [duvIn, dif_pos ⟨hj, hk⟩, if_neg (fun h' => UInt8.lt_irrefl _ (UInt8.lt_trans h h')), if_neg (fun h' => by rw [h'] at h; exact UInt8.lt_irrefl _ h)]
theorem duvIn_end {s : ByteArray} {i f j k : Nat} (hj : ¬ j < s.size) : duvIn s i f j k = (j, k) := by
  cases f with
  | zero => rfl
  | succ f => rw [duvIn, dif_neg (fun h => hj h.1)]
theorem duvOut_go {s : ByteArray} {k d f i : Nat} (h : i ≤ k) : duvOut s k d (f + 1) i = (s.extract i (i + d) :: (duvOut s k d f (i + d)).1, (duvOut s k d f (i + d)).2) := by
  rw [duvOut, if_pos h]
theorem duvOut_end {s : ByteArray} {k d f i : Nat} (h : ¬ i ≤ k) : duvOut s k d f i = ([], i) := by
  cases f with
  | zero => rfl
  | succ f => rw [duvOut, if_neg h]
theorem duvOut_ge {s : ByteArray} {k d f i : Nat} (h : i ≤ k) (hd : 0 < d) : i < (duvOut s k d (f + 1) i).2 := by
  rw [duvOut_go h]
  have : ∀ f j, j ≤ (duvOut s k d f j).2 := by
    intro f
    induction f with
    | zero => intro j; exact Nat.le_refl _
    | succ f ih =>
      intro j
      by_cases hj : j ≤ k
      · rw [duvOut_go hj]; have := ih (j + d); show j ≤ (duvOut s k d f (j + d)).2; omega
      · rw [duvOut_end hj]; exact Nat.le_refl _
  have := this f (i + d)
  show i < (duvOut s k d f (i + d)).2
  omega
theorem duv_end {s : ByteArray} {f i : Nat} (h : ¬ i < s.size) : duv s f i = [] := by
  cases f with
  | zero => rfl
  | succ f => rw [duv, if_neg h]
end Wd
end Go.Proofs.Ytiibadmijhbioab
