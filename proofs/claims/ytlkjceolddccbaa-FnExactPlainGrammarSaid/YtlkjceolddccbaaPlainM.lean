/-
  Grammars of plain words, as lists of rules. Nothing of the program.
-/
import Derived.Test.YtlkjceolddccbaaGPair
namespace Go.Proofs.Ytlkjceolddccbaa
open Go.RowKit
set_option linter.unusedVariables false
namespace Wd
/-- the letter with a number -/
def ltC (k : Nat) : UInt8 := UInt8.ofNat (97 + k)
/-- the number of a letter -/
def noC (c : UInt8) : Nat := c.toNat - 97
theorem noC_lt {c : UInt8} (h : lt c = true) : noC c < 4 := by have := of_lt h; unfold noC; omega
theorem ltC_noC {c : UInt8} (h : lt c = true) : ltC (noC c) = c := by
  have := of_lt h
  unfold ltC noC
  apply UInt8.toNat_inj.1
  simp
  omega
theorem ltC_toNat {k : Nat} (h : k < 4) : (ltC k).toNat = 97 + k := by
  unfold ltC
  simp
  omega
def hasC (l : List UInt8) (k : Nat) : Bool := decide (ltC k ∈ l)
/-- the rule of a letter -/
def letR (k : Nat) : Rl := ⟨⟨#[ltC k]⟩, 0, 0⟩
/-- the rules of the letters up to a number -/
def letG (l : List UInt8) : Nat → List Rl
  | 0 => []
  | k + 1 => if hasC l k then letG l k ++ [letR k] else letG l k
theorem letG_len (l : List UInt8) : ∀ k, (letG l k).length ≤ k
  | 0 => Nat.le_refl _
  | k + 1 => by
    have := letG_len l k
    rw [letG]
    split
    · rw [List.length_append, List.length_singleton]; omega
    · omega
theorem letG_sum (l : List UInt8) : ∀ k, sumL (letG l k) ≤ k
  | 0 => Nat.le_refl _
  | k + 1 => by
    have := letG_sum l k
    rw [letG]
    split
    · rw [sumL_app, show sumL [letR k] = 1 from rfl]; omega
    · omega
/-- the number of a letter's rule -/
def idxC (l : List UInt8) (k : Nat) : Nat := (letG l k).length
/-- the pairs, so many of them -/
def prsG (l : List UInt8) (m : Nat) : Nat → List Rl
  | 0 => []
  | t + 1 => prsG l m t ++ [pairR (if t = 0 then idxC l (noC (l.getD 0 97)) else m + t - 1) (idxC l (noC (l.getD (t + 1) 97)))]
theorem prsG_len (l : List UInt8) (m : Nat) : ∀ t, (prsG l m t).length = t
  | 0 => rfl
  | t + 1 => by rw [prsG, List.length_append, prsG_len l m t, List.length_singleton]
theorem prsG_sum (l : List UInt8) (m : Nat) : ∀ t, sumL (prsG l m t) = 0
  | 0 => rfl
  | t + 1 => by rw [prsG, sumL_app, prsG_sum l m t]; rfl
def plainG (l : List UInt8) : List Rl := letG l 4 ++ prsG l (letG l 4).length (l.length - 1)
theorem plainG_few {l : List UInt8} (h : l.length ≤ 2000) : FewR (plainG l) := by
  have h1 := letG_len l 4
  have h2 := letG_sum l 4
  unfold FewR plainG
  rw [List.length_append, prsG_len, sumL_app, prsG_sum]
  omega
theorem plainG_long {l : List UInt8} (h0 : okL l = true) (h : 400 < l.length) : gOk (plainG l) = false := by
  apply gOk_long
  have h1 : 0 < (letG l 4).length := by
    have hc := okL_at h0 (i := 0) (by omega)
    have hm : ltC (noC l[0]) ∈ l := by rw [ltC_noC hc]; exact List.getElem_mem _
    have hk := noC_lt hc
    have : ∀ k, noC l[0] < k → 0 < (letG l k).length := by
      intro k
      induction k with
      | zero => intro h; omega
      | succ k ih =>
        intro h
        rw [letG]
        by_cases e : noC l[0] = k
        · rw [if_pos (by unfold hasC; rw [← e]; exact decide_eq_true hm), List.length_append, List.length_singleton]; omega
        · have := ih (by omega)
          split
          · rw [List.length_append]; omega
          · exact this
    exact this 4 hk
  unfold plainG
  rw [List.length_append, prsG_len]
  omega
/-- the answer -/
def gramPlainGrammar (s : ByteArray) : List Rl × Int := if okL s.data.toList then (limG (plainG s.data.toList), limC (plainG s.data.toList)) else ([], 1)
theorem gramPlainGrammar_len (s : ByteArray) : (gramPlainGrammar s).1.length ≤ 1048576 := by
  unfold gramPlainGrammar
  split
  · rename_i h
    show (limG _).length ≤ _
    unfold limG
    split
    · exact (plainG_few (okL_len h)).len
    · simp
  · simp
end Wd
end Go.Proofs.Ytlkjceolddccbaa
