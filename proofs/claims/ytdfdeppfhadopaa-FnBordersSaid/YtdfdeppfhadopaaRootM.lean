/-
  The least period that divides a length (plain facts; as in Root).
-/
import Derived.Test.YtdfdeppfhadopaaPer
namespace Go.Proofs.Ytdfdeppfhadopaa
open Wd
set_option linter.unusedVariables false

namespace Wd
/-- p is the least period of s that divides its length -/
def IsRt (s : ByteArray) (p : Nat) : Prop := Per s p ∧ s.size % p = 0 ∧ ∀ q, Per s q → s.size % q = 0 → p ≤ q
theorem per_self {s : ByteArray} (h : 0 < s.size) : Per s s.size := ⟨h, Nat.le_refl _, by rw [Nat.sub_self]; exact Bd.zero h⟩
theorem rt_exists {s : ByteArray} (h : 0 < s.size) : ∃ p, IsRt s p := by
  have key : ∀ k, (∃ p, IsRt s p) ∨ ∀ q, q ≤ k → Per s q → s.size % q ≠ 0 := by
    intro k
    induction k with
    | zero => exact .inr fun q hq hp => by have := hp.1; omega
    | succ k ih =>
      rcases ih with h | h
      · exact .inl h
      · by_cases hk : Per s (k + 1) ∧ s.size % (k + 1) = 0
        · refine .inl ⟨k + 1, hk.1, hk.2, fun q hq hd => ?_⟩
          by_cases hqk : q ≤ k
          · exact absurd hd (h q hqk hq)
          · omega
        · refine .inr fun q hq hp hd => ?_
          by_cases hqk : q ≤ k
          · exact h q hqk hp hd
          · obtain rfl : q = k + 1 := by omega
            exact hk ⟨hp, hd⟩
  rcases key s.size with h' | h'
  · exact h'
  · exact absurd (Nat.mod_self _) (h' _ (Nat.le_refl _) (per_self h))
theorem IsRt.unique {s : ByteArray} {p q : Nat} (h : IsRt s p) (h' : IsRt s q) : p = q :=
  Nat.le_antisymm (h.2.2 q h'.1 h'.2.1) (h'.2.2 p h.1 h.2.1)
theorem mod_yes {n p : Nat} (h : n % p = 0) : ((n : Int) % (p : Int) == 0) = true := by
  rw [beq_iff_eq]; omega
theorem mod_no {n p : Nat} (h : ¬ n % p = 0) : ((n : Int) % (p : Int) == 0) = false := by
  rw [beq_eq_false_iff_ne]; omega
end Wd

end Go.Proofs.Ytdfdeppfhadopaa
