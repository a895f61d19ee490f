/-
  Powers of grammars, digit by digit. Nothing of the program.
-/
import Derived.Test.YtjkijboljffmcabGramM
import Derived.Lib.BitFns
import Derived.Laws.BitsAllLaws
import Derived.Laws.BitsLemmas
namespace Go.Proofs.Ytjkijboljffmcab
open Go.RowKit
set_option linter.unusedVariables false
namespace Wd
theorem aux_iff : ∀ (f x k : Nat), x < 2 ^ f → (x / 2 ^ k = 0 ↔ Lib.bitLenAux f x ≤ k)
  | 0, x, k, h => by
    have : x = 0 := by simp at h; exact h
    subst this; simp [Lib.bitLenAux]
  | f + 1, x, k, h => by
    rw [Lib.bitLenAux]
    by_cases h0 : x = 0
    · subst h0; simp
    · rw [if_neg h0]
      cases k with
      | zero => simp; exact h0
      | succ k =>
        have h2 : x / 2 < 2 ^ f := by rw [Nat.pow_succ] at h; omega
        have ih := aux_iff f (x / 2) k h2
        rw [show x / 2 ^ (k + 1) = x / 2 / 2 ^ k from by rw [Nat.pow_succ, Nat.mul_comm, Nat.div_div_eq_div_mul], ih]
        omega
theorem bitLen_iff {t k : Nat} (ht : t ≤ 1000000000000000) : t / 2 ^ k = 0 ↔ Lib.bitLen t ≤ k := aux_iff 64 t k (by omega)
theorem bitLen_bd {t : Nat} (ht : t ≤ 1000000000000000) : Lib.bitLen t ≤ 50 := (bitLen_iff ht).1 (Nat.div_eq_of_lt (by omega))
theorem bitLen_pos {t : Nat} (ht : t ≤ 1000000000000000) (h0 : 0 < t) : 1 ≤ Lib.bitLen t := by
  rcases Nat.eq_zero_or_pos (Lib.bitLen t) with h | h
  · have := (bitLen_iff (k := 0) ht).2 (by omega)
    simp at this; omega
  · exact h
/-- the digit of a number -/
def bitOf (t k : Nat) : Bool := decide (t / 2 ^ k % 2 = 1)
/-- a pair of two rules -/
def pairR (a b : Nat) : Rl := ⟨⟨#[]⟩, (a : Int), (b : Int)⟩
/-- what is added for a digit -/
def pNews (n root : Nat) (b : Bool) : List Rl := if b then [pairR (n - 1) (n - 1), pairR n root] else [pairR (n - 1) (n - 1)]
/-- the digits below a number, from above on -/
def powFrom (t root : Nat) : Nat → List Rl → List Rl
  | 0, rs => rs
  | d + 1, rs => powFrom t root d (rs ++ pNews rs.length root (bitOf t d))
theorem powFrom_len (t root : Nat) : ∀ d rs, (powFrom t root d rs).length ≤ rs.length + 2 * d
  | 0, rs => by simp [powFrom]
  | d + 1, rs => by
    have := powFrom_len t root d (rs ++ pNews rs.length root (bitOf t d))
    rw [powFrom]
    have h2 : (pNews rs.length root (bitOf t d)).length ≤ 2 := by unfold pNews; split <;> simp
    rw [List.length_append] at this
    omega
theorem sumL_app (a b : List Rl) : sumL (a ++ b) = sumL a + sumL b := by simp [sumL]
theorem pNews_sum (n root : Nat) (b : Bool) : sumL (pNews n root b) = 0 := by unfold pNews; split <;> rfl
theorem powFrom_sum (t root : Nat) : ∀ d rs, sumL (powFrom t root d rs) = sumL rs
  | 0, rs => rfl
  | d + 1, rs => by rw [powFrom, powFrom_sum t root d, sumL_app, pNews_sum]; rfl
/-- the rules of a power -/
def powG (gs : List Rl) (t : Nat) : List Rl := powFrom t (gs.length - 1) (Lib.bitLen t - 1) gs
theorem bit_and (t k : Nat) (ht : t ≤ 1000000000000000) : bits .and .i64 ((t / 2 ^ k : Nat) : Int) 1 = (if bitOf t k then 1 else 0 : Int) := by
  have hq : t / 2 ^ k ≤ 1000000000000000 := Nat.le_trans (Nat.div_le_self _ _) ht
  unfold bitOf
  generalize t / 2 ^ k = q at *
  show IntKind.i64.wrap ((BitVec.ofInt 64 (q : Int) &&& BitVec.ofInt 64 1).toNat : Int) = _
  have h1 : (BitVec.ofInt 64 (q : Int)).toNat = q := by rw [BitVec.ofInt_natCast, BitVec.toNat_ofNat]; exact Nat.mod_eq_of_lt (by omega)
  have h2 : (BitVec.ofInt 64 (1 : Int)).toNat = 1 := rfl
  rw [BitVec.toNat_and, h1, h2, Nat.and_one_is_mod, IntKind.wrap_i64]
  have h3 : q % 2 = 0 ∨ q % 2 = 1 := by omega
  rcases h3 with h3 | h3 <;> rw [h3] <;> simp
end Wd
end Go.Proofs.Ytjkijboljffmcab
