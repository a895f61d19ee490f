/-
  Depths of rules. Nothing of the program.
-/
import Derived.Test.YtlkjceolddccbaaGramM
namespace Go.Proofs.Ytlkjceolddccbaa
open Go.RowKit
set_option linter.unusedVariables false
namespace Wd
def depJ (a b : Int) : Int := 1 + max a b
/-- the depth of a rule -/
def depV (gs : List Rl) (k : Nat) : Int := (vals depJ gs).getD k 0
theorem depV_letter {gs : List Rl} (k : Nat) (hk : k < gs.length) (h0 : gs[k].L.size ≠ 0) : depV gs k = 1 := vals_letter _ gs k hk h0
theorem depV_next {gs : List Rl} (hf : fits gs = true) (k : Nat) (hk : k < gs.length) (h0 : gs[k].L.size = 0) :
    ∃ a b : Nat, gs[k].l = a ∧ gs[k].r = b ∧ a < k ∧ b < k ∧ depV gs k = depJ (depV gs a) (depV gs b) := by
  obtain ⟨⟨a1, a2⟩, b1, b2⟩ := (ok_pair h0).1 (fits_at hf k hk)
  exact ⟨gs[k].l.toNat, gs[k].r.toNat, by omega, by omega, by omega, by omega, vals_pair _ gs k hk h0 (fits_at hf k hk)⟩
theorem depV_bd {gs : List Rl} (hf : fits gs = true) : ∀ n k, k < n → k < gs.length → 1 ≤ depV gs k ∧ depV gs k ≤ k + 1
  | 0, k, h, _ => by omega
  | n + 1, k, h, hk => by
    by_cases h0 : gs[k].L.size = 0
    · obtain ⟨a, b, _, _, hak, hbk, hs⟩ := depV_next hf k hk h0
      have pa := depV_bd hf n a (by omega) (by omega)
      have pb := depV_bd hf n b (by omega) (by omega)
      rw [hs]
      unfold depJ
      omega
    · rw [depV_letter k hk h0]; omega
theorem depV_pos {gs : List Rl} (hf : fits gs = true) (k : Nat) (hk : k < gs.length) : 1 ≤ depV gs k ∧ depV gs k ≤ k + 1 := depV_bd hf (k + 1) k (by omega) hk
/-- depths so far, a 0 in front -/
def depK (gs : List Rl) (k : Nat) : List Int := 0 :: vals depJ (gs.take k)
theorem depK_len (gs : List Rl) (k : Nat) (h : k ≤ gs.length) : (depK gs k).length = k + 1 := by simp [depK, vals_len]; omega
theorem depK_snoc (gs : List Rl) (k : Nat) (h : k < gs.length) : depK gs (k + 1) = depK gs k ++ [depV gs k] := by
  unfold depK depV
  rw [vals_take_succ _ gs k h, vals_get _ gs k h]
  rfl
theorem depK_at {gs : List Rl} {j k : Nat} (h : j < k) (hk : k ≤ gs.length) : (depK gs k)[j + 1]? = some (depV gs j) := by
  unfold depK depV
  rw [List.getElem?_cons_succ, ← vals_take, List.getElem?_take, if_pos h]
  have : j < (vals depJ gs).length := by rw [vals_len]; omega
  rw [List.getD_eq_getElem?_getD, List.getElem?_eq_getElem this, Option.getD_some]
/-- the answer of DepthOf -/
def depAns (gs : List Rl) : Int := if gs.length = 0 then 0 else depV gs (gs.length - 1)
end Wd
end Go.Proofs.Ytlkjceolddccbaa
