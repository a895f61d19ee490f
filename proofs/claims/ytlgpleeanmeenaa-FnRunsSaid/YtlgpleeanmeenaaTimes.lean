/-
  Walks: spec.l01Times.
-/
import Derived.Test.YtlgpleeanmeenaaBase
import Derived.Lib.AppendStr
import Derived.Lib.Repeat
namespace Go.Proofs.Ytlgpleeanmeenaa
open Go.RowKit
open Wd
set_option linter.unusedVariables false

namespace Wd
theorem repeatL_snoc (l : List UInt8) : ∀ c, Lib.repeatL l (c + 1) = Lib.repeatL l c ++ l
  | 0 => by simp [Lib.repeatL]
  | c + 1 => by
    have := repeatL_snoc l c
    show l ++ Lib.repeatL l (c + 1) = (l ++ Lib.repeatL l c) ++ l
    rw [this, List.append_assoc]
theorem strCells_bv (s : ByteArray) : Lib.strCells s = bv s.data.toList := rfl
theorem mul_step {a k c : Nat} (h : k < c) (hc : a * c ≤ 1000000) : a * k + a ≤ 1000000 := by
  have : a * (k + 1) ≤ a * c := Nat.mul_le_mul_left a (by omega)
  rw [Nat.mul_succ] at this
  omega
theorem fits_of {a c : Nat} (ha : 0 < a) (h : a * c ≤ 2000) : ¬ (2000 / (a : Int) < (c : Int)) := by
  have h1 : c ≤ 2000 / a := (Nat.le_div_iff_mul_le ha).2 (by rw [Nat.mul_comm]; exact h)
  have h2 : ((2000 / a : Nat) : Int) = 2000 / (a : Int) := by simp
  omega
theorem not_fits_of {a c : Nat} (ha : 0 < a) (h : 2000 < a * c) : 2000 / (a : Int) < (c : Int) := by
  have h1 : ¬ c ≤ 2000 / a := by
    intro hc
    have := (Nat.le_div_iff_mul_le ha).1 hc
    rw [Nat.mul_comm] at this
    omega
  have h2 : ((2000 / a : Nat) : Int) = 2000 / (a : Int) := by simp
  omega
end Wd

set_option maxHeartbeats 400000 in
theorem specTimes (s : ByteArray) (c : Nat) (w : World) (hs : s.size * c ≤ 1000000) (h1 : s.size ≤ 1000000) (h2 : c ≤ 1000000) :
    Calls Try.prog 89 #[.string s, .int .i64 c] w fun e w' => e = .returned (.string ⟨(Lib.repeatL s.data.toList c).toArray⟩) ∧ Below w.heap.size w w' := by
  obtain ⟨i0, hi, hz0, hz1, hz2⟩ := info_parts Try.info_u8
  go_enter Try.func89, Try.ntmps89
  go_wp2
  go_loopw [5, 6] (fun v i wr => ∃ k n : Nat, k ≤ c ∧ n = s.size * k ∧ i = .int .i64 k ∧ wr.ownsRow w.heap.size 5 1 v n (bv (Lib.repeatL s.data.toList k)) ∧ Below w.heap.size w wr)
    (fun _ i _ => c - (intOf i).toNat)
  case atStart => exact ⟨0, 0, Nat.zero_le _, rfl, rfl, World.ownsRow_lit w #[] 0 (Nat.le_refl _) (by decide) rfl, (Below.refl _ _).alloc (Nat.le_refl _) _⟩
  case round =>
    obtain ⟨k, n, hk, hn, rfl, hown, hB⟩ := hrel
    have hsz := hB.size
    by_cases hlt : k < c
    · have hst := mul_step hlt hs
      have hn1 : n + s.size ≤ 1000000 := by omega
      have HN := Lib.hid hn
      clear hn hst
      go_wp2_with (first | (at_builtin; refine Lib.wpList_append_own_string _ rfl _ _ 69 9 rfl w.heap.size 5 i0 Try.underlying69 Try.underlying9 hi hz0 hz1 hz2 _ _ _ rfl hown s rfl ?c1 ?c2 ?c3 ?_))
      case c1 => unfold maxLen; omega
      case c2 => omega
      case c3 => omega
      intro v' w1 hown' hgrow _
      have hb1 : Below w.heap.size w w1 := hB.grown hgrow hsz (fun q hq => (hown.lt q hq).1)
      have hown1 : w1.ownsRow w.heap.size 5 1 v' (n + s.size) (bv (Lib.repeatL s.data.toList (k + 1))) := by
        rw [repeatL_snoc, bv_app]; exact hown'
      clear hown' hgrow hown hB
      go_wp2
      go_roundw
      case rel => exact ⟨k + 1, n + s.size, by omega, by rw [Nat.mul_succ, HN.out], by go_num, hown1, hb1⟩
      case measure => simp [intOf]; omega
    · have hkc : k = c := by omega
      have hconv := conv_owned (P := Try.prog) (src := 69) (dst := 9) hown Try.underlying69 Try.underlying5 Try.underlying9
      rw [hkc] at hconv
      clear hown hn
      have HK := Lib.hid hkc
      clear hkc
      go_wp2
      go_ret
      exact ⟨rfl, hB⟩

end Go.Proofs.Ytlgpleeanmeenaa
