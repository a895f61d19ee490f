/-
  Walks: spec.l01Times, spec.PowerWord, impl.PowerWord.
-/
import Derived.Test.YtiibadmijhbioaaTurn
import Derived.Test.YtiibadmijhbioaaShelf
import Derived.Lib.AppendStr
namespace Go.Proofs.Ytiibadmijhbioaa
open Go.RowKit
open Wd
set_option linter.unusedVariables false

namespace Wd
theorem repeatL_snoc (l : List UInt8) : ∀ c, Lib.repeatL l (c + 1) = Lib.repeatL l c ++ l
  | 0 => by simp [Lib.repeatL]
  | c + 1 => by
    have := repeatL_snoc l c
    show l ++ Lib.repeatL l (c + 1) = (l ++ Lib.repeatL l c) ++ l
    rw [this, List.append_assoc]
theorem strCells_bv (s : ByteArray) : Lib.strCells s = bv s.data.toList := rfl
theorem mul_step {a k c : Nat} (h : k < c) (hc : a * c ≤ 1000000) : a * k + a ≤ 1000000 := by
  have : a * (k + 1) ≤ a * c := Nat.mul_le_mul_left a (by omega)
  rw [Nat.mul_succ] at this
  omega
theorem fits_of {a c : Nat} (ha : 0 < a) (h : a * c ≤ 2000) : ¬ (2000 / (a : Int) < (c : Int)) := by
  have h1 : c ≤ 2000 / a := (Nat.le_div_iff_mul_le ha).2 (by rw [Nat.mul_comm]; exact h)
  have h2 : ((2000 / a : Nat) : Int) = 2000 / (a : Int) := by simp
  omega
theorem not_fits_of {a c : Nat} (ha : 0 < a) (h : 2000 < a * c) : 2000 / (a : Int) < (c : Int) := by
  have h1 : ¬ c ≤ 2000 / a := by
    intro hc
    have := (Nat.le_div_iff_mul_le ha).1 hc
    rw [Nat.mul_comm] at this
    omega
  have h2 : ((2000 / a : Nat) : Int) = 2000 / (a : Int) := by simp
  omega
end Wd

set_option maxHeartbeats 400000 in
theorem specTimes (s : ByteArray) (c : Nat) (w : World) (hs : s.size * c ≤ 1000000) (h1 : s.size ≤ 1000000) (h2 : c ≤ 1000000) :
    Calls Try.prog 64 #[.string s, .int .i64 c] w fun e w' => e = .returned (.string ⟨(Lib.repeatL s.data.toList c).toArray⟩) ∧ Below w.heap.size w w' := by
  obtain ⟨i0, hi, hz0, hz1, hz2⟩ := info_parts Try.info_u8
  go_enter Try.func64, Try.ntmps64
  go_wp2
  go_loopw [5, 6] (fun v i wr => ∃ k n : Nat, k ≤ c ∧ n = s.size * k ∧ i = .int .i64 k ∧ wr.ownsRow w.heap.size 5 1 v n (bv (Lib.repeatL s.data.toList k)) ∧ Below w.heap.size w wr)
    (fun _ i _ => c - (intOf i).toNat)
  case atStart => exact ⟨0, 0, Nat.zero_le _, rfl, rfl, World.ownsRow_lit w #[] 0 (Nat.le_refl _) (by decide) rfl, (Below.refl _ _).alloc (Nat.le_refl _) _⟩
  case round =>
    obtain ⟨k, n, hk, hn, rfl, hown, hB⟩ := hrel
    have hsz := hB.size
    by_cases hlt : k < c
    · have hst := mul_step hlt hs
      have hn1 : n + s.size ≤ 1000000 := by omega
      have HN := Lib.hid hn
      clear hn hst
      go_wp2_with (first | (at_builtin; refine Lib.wpList_append_own_string _ rfl _ _ 22 9 rfl w.heap.size 5 i0 Try.underlying22 Try.underlying9 hi hz0 hz1 hz2 _ _ _ rfl hown s rfl ?c1 ?c2 ?c3 ?_))
      case c1 => unfold maxLen; omega
      case c2 => omega
      case c3 => omega
      intro v' w1 hown' hgrow _
      have hb1 : Below w.heap.size w w1 := hB.grown hgrow hsz (fun q hq => (hown.lt q hq).1)
      have hown1 : w1.ownsRow w.heap.size 5 1 v' (n + s.size) (bv (Lib.repeatL s.data.toList (k + 1))) := by
        rw [repeatL_snoc, bv_app]; exact hown'
      clear hown' hgrow hown hB
      go_wp2
      go_roundw
      case rel => exact ⟨k + 1, n + s.size, by omega, by rw [Nat.mul_succ, HN.out], by go_num, hown1, hb1⟩
      case measure => simp [intOf]; omega
    · have hkc : k = c := by omega
      have hconv := conv_owned (P := Try.prog) (src := 22) (dst := 9) hown Try.underlying22 Try.underlying5 Try.underlying9
      rw [hkc] at hconv
      clear hown hn
      have HK := Lib.hid hkc
      clear hkc
      go_wp2
      go_ret
      exact ⟨rfl, hB⟩

/-- what PowerWord answers -/
def PowSaid (s : ByteArray) (t : Int) (r : ByteArray) (c : Int) : Prop :=
  (okL s.data.toList = false ∧ r = ⟨#[]⟩ ∧ c = 1) ∨
  (okL s.data.toList = true ∧ t < 0 ∧ r = ⟨#[]⟩ ∧ c = 2) ∨
  (okL s.data.toList = true ∧ s.size = 0 ∧ 0 ≤ t ∧ r = ⟨#[]⟩ ∧ c = 0) ∨
  (okL s.data.toList = true ∧ 0 < s.size ∧ 0 ≤ t ∧ (2000 : Int) < s.size * t ∧ r = ⟨#[]⟩ ∧ c = 3) ∨
  (okL s.data.toList = true ∧ 0 < s.size ∧ ∃ k : Nat, t = k ∧ s.size * k ≤ 2000 ∧ r = ⟨(Lib.repeatL s.data.toList k).toArray⟩ ∧ c = 0)
theorem pow_said (s : ByteArray) (t : Int) : ∃ r c, PowSaid s t r c := by
  cases h : okL s.data.toList
  · exact ⟨_, _, .inl ⟨h, rfl, rfl⟩⟩
  by_cases h1 : t < 0
  · exact ⟨_, _, .inr (.inl ⟨h, h1, rfl, rfl⟩)⟩
  by_cases h2 : s.size = 0
  · exact ⟨_, _, .inr (.inr (.inl ⟨h, h2, by omega, rfl, rfl⟩))⟩
  by_cases h3 : (2000 : Int) < s.size * t
  · exact ⟨_, _, .inr (.inr (.inr (.inl ⟨h, by omega, by omega, h3, rfl, rfl⟩)))⟩
  · obtain ⟨k, rfl⟩ := Int.eq_ofNat_of_zero_le (Int.not_lt.1 h1)
    exact ⟨_, _, .inr (.inr (.inr (.inr ⟨h, by omega, k, rfl, by have := Int.not_lt.1 h3; rw [← Int.natCast_mul] at this; omega, rfl, rfl⟩)))⟩

theorem specPower (s : ByteArray) (t : Int) (r : ByteArray) (c : Int) (w : World) (hs : s.size ≤ maxLen) (ht : (Lit.int .i64 t).wf = true) (h : PowSaid s t r c) :
    Calls Try.prog 41 #[.string s, .int .i64 t] w fun e w' => e = .returned (.tuple #[.string r, .int .i64 c]) ∧ Below w.heap.size w w' := by
  have c1 := specOk s w hs
  rcases h with ⟨h, rfl, rfl⟩ | ⟨h, h1, rfl, rfl⟩ | ⟨h, h1, h2, rfl, rfl⟩ | ⟨h, h1, h2, h3, rfl, rfl⟩ | ⟨h, h1, k, rfl, h2, rfl, rfl⟩
  · rw [h] at c1
    have C1 := Lib.hid c1
    clear c1 h
    go_enter Try.func41, Try.ntmps41
    go_wp2_with (go_at_call 62; refine C1.out.mono ?_; rintro e w' ⟨rfl, rfl⟩)
    go_ret2
    exact ⟨rfl, Below.refl _ _⟩
  · rw [h] at c1
    have C1 := Lib.hid c1
    clear c1 h
    go_enter Try.func41, Try.ntmps41
    go_wp2_with (go_at_call 62; refine C1.out.mono ?_; rintro e w' ⟨rfl, rfl⟩)
    go_ret2
    exact ⟨rfl, Below.refl _ _⟩
  · rw [h] at c1
    have C1 := Lib.hid c1
    have h3 : ((s.size : Int) == 0) = true := by rw [beq_iff_eq]; omega
    clear c1 h h1
    go_enter Try.func41, Try.ntmps41
    go_wp2_with (go_at_call 62; refine C1.out.mono ?_; rintro e w' ⟨rfl, rfl⟩)
    go_ret2
    exact ⟨rfl, Below.refl _ _⟩
  · have hl := okL_len h
    simp at hl
    rw [h] at c1
    have C1 := Lib.hid c1
    have h4 : ((s.size : Int) == 0) = false := by rw [beq_eq_false_iff_ne]; omega
    have h5 : ¬ t < 0 := by omega
    obtain ⟨k, rfl⟩ := Int.eq_ofNat_of_zero_le h2
    clear c1 h
    by_cases hk : (2000 : Int) < (k : Int)
    · go_enter Try.func41, Try.ntmps41
      go_wp2_with (go_at_call 62; refine C1.out.mono ?_; rintro e w' ⟨rfl, rfl⟩)
      go_ret2
      exact ⟨rfl, Below.refl _ _⟩
    · have hb : (s.size : Int) * (k : Int) ≤ 4000000 := by
        have : s.size * k ≤ 2000 * 2000 := Nat.mul_le_mul (by omega) (by omega)
        rw [← Int.natCast_mul]; omega
      have hk' : decide ((2000 : Int) < (k : Int)) = false := by simpa using hk
      generalize hp : (s.size : Int) * (k : Int) = p at h3 hb
      have hw : IntKind.i64.wrap ((s.size : Int) * (k : Int)) = p := by rw [hp]; exact IntWalk.i64_in _ (by omega)
      clear hp
      go_enter Try.func41, Try.ntmps41
      go_wp2_with (go_at_call 62; refine C1.out.mono ?_; rintro e w' ⟨rfl, rfl⟩)
      go_ret2
      exact ⟨rfl, Below.refl _ _⟩
  · have hl := okL_len h
    simp at hl
    rw [h] at c1
    have C1 := Lib.hid c1
    have hk2 : k ≤ 2000 := Nat.le_trans (Nat.le_mul_of_pos_left k h1) h2
    have c2 := specTimes s k w (by omega) (by omega) (by omega)
    have C2 := Lib.hid c2
    have h4 : ((s.size : Int) == 0) = false := by rw [beq_eq_false_iff_ne]; omega
    have h5 : ¬ (k : Int) < 0 := by omega
    have hk' : decide ((2000 : Int) < (k : Int)) = false := by simp; omega
    have hb : (s.size : Int) * (k : Int) ≤ 2000 := by rw [← Int.natCast_mul]; omega
    have hb0 : 0 ≤ (s.size : Int) * (k : Int) := Int.mul_nonneg (by omega) (by omega)
    generalize hp : (s.size : Int) * (k : Int) = p at hb hb0
    have hw : IntKind.i64.wrap ((s.size : Int) * (k : Int)) = p := by rw [hp]; exact IntWalk.i64_in _ (by omega)
    clear hp c1 h c2 h2
    go_enter Try.func41, Try.ntmps41
    go_wp2_with (first | (go_at_call 62; refine C1.out.mono ?_; rintro e w' ⟨rfl, rfl⟩) | (go_at_call 64; refine C2.out.mono ?_; rintro e w' ⟨rfl, hB⟩))
    go_ret2
    exact ⟨rfl, hB⟩
end Go.Proofs.Ytiibadmijhbioaa
