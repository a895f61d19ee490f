/-
  Walks: spec.FibonacciWord, impl.FibonacciWord.
-/
import Derived.Test.YtiibadmijhbioacProg
import Derived.WalkKit
import Derived.WalkSpells
import Derived.WalkLawsBesides
import Derived.Lib.Hide
namespace Go.Proofs.Ytiibadmijhbioac
open Go.RowKit
set_option linter.unusedVariables false

namespace Wd
/-- the Fibonacci words -/
def fibB : Nat → ByteArray
  | 0 => ⟨#[98]⟩
  | 1 => ⟨#[97]⟩
  | n + 2 => fibB (n + 1) ++ fibB n
/-- their lengths -/
def fibN : Nat → Nat
  | 0 => 1
  | 1 => 1
  | n + 2 => fibN (n + 1) + fibN n
theorem fibB_size : ∀ n, (fibB n).size = fibN n
  | 0 => rfl
  | 1 => rfl
  | n + 2 => by rw [fibB, fibN, ByteArray.size_append, fibB_size (n + 1), fibB_size n]
theorem fibN_mono : ∀ n, fibN n ≤ fibN (n + 1) ∧ 1 ≤ fibN n
  | 0 => by decide
  | n + 1 => by
    have := fibN_mono n
    rw [show fibN (n + 1 + 1) = fibN (n + 1) + fibN n from rfl]
    omega
theorem fibN_le {a b : Nat} (h : a ≤ b) : fibN a ≤ fibN b := by
  induction h with
  | refl => exact Nat.le_refl _
  | step _ ih => exact Nat.le_trans ih (fibN_mono _).1
theorem fibN_small {k : Nat} (h : k ≤ 16) : fibN k ≤ 2000 := Nat.le_trans (fibN_le h) (by decide)
theorem fibN_big {k : Nat} (h : 17 ≤ k) : 2000 < fibN k := Nat.lt_of_lt_of_le (by decide) (fibN_le h)
theorem fibN_21 {k : Nat} (h : k ≤ 22) : fibN k ≤ 100000 := Nat.le_trans (fibN_le h) (by decide)
end Wd
open Wd

/-- what FibonacciWord answers -/
def FibSaid (n : Int) (r : ByteArray) (c : Int) : Prop :=
  ((n < 0 ∨ 20 < n) ∧ r = ⟨#[]⟩ ∧ c = 2) ∨
  (∃ k : Nat, n = k ∧ 17 ≤ k ∧ k ≤ 20 ∧ r = ⟨#[]⟩ ∧ c = 3) ∨
  (∃ k : Nat, n = k ∧ k ≤ 16 ∧ r = fibB k ∧ c = 0)
theorem fib_said (n : Int) : ∃ r c, FibSaid n r c := by
  by_cases h : n < 0 ∨ 20 < n
  · exact ⟨_, _, .inl ⟨h, rfl, rfl⟩⟩
  obtain ⟨k, rfl⟩ := Int.eq_ofNat_of_zero_le (show 0 ≤ n by omega)
  by_cases h2 : 17 ≤ k
  · exact ⟨_, _, .inr (.inl ⟨k, rfl, h2, by omega, rfl, rfl⟩)⟩
  · exact ⟨_, _, .inr (.inr ⟨k, rfl, by omega, rfl, rfl⟩)⟩

theorem ret_sc {a b : ByteArray} {k : IntKind} {c d : Int} (h : a = b) (h' : c = d) : Ending.returned (.tuple #[.string a, .int k c]) = .returned (.tuple #[.string b, .int k d]) := by rw [h, h']

theorem specFib_out (n : Int) (w : World) (h : n < 0 ∨ 20 < n) :
    Calls Try.prog 5 #[.int .i64 n] w fun e w' => e = .returned (.tuple #[.string ⟨#[]⟩, .int .i64 2]) ∧ w = w' := by
  rcases h with h | h
  · go_enter Try.func5, Try.ntmps5
    go_wp2
    go_ret2
    exact ⟨rfl, rfl⟩
  · have h1 : ¬ n ≤ 20 := by omega
    have h2 : 0 ≤ n := by omega
    go_enter Try.func5, Try.ntmps5
    go_wp2
    go_ret2
    exact ⟨rfl, rfl⟩
theorem implFib_out (n : Int) (w : World) (h : n < 0 ∨ 20 < n) :
    Calls Try.prog 6 #[.int .i64 n] w fun e w' => e = .returned (.tuple #[.string ⟨#[]⟩, .int .i64 2]) ∧ w = w' := by
  rcases h with h | h
  · go_enter Try.func6, Try.ntmps6
    go_wp2
    go_ret2
    exact ⟨rfl, rfl⟩
  · have h1 : decide (n < 0) = false := by simp; omega
    go_enter Try.func6, Try.ntmps6
    go_wp2
    go_ret2
    exact ⟨rfl, rfl⟩

set_option maxRecDepth 100000 in
set_option maxHeartbeats 400000 in
theorem specFib_in (n : Nat) (hn : n ≤ 20) (r : ByteArray) (c : Int) (h : FibSaid n r c) (w : World) :
    Calls Try.prog 5 #[.int .i64 n] w fun e w' => e = .returned (.tuple #[.string r, .int .i64 c]) ∧ w = w' := by
  have H := Lib.hid h
  clear h
  have n0 : (0 : Int) ≤ (n : Int) := by omega
  have n1 : (n : Int) ≤ 20 := by omega
  go_enter Try.func5, Try.ntmps5
  go_wp2
  go_loop [4, 5, 6, 7] (fun a b i _ => ∃ k : Nat, k ≤ n ∧ k ≤ 16 ∧ i = .int .i64 k ∧ a = .string (fibB k) ∧ b = .string (fibB (k + 1))) (fun _ _ i _ => n - (intOf i).toNat)
  case atStart => exact ⟨0, Nat.zero_le _, by omega, rfl, rfl, rfl⟩
  case round =>
    obtain ⟨k, hk, hk16, rfl, rfl, rfl⟩ := hrel
    have s1 := fibB_size k
    have s2 := fibB_size (k + 1)
    have l1 := fibN_21 (k := k) (by omega)
    have l2 := fibN_21 (k := k + 1) (by omega)
    by_cases hlt : k < n
    · have hadd := run_string_add_sum (P := Try.prog) w (fibB (k + 1)) (fibB k) (by omega)
      rw [show fibB (k + 1) ++ fibB k = fibB (k + 2) from rfl] at hadd
      by_cases hbig : k = 16
      · have hs : (2000 : Int) < ((fibB (k + 1)).size : Int) := by
          have := fibN_big (k := k + 1) (by omega)
          omega
        have hcode : r = ⟨#[]⟩ ∧ c = 3 := by
          rcases H.out with ⟨h, _⟩ | ⟨q, hq, h17, _, hr, hc⟩ | ⟨q, hq, h16, _⟩
          · omega
          · exact ⟨hr, hc⟩
          · omega
        have HC := Lib.hid hcode
        generalize fibB (k + 1) = X at *
        generalize fibB k = Y at *
        clear s1 s2 l1 l2 hcode hbig H
        go_wp2
        go_ret2
        exact ⟨ret_sc HC.out.1.symm HC.out.2.symm, rfl⟩
      · have hs : ¬ (2000 : Int) < ((fibB (k + 1)).size : Int) := by
          have := fibN_small (k := k + 1) (by omega)
          omega
        have hrelN : fibB (k + 1 + 1) = fibB (k + 2) := rfl
        have HR := Lib.hid hrelN
        clear hrelN s1 s2 l1 l2
        go_wp2
        go_round
        case rel => exact ⟨k + 1, by omega, by omega, by go_num, rfl, rfl⟩
        case measure => simp [intOf]; omega
    · have hcode : r = fibB k ∧ c = 0 := by
        have hkn : k = n := by omega
        rcases H.out with ⟨h, _⟩ | ⟨q, hq, h17, _, hr, hc⟩ | ⟨q, hq, h16, hr, hc⟩
        · omega
        · omega
        · have : q = k := by omega
          subst this; exact ⟨hr, hc⟩
      have HC := Lib.hid hcode
      clear hcode s1 s2 l1 l2 H
      go_wp2
      go_ret2
      exact ⟨ret_sc HC.out.1.symm HC.out.2.symm, rfl⟩

set_option maxRecDepth 100000 in
set_option maxHeartbeats 400000 in
theorem implFib_in (n : Nat) (hn : n ≤ 20) (r : ByteArray) (c : Int) (h : FibSaid n r c) (w : World) :
    Calls Try.prog 6 #[.int .i64 n] w fun e w' => e = .returned (.tuple #[.string r, .int .i64 c]) ∧ w = w' := by
  have H := Lib.hid h
  clear h
  have n0 : decide ((n : Int) < 0) = false := by simp
  have n1 : decide ((20 : Int) < (n : Int)) = false := by simp; omega
  go_enter Try.func6, Try.ntmps6
  go_wp2
  go_loop [4, 5, 13] (fun a b i => ∃ k : Nat, k ≤ n ∧ k ≤ 16 ∧ i = .int .i64 k ∧ a = .string (fibB k) ∧ b = .string (fibB (k + 1))) (fun _ _ i => n - (intOf i).toNat)
  case atStart => exact ⟨0, Nat.zero_le _, by omega, rfl, rfl, rfl⟩
  case round =>
    obtain ⟨k, hk, hk16, rfl, rfl, rfl⟩ := hrel
    have s1 := fibB_size k
    have s2 := fibB_size (k + 1)
    have l1 := fibN_21 (k := k) (by omega)
    have l2 := fibN_21 (k := k + 1) (by omega)
    by_cases hlt : k < n
    · have hadd := run_string_add_sum (P := Try.prog) w (fibB (k + 1)) (fibB k) (by omega)
      rw [show fibB (k + 1) ++ fibB k = fibB (k + 2) from rfl] at hadd
      by_cases hbig : k = 16
      · have hs : (2000 : Int) < ((fibB (k + 1)).size : Int) := by
          have := fibN_big (k := k + 1) (by omega)
          omega
        have hcode : r = ⟨#[]⟩ ∧ c = 3 := by
          rcases H.out with ⟨h, _⟩ | ⟨q, hq, h17, _, hr, hc⟩ | ⟨q, hq, h16, _⟩
          · omega
          · exact ⟨hr, hc⟩
          · omega
        have HC := Lib.hid hcode
        generalize fibB (k + 1) = X at *
        generalize fibB k = Y at *
        clear s1 s2 l1 l2 hcode hbig H
        go_wp2
        go_ret2
        exact ⟨ret_sc HC.out.1.symm HC.out.2.symm, rfl⟩
      · have hs : ¬ (2000 : Int) < ((fibB (k + 1)).size : Int) := by
          have := fibN_small (k := k + 1) (by omega)
          omega
        clear s1 s2 l1 l2
        go_wp2
        go_round
        case rel => exact ⟨k + 1, by omega, by omega, by go_num, rfl, rfl⟩
        case measure => simp [intOf]; omega
    · have hcode : r = fibB k ∧ c = 0 := by
        have hkn : k = n := by omega
        rcases H.out with ⟨h, _⟩ | ⟨q, hq, h17, _, hr, hc⟩ | ⟨q, hq, h16, hr, hc⟩
        · omega
        · omega
        · have : q = k := by omega
          subst this; exact ⟨hr, hc⟩
      have HC := Lib.hid hcode
      clear hcode s1 s2 l1 l2 H
      go_wp2
      go_ret2
      exact ⟨ret_sc HC.out.1.symm HC.out.2.symm, rfl⟩

theorem specFib (n : Int) (r : ByteArray) (c : Int) (h : FibSaid n r c) (w : World) :
    Calls Try.prog 5 #[.int .i64 n] w fun e w' => e = .returned (.tuple #[.string r, .int .i64 c]) ∧ w = w' := by
  have h' := h
  rcases h with ⟨h, rfl, rfl⟩ | ⟨k, rfl, h17, h20, rfl, rfl⟩ | ⟨k, rfl, h16, rfl, rfl⟩
  · exact specFib_out n w h
  · exact specFib_in k h20 _ _ h' w
  · exact specFib_in k (by omega) _ _ h' w
theorem implFib (n : Int) (r : ByteArray) (c : Int) (h : FibSaid n r c) (w : World) :
    Calls Try.prog 6 #[.int .i64 n] w fun e w' => e = .returned (.tuple #[.string r, .int .i64 c]) ∧ w = w' := by
  have h' := h
  rcases h with ⟨h, rfl, rfl⟩ | ⟨k, rfl, h17, h20, rfl, rfl⟩ | ⟨k, rfl, h16, rfl, rfl⟩
  · exact implFib_out n w h
  · exact implFib_in k h20 _ _ h' w
  · exact implFib_in k (by omega) _ _ h' w
end Go.Proofs.Ytiibadmijhbioac
