/-
  Walk: a2At.
-/
import Derived.Test.YtdfdeppfhadopaaLawRowB
namespace Go.Proofs.Ytdfdeppfhadopaa
open Go.RowKit
open Wd
set_option linter.unusedVariables false

set_option maxHeartbeats 800000 in
theorem a2At (a : Option Addr) (len cap : Nat) (w : World) (hl : len ≤ 1000000) (h : Bytes w a len) (k m : Nat) (hk : k ≤ 1000000) (hm0 : 1 ≤ m) (hm : m ≤ 1000000) :
    Calls Try.prog 10 #[.slice a len cap, .int .i64 (k : Int), .int .i64 (m : Int)] w fun e w' => ∃ r : Nat, e = .returned (.int .i64 (r : Int)) ∧ r < m ∧ Drawn w w' := by
  have t1 : ¬ (m : Int) < 1 := by omega
  have t2 : ¬ (m : Int) = 0 := by omega
  by_cases h1 : len ≤ k
  · have t3 : (len : Int) ≤ (k : Int) := by omega
    have HM := Lib.hid hm0
    clear hm0
    go_enter Try.func10, Try.ntmps10
    go_wp2
    go_ret
    exact ⟨0, rfl, HM.out, Drawn.refl _⟩
  · rcases h with h | ⟨A, rfl, h⟩
    · omega
    · obtain ⟨c, hc, hh⟩ := h k (by omega)
      have t3 : ¬ (len : Int) ≤ (k : Int) := by omega
      have t4 : (k : Int) < (len : Int) := by omega
      have HM := Lib.hid hm0
      have HC := Lib.hid hc
      clear hm0 h hc
      go_enter Try.func10, Try.ntmps10
      go_wp2
      go_ret
      have e : (wrap64 (c : Int)).tmod (m : Int) = ((c % m : Nat) : Int) := by
        rw [show wrap64 (c : Int) = c from by have := HC.out; unfold wrap64; omega]; rfl
      exact ⟨c % m, by simp [e], Nat.mod_lt _ (by have := HM.out; omega), Drawn.refl _⟩

end Go.Proofs.Ytdfdeppfhadopaa
