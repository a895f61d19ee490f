/-
  Walk: strings.Index of a letter among all; ranks by parts.
-/
import Derived.Test.YtlkjceolddccbaaTaR
import Derived.Test.YtlkjceolddccbaaIsL
import Derived.Test.YtlkjceolddccbaaIdx
namespace Go.Proofs.Ytlkjceolddccbaa
open Go.RowKit
open Wd
set_option linter.unusedVariables false
theorem idxL_any (s : ByteArray) (h : isL s = true) (w : World) :
    Calls Try.prog 120 #[.string ⟨#[97, 98, 99, 100]⟩, .string s] w fun e w' => e = .returned (.int .i64 (lNo s : Int)) ∧ w' = w := by
  obtain ⟨c, rfl, h1, h2, h3⟩ := isL_byte h
  rw [h3]
  exact idx_letter c (c.toNat - 97) (by omega) (by omega) w
theorem rank_impl {gs : List Rl} (hok : gOk gs = true) {l : Nat} (hl : l < 4) {n : Int} (hn : 0 ≤ n ∧ n ≤ wordLen gs) : (taPart gs 0 n).getD l 0 = rankF gs (taAt gs) l gs.length (gs.length - 1) n := by
  rcases Nat.eq_zero_or_pos gs.length with h0 | h0
  · have := wordLen_zero h0
    obtain rfl : n = 0 := by omega
    rw [h0]
    unfold taPart
    rw [if_pos rfl, taNil_get l hl]
    rfl
  · exact taPart_get hok h0 l hl n hn.1
end Go.Proofs.Ytlkjceolddccbaa
