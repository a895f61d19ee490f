/-
  Walk: spec.l04Letter at a letter's byte.
-/
import Derived.Test.YtkkbanbhiojllaaLetN
namespace Go.Proofs.Ytkkbanbhiojllaa
open Go.RowKit
set_option linter.unusedVariables false
theorem sLetC_any (c : UInt8) (h1 : 97 ≤ (c.toNat : Int)) (h2 : (c.toNat : Int) ≤ 100) (W : World) :
    Calls Try.prog 51 #[.int .u8 ((((⟨#[c]⟩ : ByteArray)[0]'(Nat.zero_lt_one)).toNat : Nat) : Int)] W fun e w' => e = .returned (.int .i64 ((c.toNat - 97 : Nat) : Int)) ∧ w' = W := by
  show Calls Try.prog 51 #[.int .u8 ((c.toNat : Nat) : Int)] W _
  have := letterN_any (c.toNat - 97) (by omega) W
  rwa [show 97 + (c.toNat - 97) = c.toNat from by omega] at this
end Go.Proofs.Ytkkbanbhiojllaa
