/-
  The place of a letter among all letters (wants Shelf with strings_Index_one).
-/
import Derived.Test.YtaffachjopjbgaaShelf
import Derived.Test.YtaffachjopjbgaaBase
namespace Go.Proofs.Ytaffachjopjbgaa
open Go.RowKit
open Wd
set_option linter.unusedVariables false
theorem idx_letter (b : UInt8) (d : Nat) (hb : (b.toNat : Int) = (d : Int) + 97) (hd : d < 4) (w : World) :
    Calls Try.prog 183 #[.string ⟨#[97, 98, 99, 100]⟩, .string ⟨#[b]⟩] w fun e w' => e = .returned (.int .i64 (d : Int)) ∧ w' = w := by
  refine (Try.strings_Index_one ⟨#[97, 98, 99, 100]⟩ b w).mono fun e w' he => ⟨he.1.trans (ret_int ?_), he.2⟩
  obtain rfl : b = UInt8.ofNat (d + 97) := by
    apply UInt8.toNat_inj.1
    simp
    omega
  match d, hd with
  | 0, _ => rfl
  | 1, _ => rfl
  | 2, _ => rfl
  | 3, _ => rfl
end Go.Proofs.Ytaffachjopjbgaa
