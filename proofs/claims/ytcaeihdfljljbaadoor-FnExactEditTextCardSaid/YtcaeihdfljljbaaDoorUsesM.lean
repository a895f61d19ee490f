/-
  How often rules are used, as lists. Nothing of the program.
-/
import Derived.Test.YtcaeihdfljljbaaDoorGramM
import Derived.Test.YtcaeihdfljljbaaDoorIntsM
namespace Go.Proofs.YtcaeihdfljljbaaDoor
open Go.RowKit
open Wd
set_option linter.unusedVariables false

namespace Wd
/-- a sum as int64 has it -/
def add64 (a b : Int) : Int := IntKind.i64.wrap (a + b)
/-- a rule hands its uses on -/
def uStep (x : Rl) (k : Nat) (u : List Int) : List Int :=
  if x.L.size = 0 then
    (u.set x.l.toNat (add64 (u.getD x.l.toNat 0) (u.getD k 0))).set x.r.toNat
      (add64 ((u.set x.l.toNat (add64 (u.getD x.l.toNat 0) (u.getD k 0))).getD x.r.toNat 0) ((u.set x.l.toNat (add64 (u.getD x.l.toNat 0) (u.getD k 0))).getD k 0))
  else u
/-- the uses when the rules from m on have been treated -/
def uAt (gs : List Rl) : Nat → List Int
  | 0 => (List.replicate gs.length 0).set (gs.length - 1) 1
  | i + 1 => if h : gs.length - 1 - i < gs.length then uStep gs[gs.length - 1 - i] (gs.length - 1 - i) (uAt gs i) else uAt gs i
def usesOf (gs : List Rl) : List Int := uAt gs gs.length
theorem uStep_len (x : Rl) (k : Nat) (u : List Int) : (uStep x k u).length = u.length := by unfold uStep; split <;> simp
theorem uAt_len (gs : List Rl) : ∀ i, (uAt gs i).length = gs.length
  | 0 => by simp [uAt]
  | i + 1 => by
    rw [uAt]
    split
    · rw [uStep_len, uAt_len gs i]
    · exact uAt_len gs i
theorem usesOf_len (gs : List Rl) : (usesOf gs).length = gs.length := uAt_len _ _
theorem uAt_next (gs : List Rl) (m : Nat) (h : m < gs.length) : uAt gs (gs.length - m) = uStep gs[m] m (uAt gs (gs.length - (m + 1))) := by
  obtain ⟨i, hi⟩ : ∃ i, gs.length - m = i + 1 := ⟨gs.length - m - 1, by omega⟩
  have h1 : gs.length - 1 - i = m := by omega
  rw [hi, uAt, dif_pos (by omega), show gs.length - (m + 1) = i from by omega]
  simp only [h1]
theorem iv_atU {mem : List Int} {k : Nat} (h : k < mem.length) : (iv mem)[k]? = some (.int .i64 (mem.getD k 0)) := by
  simp only [iv, List.getElem?_map]
  rw [List.getD_eq_getElem?_getD, List.getElem?_eq_getElem h, Option.getD_some, Option.map_some]
end Wd

end Go.Proofs.YtcaeihdfljljbaaDoor
