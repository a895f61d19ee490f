/-
  Lists of factors: which are valid, how long their word is. Nothing of the program.
-/
import Derived.Test.YtcaeihdfljljbaaDoorIsL
import Derived.Test.YtcaeihdfljljbaaDoorFaTo
namespace Go.Proofs.YtcaeihdfljljbaaDoor
open Go.RowKit
open Wd
set_option linter.unusedVariables false
namespace Wd
/-- may a factor come behind so many letters? -/
def facFits (x : Rl) (n : Int) : Bool :=
  if x.L.size = 0 then decide (0 ≤ x.l) && (decide (1 ≤ x.r) && decide (x.r ≤ n - x.l)) else isL x.L && (decide (x.l = 0) && decide (x.r = 0))
/-- how many letters it adds -/
def facLn (x : Rl) : Int := if x.L.size = 0 then x.r else 1
def facF : List Rl → Int → Option Int
  | [], n => some n
  | x :: xs, n => if facFits x n = true then (if n + facLn x ≤ 1000000000000000 then facF xs (n + facLn x) else none) else none
def facR (gs : List Rl) : Option Int := if gs.length ≤ 120 then facF gs 0 else none
/-- are the factors valid? -/
def facOk (gs : List Rl) : Bool := (facR gs).isSome
/-- the length of their word -/
def facN (gs : List Rl) : Int := (facR gs).getD 0
/-- the answer of FactorsLength -/
def facAns (gs : List Rl) : Int × Int := if facOk gs = true then (facN gs, 0) else (0, 1)
theorem facF_drop {gs : List Rl} {k : Nat} (n : Int) (h : k < gs.length) : facF (gs.drop k) n = if facFits gs[k] n = true then (if n + facLn gs[k] ≤ 1000000000000000 then facF (gs.drop (k + 1)) (n + facLn gs[k]) else none) else none := by
  rw [List.drop_eq_getElem_cons h]; rfl
theorem facF_end {gs : List Rl} {k : Nat} (n : Int) (h : gs.length ≤ k) : facF (gs.drop k) n = some n := by
  rw [List.drop_of_length_le h]; rfl
theorem facLn_bd {x : Rl} {n : Int} (h : facFits x n = true) (hn : 0 ≤ n) : 1 ≤ facLn x ∧ facLn x ≤ n + 1 := by
  unfold facFits at h
  unfold facLn
  split
  · next h0 =>
    rw [if_pos h0] at h
    simp only [Bool.and_eq_true, decide_eq_true_iff] at h
    omega
  · omega
theorem facR_long {gs : List Rl} (h : 120 < gs.length) : facR gs = none := by unfold facR; rw [if_neg (by omega)]
theorem facR_short {gs : List Rl} (h : gs.length ≤ 120) : facR gs = facF (gs.drop 0) 0 := by unfold facR; rw [if_pos h]; rfl
theorem fac_no {gs : List Rl} (h : facR gs = none) : facOk gs = false ∧ facN gs = 0 := by unfold facOk facN; rw [h]; exact ⟨rfl, rfl⟩
theorem fac_yes {gs : List Rl} {n : Int} (h : facR gs = some n) : facOk gs = true ∧ facN gs = n := by unfold facOk facN; rw [h]; exact ⟨rfl, rfl⟩
/-- factors with numbers of the program's width -/
def WfF (gs : List Rl) : Prop := ∀ k (h : k < gs.length), (-9223372036854775808 ≤ gs[k].l ∧ gs[k].l ≤ 9223372036854775807) ∧ (-9223372036854775808 ≤ gs[k].r ∧ gs[k].r ≤ 9223372036854775807)
end Wd
end Go.Proofs.YtcaeihdfljljbaaDoor
