/-
  Grammars without rules that do not matter, as lists of rules. 
-/
import Derived.Test.YtnhobcfpipedmaaGEqR
namespace Go.Proofs.Ytnhobcfpipedmaa
open Go.RowKit
set_option linter.unusedVariables false
namespace Wd
/-- a rule by the numbers of the first ones -/
def redR (F : List Nat) (x : Rl) : Rl := if x.L.size = 0 then ⟨⟨#[]⟩, (F.getD x.l.toNat 0 : Nat), (F.getD x.r.toNat 0 : Nat)⟩ else x
def zeroR : Rl := ⟨⟨#[]⟩, 0, 0⟩
/-- the numbers of the first ones, and the rules by them -/
def fkT (gs : List Rl) : Nat → List Nat × List Rl
  | 0 => ([], [])
  | i + 1 => ((fkT gs i).1 ++ [(fkT gs i).2.idxOf (redR (fkT gs i).1 (gs.getD i zeroR))], (fkT gs i).2 ++ [redR (fkT gs i).1 (gs.getD i zeroR)])
def fT (gs : List Rl) (i : Nat) : List Nat := (fkT gs i).1
def kT (gs : List Rl) (i : Nat) : List Rl := (fkT gs i).2
theorem fT_len (gs : List Rl) : ∀ i, (fT gs i).length = i
  | 0 => rfl
  | i + 1 => by rw [fT, fkT, List.length_append, List.length_singleton]; exact congrArg (· + 1) (fT_len gs i)
theorem kT_len (gs : List Rl) : ∀ i, (kT gs i).length = i
  | 0 => rfl
  | i + 1 => by rw [kT, fkT, List.length_append, List.length_singleton]; exact congrArg (· + 1) (kT_len gs i)
/-- the rule that comes next -/
def nxT (gs : List Rl) (i : Nat) : Rl := redR (fT gs i) (gs.getD i zeroR)
theorem fT_succ (gs : List Rl) (i : Nat) : fT gs (i + 1) = fT gs i ++ [(kT gs i).idxOf (nxT gs i)] := rfl
theorem kT_succ (gs : List Rl) (i : Nat) : kT gs (i + 1) = kT gs i ++ [nxT gs i] := rfl
theorem fT_pre (gs : List Rl) (j : Nat) : ∀ i, j < i → (fT gs i)[j]? = some ((kT gs j).idxOf (nxT gs j))
  | 0, h => by omega
  | i + 1, h => by
    rw [fT_succ]
    by_cases e : j = i
    · subst e
      rw [List.getElem?_append_right (by rw [fT_len]; exact Nat.le_refl _), fT_len, Nat.sub_self]; rfl
    · rw [List.getElem?_append_left (by rw [fT_len]; omega)]
      exact fT_pre gs j i (by omega)
theorem kT_pre (gs : List Rl) (j : Nat) : ∀ i, j < i → (kT gs i)[j]? = some (nxT gs j)
  | 0, h => by omega
  | i + 1, h => by
    rw [kT_succ]
    by_cases e : j = i
    · subst e
      rw [List.getElem?_append_right (by rw [kT_len]; exact Nat.le_refl _), kT_len, Nat.sub_self]; rfl
    · rw [List.getElem?_append_left (by rw [kT_len]; omega)]
      exact kT_pre gs j i (by omega)
theorem kT_take (gs : List Rl) (j : Nat) : ∀ i, j ≤ i → (kT gs i).take j = kT gs j
  | 0, h => by
    obtain rfl : j = 0 := by omega
    rfl
  | i + 1, h => by
    by_cases e : j = i + 1
    · subst e; exact List.take_of_length_le (by rw [kT_len]; exact Nat.le_refl _)
    · rw [kT_succ, List.take_append_of_le_length (by rw [kT_len]; omega)]
      exact kT_take gs j i (by omega)
/-- no number of a first one is above its own -/
theorem fT_le (gs : List Rl) (i j : Nat) (h : j < i) : (fT gs i).getD j 0 ≤ j := by
  rw [List.getD_eq_getElem?_getD, fT_pre gs j i h, Option.getD_some]
  have := List.idxOf_le_length (a := nxT gs j) (l := kT gs j)
  rwa [kT_len] at this
/-- the search of the specification: so far none -/
def noneT (K : List Rl) (r : Rl) (k : Nat) : Prop := ∀ j, j < k → K[j]? ≠ some r
theorem idx_none {K : List Rl} {r : Rl} (h : noneT K r K.length) : K.idxOf r = K.length := by
  refine List.idxOf_eq_length fun hm => ?_
  obtain ⟨j, hj, e⟩ := List.getElem_of_mem hm
  exact h j hj (by rw [List.getElem?_eq_getElem hj, e])
theorem idx_first {K : List Rl} {r : Rl} {k : Nat} (h : noneT K r k) (hk : K[k]? = some r) : K.idxOf r = k := by
  obtain ⟨hl, e⟩ := List.getElem?_eq_some_iff.1 hk
  induction K generalizing k with
  | nil => simp at hl
  | cons x K ih =>
    cases k with
    | zero =>
      have : x = r := by simpa using e
      rw [this]; simp
    | succ k =>
      have hx : x ≠ r := fun e => h 0 (by omega) (by rw [e]; rfl)
      rw [List.idxOf_cons, show (x == r) = false from by rw [beq_eq_false_iff_ne]; exact hx, cond_false, ih (k := k) (fun j hj => by have := h (j + 1) (by omega); simpa using this) (by simpa using hk) (by simpa using hl) (by simpa using e)]
/-- a rule that is the first of its kind is its own first -/
theorem own_first {gs : List Rl} {i k : Nat} {r : Rl} (hk : k < i) (h : noneT (kT gs i) r k) (he : (kT gs i)[k]? = some r) : (fT gs i)[k]? = some k := by
  rw [kT_pre gs k i hk] at he
  injection he with he
  rw [fT_pre gs k i hk, he]
  congr 1
  have h2 : noneT (kT gs k) r (kT gs k).length := by
    intro j hj
    rw [kT_len] at hj
    have := h j hj
    rw [kT_pre gs j i (by omega)] at this
    rw [kT_pre gs j k hj]
    exact this
  have := idx_none h2
  rwa [kT_len] at this
/-- which rules are needed, from above down to a number -/
def ndStep (K : List Rl) (nd : List Bool) (i : Nat) : List Bool :=
  if nd.getD i false = true ∧ (K.getD i zeroR).L.size = 0 then (nd.set (K.getD i zeroR).l.toNat true).set (K.getD i zeroR).r.toNat true else nd
def ndT (K : List Rl) (nd : List Bool) (n : Nat) : Nat → List Bool
  | 0 => nd
  | t + 1 => ndStep K (ndT K nd n t) (n - 1 - t)
theorem ndStep_len (K : List Rl) (nd : List Bool) (i : Nat) : (ndStep K nd i).length = nd.length := by
  unfold ndStep
  split
  · simp
  · rfl
theorem ndT_len (K : List Rl) (nd : List Bool) (n : Nat) : ∀ t, (ndT K nd n t).length = nd.length
  | 0 => rfl
  | t + 1 => by rw [ndT, ndStep_len, ndT_len K nd n t]
/-- the needed rules, all of them -/
def ndAll (gs : List Rl) : List Bool :=
  ndT (kT gs gs.length) ((List.replicate gs.length false).set ((fT gs gs.length).getD (gs.length - 1) 0) true) gs.length gs.length
theorem ndAll_len (gs : List Rl) : (ndAll gs).length = gs.length := by unfold ndAll; rw [ndT_len]; simp
/-- the rules that are left, and their numbers, up to a number -/
def outT (K : List Rl) (nd : List Bool) : Nat → List Nat × List Rl
  | 0 => (List.replicate nd.length 0, [])
  | i + 1 =>
    if nd.getD i false then ((outT K nd i).1.set i (outT K nd i).2.length, (outT K nd i).2 ++ [redR ((outT K nd i).1.set i (outT K nd i).2.length) (K.getD i zeroR)])
    else outT K nd i
theorem outT_len (K : List Rl) (nd : List Bool) : ∀ i, (outT K nd i).1.length = nd.length
  | 0 => by simp [outT]
  | i + 1 => by
    rw [outT]
    split
    · simp [outT_len K nd i]
    · exact outT_len K nd i
theorem outT_le (K : List Rl) (nd : List Bool) : ∀ i, (outT K nd i).2.length ≤ i
  | 0 => Nat.le_refl _
  | i + 1 => by
    have := outT_le K nd i
    rw [outT]
    split
    · simp only [List.length_append, List.length_singleton]; omega
    · omega
/-- a grammar without rules that do not matter -/
def trimG (gs : List Rl) : List Rl := (outT (kT gs gs.length) (ndAll gs) gs.length).2
theorem trimG_le (gs : List Rl) : (trimG gs).length ≤ gs.length := outT_le _ _ _
/-- the answer of TrimGrammar -/
def gramTrimGrammar (gs : List Rl) : List Rl × Int := if gOk gs then (trimG gs, 0) else ([], 1)
end Wd
end Go.Proofs.Ytnhobcfpipedmaa
