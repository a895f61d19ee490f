/-
  The word of runs, as numbers. Nothing of the program.
-/
import Derived.Test.YtlgpleeanmeenaaRuM
import Derived.Lib.Repeat
namespace Go.Proofs.Ytlgpleeanmeenaa
open Go.RowKit
set_option linter.unusedVariables false
namespace Wd
/-- is it a run of a letter? -/
def runL (x : Ru) : Bool := decide (x.L.size = 1) && okL x.L.data.toList
def runC (x : Ru) : Bool := decide (1 ≤ x.l)
/-- are letters beside each other different? -/
def adjOk (gs : List Ru) : Bool := decide (∀ k (h : k < gs.length), 0 < k → (gs[k].L.toList == gs[k - 1].L.toList) = false)
/-- the first fault -/
def ruF (gs : List Ru) : Int := if gs.all runL = true then (if gs.all runC = true then (if adjOk gs = true then 0 else 4) else 2) else 1
def wordU (gs : List Ru) : List UInt8 := gs.flatMap fun x => Lib.repeatL x.L.data.toList x.l.toNat
def totU (gs : List Ru) : Int := (gs.map (·.l)).sum
/-- the answer -/
def ruA (gs : List Ru) : List UInt8 × Int := if ruF gs = 0 then (if totU gs ≤ 2000 then (wordU gs, 0) else ([], 3)) else ([], ruF gs)
theorem ruF_one {gs : List Ru} {k : Nat} (hk : k < gs.length) (h : runL gs[k] = false) : ruA gs = ([], 1) := by
  have h1 : gs.all runL = false := by
    rw [List.all_eq_false]
    exact ⟨gs[k], List.getElem_mem hk, by rw [h]; decide⟩
  have h2 : ruF gs = 1 := by unfold ruF; rw [h1]; rfl
  unfold ruA
  rw [h2]
  rfl
theorem all_of {p : Ru → Bool} {gs : List Ru} (h : ∀ j (hj : j < gs.length), p gs[j] = true) : gs.all p = true := by
  rw [List.all_eq_true]
  intro x hx
  obtain ⟨j, hj, rfl⟩ := List.mem_iff_getElem.1 hx
  exact h j hj
theorem ruF_two {gs : List Ru} {k : Nat} (hk : k < gs.length) (h0 : ∀ j (hj : j < gs.length), runL gs[j] = true) (h : runC gs[k] = false) : ruA gs = ([], 2) := by
  have h1 : gs.all runC = false := by
    rw [List.all_eq_false]
    exact ⟨gs[k], List.getElem_mem hk, by rw [h]; decide⟩
  have h2 : ruF gs = 2 := by unfold ruF; rw [all_of h0, h1]; rfl
  unfold ruA
  rw [h2]
  rfl
theorem ruF_four {gs : List Ru} {k : Nat} (hk : k < gs.length) (hp : 0 < k) (h0 : ∀ j (hj : j < gs.length), runL gs[j] = true) (h1 : ∀ j (hj : j < gs.length), runC gs[j] = true) (h : (gs[k].L.toList == gs[k - 1].L.toList) = true) : ruA gs = ([], 4) := by
  have h3 : adjOk gs = false := decide_eq_false fun hh => by
    have := hh k hk hp
    rw [h] at this
    cases this
  have h2 : ruF gs = 4 := by unfold ruF; rw [all_of h0, all_of h1, h3]; rfl
  unfold ruA
  rw [h2]
  rfl
theorem ruF_none {gs : List Ru} (h0 : ∀ j (hj : j < gs.length), runL gs[j] = true) (h1 : ∀ j (hj : j < gs.length), runC gs[j] = true) (h2 : ∀ j (hj : j < gs.length), 0 < j → (gs[j].L.toList == gs[j - 1].L.toList) = false) : ruF gs = 0 := by
  have h3 : adjOk gs = true := decide_eq_true h2
  unfold ruF
  rw [all_of h0, all_of h1, h3]
  rfl
theorem totU_app (a b : List Ru) : totU (a ++ b) = totU a + totU b := by
  unfold totU
  rw [List.map_append, List.sum_append]
theorem totU_one (x : Ru) : totU [x] = x.l := by simp [totU]
theorem wordU_app (a b : List Ru) : wordU (a ++ b) = wordU a ++ wordU b := by
  unfold wordU
  rw [List.flatMap_append]
theorem wordU_one (x : Ru) : wordU [x] = Lib.repeatL x.L.data.toList x.l.toNat := by simp [wordU]
theorem totU_take {gs : List Ru} {k : Nat} (hk : k < gs.length) : totU (gs.take (k + 1)) = totU (gs.take k) + gs[k].l := by
  rw [List.take_succ_eq_append_getElem hk, totU_app, totU_one]
theorem wordU_take {gs : List Ru} {k : Nat} (hk : k < gs.length) : wordU (gs.take (k + 1)) = wordU (gs.take k) ++ Lib.repeatL gs[k].L.data.toList gs[k].l.toNat := by
  rw [List.take_succ_eq_append_getElem hk, wordU_app, wordU_one]
theorem totU_pos : ∀ (gs : List Ru), (∀ x ∈ gs, 1 ≤ x.l) → 0 ≤ totU gs
  | [], _ => by simp [totU]
  | x :: gs, h => by
    have h1 := totU_pos gs (fun y hy => h y (List.mem_cons_of_mem _ hy))
    have h2 := h x List.mem_cons_self
    have : totU (x :: gs) = x.l + totU gs := by simp [totU]
    omega
theorem totU_le {gs : List Ru} (h : ∀ j (hj : j < gs.length), runC gs[j] = true) (k : Nat) : 0 ≤ totU (gs.take k) ∧ totU (gs.take k) ≤ totU gs := by
  have hm : ∀ x ∈ gs, 1 ≤ x.l := fun x hx => by
    obtain ⟨j, hj, rfl⟩ := List.mem_iff_getElem.1 hx
    exact of_decide_eq_true (h j hj)
  have h1 := totU_pos (gs.take k) (fun x hx => hm x (List.mem_of_mem_take hx))
  have h2 := totU_pos (gs.drop k) (fun x hx => hm x (List.mem_of_mem_drop hx))
  have h3 : totU gs = totU (gs.take k) + totU (gs.drop k) := by
    conv => lhs; rw [← List.take_append_drop k gs, totU_app]
  omega
theorem wordU_len {gs : List Ru} (h0 : ∀ j (hj : j < gs.length), runL gs[j] = true) (h1 : ∀ j (hj : j < gs.length), runC gs[j] = true) : ∀ k, k ≤ gs.length → ((wordU (gs.take k)).length : Int) = totU (gs.take k)
  | 0, _ => by simp [wordU, totU]
  | k + 1, hk => by
    have hk' : k < gs.length := by omega
    have ih := wordU_len h0 h1 k (by omega)
    have hl : gs[k].L.size = 1 := by
      have := h0 k hk'
      unfold runL at this
      rw [Bool.and_eq_true, decide_eq_true_iff] at this
      exact this.1
    have hc : 1 ≤ gs[k].l := of_decide_eq_true (h1 k hk')
    rw [wordU_take hk', totU_take hk', List.length_append, Lib.repeatL_length]
    have : gs[k].L.data.toList.length = 1 := by simpa using hl
    rw [this, Nat.mul_one]
    omega
/-- too long -/
theorem ruA_long {gs : List Ru} {k : Nat} (hk : k < gs.length) (h0 : ruF gs = 0) (h1 : ∀ j (hj : j < gs.length), runC gs[j] = true) (h : 2000 < totU (gs.take k) + gs[k].l) : ruA gs = ([], 3) := by
  have := (totU_le h1 (k + 1)).2
  rw [totU_take hk] at this
  unfold ruA
  rw [if_pos h0, if_neg (by omega)]
theorem ruA_all {gs : List Ru} (h0 : ruF gs = 0) (h : totU (gs.take gs.length) ≤ 2000) : ruA gs = (wordU (gs.take gs.length), 0) := by
  rw [List.take_of_length_le (Nat.le_refl _)] at *
  unfold ruA
  rw [if_pos h0, if_pos h]
theorem ba_app (l m : List UInt8) : (⟨l.toArray⟩ : ByteArray) ++ ⟨m.toArray⟩ = ⟨(l ++ m).toArray⟩ := ByteArray.ext (Array.toList_inj.1 (by simp))
end Wd
end Go.Proofs.Ytlgpleeanmeenaa
