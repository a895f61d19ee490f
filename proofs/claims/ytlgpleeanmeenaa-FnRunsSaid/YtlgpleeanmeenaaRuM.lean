/-
  Runs as lists: their cells; nothing of the program. (Turned from XGramM by runs2.py.)
-/
import Derived.Test.YtlgpleeanmeenaaGramM
namespace Go.Proofs.Ytlgpleeanmeenaa
open Go.RowKit
open Wd
set_option linter.unusedVariables false
namespace Wd
/-- a run as it is read -/
structure Ru where
  L : ByteArray
  l : Int
/-- its cells -/
def uc (x : Ru) : List Value := [.string x.L, .int .i64 x.l]
/-- those of a list -/
def uv (gs : List Ru) : List Value := gs.flatMap uc
theorem uv_len (gs : List Ru) : (uv gs).length = gs.length * 2 := by
  induction gs with
  | nil => rfl
  | cons x gs ih => simp only [uv, List.flatMap_cons, List.length_append, List.length_cons] at ih ⊢; simp only [uc, List.length_cons, List.length_nil]; omega
theorem uv_app (gs hs : List Ru) : uv (gs ++ hs) = uv gs ++ uv hs := by simp [uv]
theorem uv_one (x : Ru) : uv [x] = uc x := by simp [uv]
theorem uv_get (gs : List Ru) (k : Nat) (h : k < gs.length) (j : Nat) (hj : j < 2) : (uv gs)[k * 2 + j]? = (uc gs[k])[j]? := by
  induction gs generalizing k with
  | nil => simp at h
  | cons x gs ih =>
    have hx : (uc x).length = 2 := rfl
    cases k with
    | zero =>
      rw [show uv (x :: gs) = uc x ++ uv gs from rfl, List.getElem?_append_left (by omega)]
      simp
    | succ k =>
      rw [show uv (x :: gs) = uc x ++ uv gs from rfl, List.getElem?_append_right (by omega), show (k + 1) * 2 + j - (uc x).length = k * 2 + j from by omega]
      simpa using ih k (by simpa using h)
/-- where the rules lie that a slice value holds -/
def Runs (w : World) (v : Value) (gs : List Ru) : Prop :=
  ∃ A c, v = .slice A gs.length c ∧ (gs = [] ∨ ∃ g, A = some ⟨g, 0, none⟩ ∧ g < w.heap.size ∧ ∀ j u, (uv gs)[j]? = some u → w.cell? ⟨g, j, none⟩ = some u)
theorem Runs.kept {w w' : World} {v : Value} {gs : List Ru} (h : Runs w v gs) (hb : Below w.heap.size w w') : Runs w' v gs := by
  obtain ⟨A, c, hv, h | ⟨g, hA, hg, hc⟩⟩ := h
  · exact ⟨A, c, hv, .inl h⟩
  · exact ⟨A, c, hv, .inr ⟨g, hA, Nat.lt_of_lt_of_le hg hb.size, fun j u hu => (hb.cell (p := ⟨g, j, none⟩) hg).trans (hc j u hu)⟩⟩
/-- the two cells of a run -/
theorem runs_cells {w : World} {gs : List Ru} {g k : Nat} (hc : ∀ j u, (uv gs)[j]? = some u → w.cell? ⟨g, j, none⟩ = some u) (h : k < gs.length) :
    w.cell? ⟨g, k * 2, none⟩ = some (.string gs[k].L) ∧ w.cell? ⟨g, k * 2 + 1, none⟩ = some (.int .i64 gs[k].l) :=
  ⟨hc _ _ (uv_get gs k h 0 (by omega)), hc _ _ (uv_get gs k h 1 (by omega))⟩
theorem Runs.of_own {w : World} {B e : Nat} {v : Value} {gs : List Ru} (h : w.ownsRow B e 2 v gs.length (uv gs)) : Runs w v gs := by
  rcases h.2 with ⟨rfl, h0⟩ | ⟨g, cap, cur, rfl, hb, hg, _⟩
  · exact ⟨none, 0, by rw [h0], .inl (List.eq_nil_of_length_eq_zero h0)⟩
  · exact ⟨_, _, rfl, .inr ⟨g, rfl, (Array.getElem?_eq_some_iff.1 hg).1, fun j u hu => by have := h.cells (g := g) rfl j u hu; unfold Addr.add at this; split at this <;> simp_all⟩⟩
/-- a slice of rules that came in -/
def InRuns (w : World) (A : Option Addr) (len : Nat) (gs : List Ru) : Prop :=
  gs.length = len ∧ (gs = [] ∨ ∃ x, A = some x ∧ ∀ i (h : i < gs.length), (w.cell? (x.add (i * 2)) = some (.string gs[i].L) ∧ w.cell? (x.add (i * 2 + 1)) = some (.int .i64 gs[i].l)) ∧ gs[i].L.size ≤ maxLen)
theorem InRuns.kept {w w' : World} {A : Option Addr} {len : Nat} {gs : List Ru} (h : InRuns w A len gs) (hb : Below w.heap.size w w') : InRuns w' A len gs := by
  obtain ⟨hl, h | ⟨x, hA, hc⟩⟩ := h
  · exact ⟨hl, .inl h⟩
  · refine ⟨hl, .inr ⟨x, hA, fun i hi => ?_⟩⟩
    obtain ⟨⟨h0, h1⟩, h3⟩ := hc i hi
    exact ⟨⟨(hb.cell (lt_of_cell h0)).trans h0, (hb.cell (lt_of_cell h1)).trans h1⟩, h3⟩
/-- the letters of all -/
def sumU (gs : List Ru) : Nat := (gs.map fun x => x.L.size).sum
theorem sumU_take (gs : List Ru) (k : Nat) (h : k < gs.length) : sumU (gs.take (k + 1)) = sumU (gs.take k) + gs[k].L.size := by
  rw [List.take_succ_eq_append_getElem h]; simp only [sumU, List.map_append, List.sum_append, List.map_cons, List.map_nil, List.sum_cons, List.sum_nil]; omega
theorem sumU_le (gs : List Ru) (k : Nat) : sumU (gs.take k) ≤ sumU gs := by
  have : sumU gs = sumU (gs.take k) + sumU (gs.drop k) := by
    conv => lhs; rw [← List.take_append_drop k gs]
    simp only [sumU, List.map_append, List.sum_append]
  omega
theorem sumU_at (gs : List Ru) (k : Nat) (h : k < gs.length) : gs[k].L.size ≤ sumU gs := by
  have h1 := sumU_take gs k h
  have h2 := sumU_le gs (k + 1)
  omega
/-- what is left of a purseU, -1 if it does not do -/
def purseU (left : Int) (gs : List Ru) : Int := if (gs.length : Int) + (sumU gs : Int) ≤ left then left - gs.length - sumU gs else -1
theorem purseU_ok {left : Int} {gs : List Ru} (h : (gs.length : Int) + (sumU gs : Int) ≤ left) : purseU left gs = left - gs.length - sumU gs := if_pos h
theorem purseU_no {left : Int} {gs : List Ru} (h : ¬ (gs.length : Int) + (sumU gs : Int) ≤ left) : purseU left gs = -1 := if_neg h
theorem purseU_bad {left : Int} {gs : List Ru} {k : Nat} (hk : k < gs.length) (h : left - gs.length - sumU (gs.take k) - gs[k].L.size < 0) : purseU left gs = -1 := by
  have h1 := sumU_take gs k hk
  have h2 := sumU_le gs (k + 1)
  exact purseU_no (by omega)
/-- not too much in all -/
def FewU (gs : List Ru) : Prop := gs.length + sumU gs ≤ 1048576
theorem FewU.len {gs : List Ru} (h : FewU gs) : gs.length ≤ 1048576 := by unfold FewU at h; omega
theorem FewU.at_ {gs : List Ru} (h : FewU gs) (k : Nat) (hk : k < gs.length) : gs[k].L.size ≤ maxLen := by
  have := sumU_at gs k hk
  unfold FewU at h; unfold maxLen; omega
theorem purse_fewU {gs : List Ru} (h : ¬ purseU 1048576 gs < 0) : FewU gs := by
  unfold purseU at h
  unfold FewU
  split at h <;> omega
end Wd
/-- a run as a value -/
abbrev agg2u (x : Ru) : Value := .agg #[.string x.L, .int .i64 x.l]
end Go.Proofs.Ytlgpleeanmeenaa
