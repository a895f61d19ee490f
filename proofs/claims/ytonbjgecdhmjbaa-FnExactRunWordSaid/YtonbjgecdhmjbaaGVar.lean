/-
  Variables in cells of their own; grammars that are turned, as lists.
-/
import Derived.Test.YtonbjgecdhmjbaaGClone
import Derived.Test.YtonbjgecdhmjbaaGramOk
import Derived.Deep.QuietTactic
namespace Go.Proofs.Ytonbjgecdhmjbaa
open Go.RowKit
open Wd
set_option linter.unusedVariables false

namespace Wd
def turnR (x : Rl) : Rl := ⟨x.L, x.r, x.l⟩
def turnK (gs : List Rl) (k : Nat) : List Rl := (gs.take k).map turnR ++ gs.drop k
theorem turnK_len (gs : List Rl) (k : Nat) (h : k ≤ gs.length) : (turnK gs k).length = gs.length := by simp [turnK]; omega
theorem turnK_zero (gs : List Rl) : turnK gs 0 = gs := by simp [turnK]
theorem turnK_all (gs : List Rl) : turnK gs gs.length = gs.map turnR := by simp [turnK]
theorem turnK_get (gs : List Rl) (k : Nat) (h : k < gs.length) : (turnK gs k)[k]? = some gs[k] := by
  have h1 : ((gs.take k).map turnR).length = k := by simp; omega
  rw [turnK, List.getElem?_append_right (by omega), h1, Nat.sub_self, List.getElem?_drop]
  simp [h]
theorem turnK_set (gs : List Rl) (k : Nat) (h : k < gs.length) : (turnK gs k).set k (turnR gs[k]) = turnK gs (k + 1) := by
  have h1 : ((gs.take k).map turnR).length = k := by simp; omega
  unfold turnK
  rw [List.set_append_right _ _ (by omega), h1, Nat.sub_self, List.drop_eq_getElem_cons h, List.set_cons_zero, List.take_succ_eq_append_getElem h, List.map_append, List.append_assoc]
  rfl
theorem rv_set2 (gs : List Rl) (k : Nat) (h : k < gs.length) (l r : Int) :
    ((rv gs).set (k * 3 + 1) (.int .i64 l)).set (k * 3 + 2) (.int .i64 r) = rv (gs.set k ⟨gs[k].L, l, r⟩) := by
  induction gs generalizing k with
  | nil => simp at h
  | cons y gs ih =>
    cases k with
    | zero => rfl
    | succ k =>
      have h1 := ih k (by simpa using h)
      have e : rv (y :: gs) = .string y.L :: .int .i64 y.l :: .int .i64 y.r :: rv gs := rfl
      have hk : k < gs.length := by simpa using h
      have e2 : rv ((y :: gs).set (k + 1) ⟨(y :: gs)[k + 1].L, l, r⟩) = .string y.L :: .int .i64 y.l :: .int .i64 y.r :: rv (gs.set k ⟨(gs[k]'hk).L, l, r⟩) := rfl
      rw [e, e2, ← h1, show (k + 1) * 3 + 1 = k * 3 + 1 + 1 + 1 + 1 from by omega, show (k + 1) * 3 + 2 = k * 3 + 2 + 1 + 1 + 1 from by omega]
      simp only [List.set_cons_succ]
/-- the answer of TurnGrammar -/
def gramTurnGrammar (gs : List Rl) : List Rl × Int := if gOk gs then (gs.map turnR, 0) else ([], 1)
theorem gramTurnGrammar_len (gs : List Rl) (hf : FewR gs) : (gramTurnGrammar gs).1.length ≤ 1048576 := by
  unfold gramTurnGrammar
  split
  · simp; exact hf.len
  · simp
end Wd
theorem turn_row {w : World} {B e M n c k : Nat} {gs : List Rl} (hk : k < gs.length) (h : w.ownsRow B e 3 (.slice (some ⟨M, 0, none⟩) n c) n (rv (turnK gs k))) :
    ((w.setCell ⟨M, k * 3 + 1, none⟩ (.int .i64 gs[k].r)).setCell ⟨M, k * 3 + 2, none⟩ (.int .i64 gs[k].l)).ownsRow B e 3 (.slice (some ⟨M, 0, none⟩) n c) n (rv (turnK gs (k + 1))) := by
  have hl := turnK_len gs k (Nat.le_of_lt hk)
  have hg := turnK_get gs k hk
  rw [List.getElem?_eq_getElem (by omega)] at hg
  injection hg with hg
  have h1 := ((h.stored (k * 3 + 1) (.int .i64 gs[k].r)).1.stored (k * 3 + 2) (.int .i64 gs[k].l)).1
  rw [rv_set2 _ k (by omega), hg, show (⟨gs[k].L, gs[k].r, gs[k].l⟩ : Rl) = turnR gs[k] from rfl, turnK_set gs k hk] at h1
  exact h1
theorem turn_cells {w : World} {B e M c k : Nat} {gs : List Rl} {n : Nat} (hn : n = gs.length) (hk : k < gs.length) (h : w.ownsRow B e 3 (.slice (some ⟨M, 0, none⟩) n c) n (rv (turnK gs k))) :
    (w.cell? ⟨M, k * 3, none⟩ = some (.string gs[k].L) ∧ w.cell? ⟨M, k * 3 + 1, none⟩ = some (.int .i64 gs[k].l) ∧ w.cell? ⟨M, k * 3 + 2, none⟩ = some (.int .i64 gs[k].r)) ∧ w.frozen? ⟨M, k * 3 + 1, none⟩ = false ∧ w.frozen? ⟨M, k * 3 + 2, none⟩ = false := by
  have hl := turnK_len gs k (Nat.le_of_lt hk)
  have hg := turnK_get gs k hk
  rw [List.getElem?_eq_getElem (by omega)] at hg
  injection hg with hg
  have hkl : k < (turnK gs k).length := by omega
  refine ⟨⟨?_, ?_, ?_⟩, h.frozenAt _, h.frozenAt _⟩
  · rw [h.cellAt (k * 3) (by omega)]; have := rv_get _ k hkl 0 (by omega); rw [hg] at this; exact this
  · rw [h.cellAt (k * 3 + 1) (by omega)]; have := rv_get _ k hkl 1 (by omega); rw [hg] at this; exact this
  · rw [h.cellAt (k * 3 + 2) (by omega)]; have := rv_get _ k hkl 2 (by omega); rw [hg] at this; exact this
theorem rules_gpT {w : World} {v : Value} {gs : List Rl} (h : Rules w v gs) (t : TypeId) : GP (w.alloc (.cells #[v] t)) w.heap.size gs :=
  ⟨v, cell_new w v t, h.kept ((Below.refl _ w).alloc (Nat.le_refl _) _)⟩
/-- a variable in a block of its own -/
def Var (w : World) (b : Nat) (v : Value) (t : TypeId) : Prop := w.heap[b]? = some (.cells #[v] t (0, 0))
theorem Var.new (w : World) (v : Value) (t : TypeId) : Var (w.alloc (.cells #[v] t)) w.heap.size v t := heap_alloc_new w _
theorem Var.cell {w : World} {b : Nat} {v : Value} {t : TypeId} (h : Var w b v t) : w.cell? ⟨b, 0, none⟩ = some v ∧ w.frozen? ⟨b, 0, none⟩ = false := by
  refine ⟨by rw [cell_of_row _ _ _ _ _ _ h]; rfl, ?_⟩
  unfold Var at h
  simp [World.frozen?, h]
theorem Var.lt {w : World} {b : Nat} {v : Value} {t : TypeId} (h : Var w b v t) : b < w.heap.size := (Array.getElem?_eq_some_iff.1 h).1
theorem Var.kept {w w' : World} {b : Nat} {v : Value} {t : TypeId} (h : Var w b v t) (hb : Below w.heap.size w w') : Var w' b v t := (hb.block b h.lt).trans h
theorem Var.far {w : World} {b : Nat} {v : Value} {t : TypeId} (h : Var w b v t) (p : Addr) (u : Value) (hp : b ≠ p.block) : Var (w.setCell p u) b v t := (Below.heap_setCell w p u b hp).trans h
theorem Var.drewN {w : World} {b : Nat} {v : Value} {t : TypeId} (h : Var w b v t) (n : Nat) : Var (w.drewN n) b v t := h
end Go.Proofs.Ytonbjgecdhmjbaa
