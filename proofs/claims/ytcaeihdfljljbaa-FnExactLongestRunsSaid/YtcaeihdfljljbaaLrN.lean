/-
  The rows of spec.l05Longest: a rule's first run, last run and longest run of a letter. Numbers and cells; l00Max.
-/
import Derived.Test.YtcaeihdfljljbaaLrQ
import Derived.Test.YtcaeihdfljljbaaLetN
namespace Go.Proofs.Ytcaeihdfljljbaa
open Go.RowKit
open Wd
set_option linter.unusedVariables false
namespace Wd
/-- front, back, most -/
def r3At (l : Nat) (gs : List Rl) (k : Nat) : List Int := [(stAt l gs k).getD 1 0, (stAt l gs k).getD 2 0, (stAt l gs k).getD 3 0]
theorem r3At_len (l : Nat) (gs : List Rl) (k : Nat) : (r3At l gs k).length = 3 := rfl
/-- a pair's row, by the lengths of its halves -/
theorem r3At_pair {l : Nat} {gs : List Rl} (hok : gOk gs = true) {k a b : Nat} (hk : k < gs.length) (h0 : gs[k].L.size = 0) (ha : gs[k].l = a) (hb : gs[k].r = b) (hak : a < k) (hbk : b < k) :
    r3At l gs k = [if (r3At l gs a).getD 0 0 = (lens gs).getD a 0 then (r3At l gs a).getD 0 0 + (r3At l gs b).getD 0 0 else (r3At l gs a).getD 0 0,
      if (r3At l gs b).getD 1 0 = (lens gs).getD b 0 then (r3At l gs b).getD 1 0 + (r3At l gs a).getD 1 0 else (r3At l gs b).getD 1 0,
      max (max ((r3At l gs a).getD 2 0) ((r3At l gs b).getD 2 0)) ((r3At l gs a).getD 1 0 + (r3At l gs b).getD 0 0)] := by
  have h1 : stAt l gs k = stJ (stAt l gs a) (stAt l gs b) := valAt_pair (gOk_iff.1 hok).2.1 hk h0 ha hb hak hbk
  have ea := (stAt_ok (l := l) hok (show a < gs.length by omega)).2.1
  have eb := (stAt_ok (l := l) hok (show b < gs.length by omega)).2.1
  rw [← ea, ← eb]
  unfold r3At
  rw [h1]
  rfl
/-- a letter's row -/
theorem r3At_letter {l : Nat} {gs : List Rl} {k d : Nat} (hk : k < gs.length) (h0 : gs[k].L.size ≠ 0) (hd : ltNo gs[k] = d) : r3At l gs k = [one1 d l, one1 d l, one1 d l] := by
  have h1 : stAt l gs k = stF l (ltNo gs[k]) := valAt_letter hk h0
  unfold r3At
  rw [h1, hd]
  rfl
theorem r3At_bd {l : Nat} {gs : List Rl} (hok : gOk gs = true) {k : Nat} (hk : k < gs.length) :
    (0 ≤ (r3At l gs k).getD 0 0 ∧ (r3At l gs k).getD 0 0 ≤ 1000000000000000) ∧ (0 ≤ (r3At l gs k).getD 1 0 ∧ (r3At l gs k).getD 1 0 ≤ 1000000000000000) ∧ (0 ≤ (r3At l gs k).getD 2 0 ∧ (r3At l gs k).getD 2 0 ≤ 1000000000000000) := by
  have h := stB_of (stAt_ok (l := l) hok hk) (small_at (gOk_iff.1 hok).2.2 k hk)
  exact ⟨h.2 1 (by omega), h.2 2 (by omega), h.2 3 (by omega)⟩
end Wd
theorem lmax_any (a b : Int) (w : World) : Calls Try.prog 122 #[.int .i64 a, .int .i64 b] w fun e w' => e = .returned (.int .i64 (max a b)) ∧ w' = w := by
  by_cases h : b < a
  · go_enter Try.func122, Try.ntmps122
    go_wp2
    go_ret
    exact ⟨ret_int (by omega), rfl⟩
  · have h' : decide (b < a) = false := decide_eq_false h
    go_enter Try.func122, Try.ntmps122
    go_wp2
    go_ret
    exact ⟨ret_int (by omega), rfl⟩
theorem info_r3 : (Try.prog.info? 110).map (fun i => (i.zero, i.size, i.bytes)) = some (some (.agg #[.int .i64 0, .int .i64 0, .int .i64 0]), 3, 24) := by kernel_rfl
/-- between two rules -/
def LsSt (l : Nat) (gs : List Rl) (w : World) (k : Nat) (y : Value) (wr : World) : Prop :=
  wr.ownsRow w.heap.size 110 3 y k (iv (flV (r3At l gs) k)) ∧ Below w.heap.size w wr
theorem lsSt_next {l : Nat} {gs : List Rl} {w wr w5 w6 : World} {k : Nat} {y v' : Value} {x0 x1 x2 : Int} {o : Obj} (hst : LsSt l gs w k y wr) (hb : Below wr.heap.size wr w5) (hv : r3At l gs k = [x0, x1, x2])
    (hown : w6.ownsRow w.heap.size 110 3 v' (k + 1) (iv (flV (r3At l gs) k) ++ [.int .i64 x0, .int .i64 x1, .int .i64 x2])) (hg : (w5.alloc o).grownBy w6 y.ownBlock) : LsSt l gs w (k + 1) v' w6 := by
  obtain ⟨h1, h2⟩ := hst
  have hB := h2.trans (hb.mono h2.size)
  refine ⟨?_, (hB.alloc hB.size o).grown hg (by have := hB.size; simp; omega) (fun q hq => (h1.lt q hq).1)⟩
  rw [flV_succ, iv_app, hv]
  exact hown
/-- the cells of a row -/
theorem lsSt_cells {l : Nat} {gs : List Rl} {w : World} {B g c k j : Nat} (h : w.ownsRow B 110 3 (.slice (some ⟨g, 0, none⟩) k c) k (iv (flV (r3At l gs) k))) (hj : j < k) :
    w.cell? ⟨g, j * 3, none⟩ = some (.int .i64 ((r3At l gs j).getD 0 0)) ∧ w.cell? ⟨g, j * 3 + 1, none⟩ = some (.int .i64 ((r3At l gs j).getD 1 0)) ∧ w.cell? ⟨g, j * 3 + 2, none⟩ = some (.int .i64 ((r3At l gs j).getD 2 0)) := by
  have hlen := flV_len (fun i (_ : i < k) => r3At_len l gs i)
  have key : ∀ i, i < 3 → w.cell? ⟨g, j * 3 + i, none⟩ = some (.int .i64 ((r3At l gs j).getD i 0)) := fun i hi => by
    have h1 := flV_get (fun i (_ : i < k) => r3At_len l gs i) hj hi
    have h2 : j * 3 + i < (flV (r3At l gs) k).length := (List.getElem?_eq_some_iff.1 h1).1
    rw [h.cellAt (j * 3 + i) (by omega), iv_get _ _ h2]
    rw [List.getElem?_eq_getElem h2] at h1
    injection h1 with h1
    rw [h1]
  exact ⟨key 0 (by omega), key 1 (by omega), key 2 (by omega)⟩
end Go.Proofs.Ytcaeihdfljljbaa
