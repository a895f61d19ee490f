/-
  Tallies of letters: the numbers; the walks of the letter's closure and of then.
-/
import Derived.Test.YtnhobcfpipedmaaFoM
import Derived.Test.YtnhobcfpipedmaaBlk
import Derived.Test.YtnhobcfpipedmaaGramSpec
import Derived.Deep.MidRow
import Derived.Deep.WholeRow
namespace Go.Proofs.Ytnhobcfpipedmaa
open Go.RowKit
open Wd
set_option linter.unusedVariables false
namespace Wd
def taF (d : Nat) : List Int := (List.range 4).map fun i => if i = d then 1 else 0
def taJ (u v : List Int) : List Int := (List.range 4).map fun i => u.getD i 0 + v.getD i 0
theorem taF_len (d : Nat) : (taF d).length = 4 := by simp [taF]
theorem taJ_len (u v : List Int) : (taJ u v).length = 4 := by simp [taJ]
theorem taJ_get (u v : List Int) (i : Nat) (h : i < 4) : (taJ u v).getD i 0 = u.getD i 0 + v.getD i 0 := by
  unfold taJ
  rw [List.getD_eq_getElem?_getD, List.getElem?_map, List.getElem?_range h]
  rfl
theorem taF_get (d i : Nat) (h : i < 4) : (taF d).getD i 0 = if i = d then 1 else 0 := by
  unfold taF
  rw [List.getD_eq_getElem?_getD, List.getElem?_map, List.getElem?_range h]
  rfl
def taOk (n : Int) (u : List Int) : Prop := u.length = 4 ∧ ∀ i, i < 4 → 0 ≤ u.getD i 0 ∧ u.getD i 0 ≤ n
theorem taOk_F (d : Nat) (h : d < 4) : taOk 1 (taF d) := ⟨taF_len d, fun i hi => by rw [taF_get d i hi]; split <;> omega⟩
theorem taOk_J (m n : Int) (u v : List Int) (hm : 1 ≤ m) (hn : 1 ≤ n) (hu : taOk m u) (hv : taOk n v) : taOk (m + n) (taJ u v) :=
  ⟨taJ_len u v, fun i hi => by rw [taJ_get u v i hi]; have := hu.2 i hi; have := hv.2 i hi; omega⟩
/-- the tally of a rule's word -/
def taAt (gs : List Rl) (k : Nat) : List Int := valAt taF taJ gs k
theorem taAt_ok {gs : List Rl} (hok : gOk gs = true) {k : Nat} (hk : k < gs.length) : taOk ((lens gs).getD k 0) (taAt gs k) := valAt_all hok taOk taOk_F taOk_J (k + 1) k (by omega) hk
/-- four numbers -/
theorem four_of {u : List Int} (h : u.length = 4) : u = [u.getD 0 0, u.getD 1 0, u.getD 2 0, u.getD 3 0] := by
  match u, h with
  | [a, b, c, d], _ => rfl
theorem four_list (a b c d : Int) : iv [a, b, c, d] = [.int .i64 a, .int .i64 b, .int .i64 c, .int .i64 d] := rfl
/-- one number behind k rounds of then -/
def tk (k j : Nat) (x y : Int) : Int := if j < k then x + y else x
end Wd
abbrev ag4 (a b c d : Int) : Value := .agg #[.int .i64 a, .int .i64 b, .int .i64 c, .int .i64 d]
theorem und_ta : Try.prog.underlying 147 = some (.array 4 2) := by kernel_rfl
theorem index_ta (a b c d : Int) (k : Nat) (hk : k < 4) (w : World) : (Instr.index 147 (ag4 a b c d) (.int .i64 (k : Int))).run Try.prog w = .ok (.int .i64 ([a, b, c, d].getD k 0)) w := by
  obtain rfl | rfl | rfl | rfl : k = 0 ∨ k = 1 ∨ k = 2 ∨ k = 3 := by omega
  all_goals kernel_rfl
set_option maxRecDepth 100000 in
set_option maxHeartbeats 1600000 in
/-- a letter's tally -/
theorem taLetter_any (d : Nat) (hd : d < 4) (w : World) :
    Calls Try.prog 147 #[.int .i64 (d : Int)] w fun e w' => e = .returned (.agg (iv (taF d)).toArray) ∧ Below w.heap.size w w' := by
  match d, hd with
  | 0, _ =>
    go_enter Try.func147, Try.ntmps147
    go_wp2
    exact bodyPost_ret (v := ag4 1 0 0 0) (by simp [results, Try.results147, go_sem]) rfl ⟨rfl, ((Below.refl _ w).alloc (Nat.le_refl _) _).alloc (by simp) _⟩
  | 1, _ =>
    go_enter Try.func147, Try.ntmps147
    go_wp2
    exact bodyPost_ret (v := ag4 0 1 0 0) (by simp [results, Try.results147, go_sem]) rfl ⟨rfl, ((Below.refl _ w).alloc (Nat.le_refl _) _).alloc (by simp) _⟩
  | 2, _ =>
    go_enter Try.func147, Try.ntmps147
    go_wp2
    exact bodyPost_ret (v := ag4 0 0 1 0) (by simp [results, Try.results147, go_sem]) rfl ⟨rfl, ((Below.refl _ w).alloc (Nat.le_refl _) _).alloc (by simp) _⟩
  | 3, _ =>
    go_enter Try.func147, Try.ntmps147
    go_wp2
    exact bodyPost_ret (v := ag4 0 0 0 1) (by simp [results, Try.results147, go_sem]) rfl ⟨rfl, ((Below.refl _ w).alloc (Nat.le_refl _) _).alloc (by simp) _⟩

/-- between two rounds of then -/
def ThSt (w : World) (x0 x1 x2 x3 y0 y1 y2 y3 : Int) (i : Value) (wr : World) : Prop :=
  ∃ k : Nat, k ≤ 4 ∧ i = .int .i64 k ∧ wr.heap[w.heap.size]? = some (.cells #[.int .i64 (tk k 0 x0 y0), .int .i64 (tk k 1 x1 y1), .int .i64 (tk k 2 x2 y2), .int .i64 (tk k 3 x3 y3)] 147 (0, 0)) ∧
    wr.heap[w.heap.size + 2]? = some (.cells #[.int .i64 0, .int .i64 0, .int .i64 0, .int .i64 0] 147 (0, 0)) ∧ Below w.heap.size w wr
theorem thSt_next {w wr : World} {x0 x1 x2 x3 y0 y1 y2 y3 : Int} {k : Nat} (hk : k < 4)
    (h1 : wr.heap[w.heap.size]? = some (.cells #[.int .i64 (tk k 0 x0 y0), .int .i64 (tk k 1 x1 y1), .int .i64 (tk k 2 x2 y2), .int .i64 (tk k 3 x3 y3)] 147 (0, 0)))
    (h2 : wr.heap[w.heap.size + 2]? = some (.cells #[.int .i64 0, .int .i64 0, .int .i64 0, .int .i64 0] 147 (0, 0))) (hB : Below w.heap.size w wr) :
    ThSt w x0 x1 x2 x3 y0 y1 y2 y3 (.int .i64 ((k + 1 : Nat) : Int)) (wr.setCell ⟨w.heap.size, k, none⟩ (.int .i64 ([x0, x1, x2, x3].getD k 0 + [y0, y1, y2, y3].getD k 0))) := by
  refine ⟨k + 1, hk, rfl, ?_, (Below.heap_setCell wr _ _ _ (by simp)).trans h2, hB.setCell (by simp) _⟩
  rw [heap_setCell_same _ _ _ _ _ _ h1]
  obtain rfl | rfl | rfl | rfl : k = 0 ∨ k = 1 ∨ k = 2 ∨ k = 3 := by omega
  all_goals rfl
theorem thSt_cell {wr : World} {P : Nat} {x0 x1 x2 x3 y0 y1 y2 y3 : Int} {k : Nat} (hk : k < 4)
    (h1 : wr.heap[P]? = some (.cells #[.int .i64 (tk k 0 x0 y0), .int .i64 (tk k 1 x1 y1), .int .i64 (tk k 2 x2 y2), .int .i64 (tk k 3 x3 y3)] 147 (0, 0))) :
    wr.cell? ⟨P, k, none⟩ = some (.int .i64 ([x0, x1, x2, x3].getD k 0)) ∧ wr.frozen? ⟨P, k, none⟩ = false := by
  refine ⟨?_, frozen_of_row _ _ _ _ _ h1⟩
  rw [cell_of_row _ _ _ _ _ _ h1]
  obtain rfl | rfl | rfl | rfl : k = 0 ∨ k = 1 ∨ k = 2 ∨ k = 3 := by omega
  all_goals rfl
set_option maxRecDepth 100000 in
set_option maxHeartbeats 1600000 in
/-- two tallies together -/
theorem taThen_any (x0 x1 x2 x3 y0 y1 y2 y3 : Int) (w : World) (hx : ∀ k, k < 4 → 0 ≤ [x0, x1, x2, x3].getD k 0 ∧ [x0, x1, x2, x3].getD k 0 ≤ 1000000000000000) (hy : ∀ k, k < 4 → 0 ≤ [y0, y1, y2, y3].getD k 0 ∧ [y0, y1, y2, y3].getD k 0 ≤ 1000000000000000) :
    Calls Try.prog 148 #[ag4 x0 x1 x2 x3, ag4 y0 y1 y2 y3] w fun e w' => e = .returned (ag4 (x0 + y0) (x1 + y1) (x2 + y2) (x3 + y3)) ∧ Below w.heap.size w w' := by
  obtain ⟨hP, hF, hR, hB3, hs3⟩ := al3 w (.cells #[.int .i64 x0, .int .i64 x1, .int .i64 x2, .int .i64 x3] 147) (.cells #[.int .i64 y0, .int .i64 y1, .int .i64 y2, .int .i64 y3] 147) (.cells #[.int .i64 0, .int .i64 0, .int .i64 0, .int .i64 0] 147)
  have HX := Lib.hid hx
  have HY := Lib.hid hy
  have hc := (blk4_cells hF).1
  have HST : Hid (ThSt w x0 x1 x2 x3 y0 y1 y2 y3 (.int .i64 0) (((w.alloc (.cells #[.int .i64 x0, .int .i64 x1, .int .i64 x2, .int .i64 x3] 147)).alloc (.cells #[.int .i64 y0, .int .i64 y1, .int .i64 y2, .int .i64 y3] 147)).alloc (.cells #[.int .i64 0, .int .i64 0, .int .i64 0, .int .i64 0] 147))) := Lib.hid ⟨0, by omega, rfl, hP, hR, hB3⟩
  clear hx hy hP hR hB3 hs3 hF hc
  go_enter Try.func148, Try.ntmps148
  go_wp2_with fail
  go_loopw [5, 6, 8] (fun _ _ i wr => ThSt w x0 x1 x2 x3 y0 y1 y2 y3 i wr) (fun _ _ i _ => 4 - (intOf i).toNat)
  case atStart => exact HST.out
  case round =>
    obtain ⟨k, hk, rfl, h1, h2, hB⟩ := hrel
    obtain ⟨wo, rfl⟩ : ∃ wo : World, wo = wr := ⟨_, rfl⟩
    by_cases hlt : k < 4
    · have HNX := Lib.hid (thSt_next hlt h1 h2 hB)
      obtain ⟨c0, c1⟩ := thSt_cell hlt h1
      have hix := fun W => index_ta y0 y1 y2 y3 k hlt W
      have bx := HX.out k hlt
      have bY := HY.out k hlt
      generalize [x0, x1, x2, x3].getD k 0 = a at *
      generalize [y0, y1, y2, y3].getD k 0 = b at *
      obtain ⟨bx1, bx2⟩ := bx
      obtain ⟨by1, by2⟩ := bY
      clear h1 h2 hB
      go_wp2_with fail
      go_roundw
      all_goals first | exact HNX.out | ((repeat apply Exists.intro); exact ⟨HNX.out, rfl⟩) | (simp [intOf]; done) | (simp [intOf]; omega) | omega
    · obtain rfl : k = 4 := by omega
      have HE : Hid (Below w.heap.size w ((((wo.setCell ⟨w.heap.size + 2, 0, none⟩ (.int .i64 (x0 + y0))).setCell ⟨w.heap.size + 2, 1, none⟩ (.int .i64 (x1 + y1))).setCell ⟨w.heap.size + 2, 2, none⟩ (.int .i64 (x2 + y2))).setCell ⟨w.heap.size + 2, 3, none⟩ (.int .i64 (x3 + y3)))) := Lib.hid ((((hB.setCell (by simp) _).setCell (by simp) _).setCell (by simp) _).setCell (by simp) _)
      have HZ := Lib.hid (blk4_cells (blk4_all (a' := .int .i64 (x0 + y0)) (b' := .int .i64 (x1 + y1)) (c' := .int .i64 (x2 + y2)) (d' := .int .i64 (x3 + y3)) h2)).1
      obtain ⟨⟨a0, a1, a2, a3⟩, f0, f1, f2, f3⟩ := blk4_cells h1
      obtain ⟨⟨b0, b1, b2, b3⟩, g0, g1, g2, g3⟩ := blk4_cells h2
      rw [show tk 4 0 x0 y0 = x0 + y0 from rfl] at a0
      rw [show tk 4 1 x1 y1 = x1 + y1 from rfl] at a1
      rw [show tk 4 2 x2 y2 = x2 + y2 from rfl] at a2
      rw [show tk 4 3 x3 y3 = x3 + y3 from rfl] at a3
      clear h1 h2 hB
      go_wp2_with fail
      obtain ⟨z0, z1, z2, z3⟩ := HZ.out
      refine bodyPost_ret (v := ag4 (x0 + y0) (x1 + y1) (x2 + y2) (x3 + y3)) (by simp [results, Try.results148, go_sem, z0, z1, z2, z3]) rfl ⟨rfl, HE.out⟩
end Go.Proofs.Ytnhobcfpipedmaa
