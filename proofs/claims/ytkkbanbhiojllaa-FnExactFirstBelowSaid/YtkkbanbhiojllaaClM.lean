/-
  Climbs: the numbers; the walks of the letter's closure and of joinedClimb.
-/
import Derived.Test.YtkkbanbhiojllaaFoM
import Derived.Test.YtkkbanbhiojllaaBlk
import Derived.Test.YtkkbanbhiojllaaGramSpec
import Derived.Test.YtkkbanbhiojllaaGPr
import Derived.Deep.MidRow
import Derived.Deep.WholeRow
import Derived.StillTailTactics
import Derived.WalkLawsBesides
import Derived.Deep.Cut
namespace Go.Proofs.Ytkkbanbhiojllaa
open Go.RowKit
open Wd
set_option linter.unusedVariables false
namespace Wd
def clF (ws : List Int) (d : Nat) : List Int := [ws.getD d 0, min 0 (ws.getD d 0), max 0 (ws.getD d 0)]
def clJ (u v : List Int) : List Int := [u.getD 0 0 + v.getD 0 0, min (u.getD 1 0) (u.getD 0 0 + v.getD 1 0), max (u.getD 2 0) (u.getD 0 0 + v.getD 2 0)]
def clOk (n : Int) (u : List Int) : Prop := u.length = 3 ∧ (-9 * n ≤ u.getD 0 0 ∧ u.getD 0 0 ≤ 9 * n) ∧ (-9 * n ≤ u.getD 1 0 ∧ u.getD 1 0 ≤ 0) ∧ (0 ≤ u.getD 2 0 ∧ u.getD 2 0 ≤ 9 * n)
/-- weights -/
def wOk (ws : List Int) : Prop := ws.length = 4 ∧ ∀ d, d < 4 → -9 ≤ ws.getD d 0 ∧ ws.getD d 0 ≤ 9
theorem clOk_F {ws : List Int} (h : wOk ws) (d : Nat) (hd : d < 4) : clOk 1 (clF ws d) := by
  have := h.2 d hd
  refine ⟨rfl, ?_, ?_, ?_⟩
  · show -9 * 1 ≤ ws.getD d 0 ∧ ws.getD d 0 ≤ 9 * 1; omega
  · show -9 * 1 ≤ min 0 (ws.getD d 0) ∧ min 0 (ws.getD d 0) ≤ 0; omega
  · show 0 ≤ max 0 (ws.getD d 0) ∧ max 0 (ws.getD d 0) ≤ 9 * 1; omega
theorem clOk_J0 (m n : Int) (u v : List Int) (hm : 0 ≤ m) (hn : 1 ≤ n) (hu : clOk m u) (hv : clOk n v) : clOk (m + n) (clJ u v) := by
  obtain ⟨_, ⟨a1, a2⟩, ⟨a3, a4⟩, a5, a6⟩ := hu
  obtain ⟨_, ⟨b1, b2⟩, ⟨b3, b4⟩, b5, b6⟩ := hv
  refine ⟨rfl, ?_, ?_, ?_⟩
  · show -9 * (m + n) ≤ u.getD 0 0 + v.getD 0 0 ∧ u.getD 0 0 + v.getD 0 0 ≤ 9 * (m + n); omega
  · show -9 * (m + n) ≤ min (u.getD 1 0) (u.getD 0 0 + v.getD 1 0) ∧ min (u.getD 1 0) (u.getD 0 0 + v.getD 1 0) ≤ 0; omega
  · show 0 ≤ max (u.getD 2 0) (u.getD 0 0 + v.getD 2 0) ∧ max (u.getD 2 0) (u.getD 0 0 + v.getD 2 0) ≤ 9 * (m + n); omega
def clAt (ws : List Int) (gs : List Rl) (k : Nat) : List Int := valAt (clF ws) clJ gs k
theorem clAt_ok {ws : List Int} {gs : List Rl} (hw : wOk ws) (hok : gOk gs = true) {k : Nat} (hk : k < gs.length) : clOk ((lens gs).getD k 0) (clAt ws gs k) := valAt_all hok clOk (clOk_F hw) (fun m n u v hm => clOk_J0 m n u v (by omega)) (k + 1) k (by omega) hk
theorem three_of {u : List Int} (h : u.length = 3) : u = [u.getD 0 0, u.getD 1 0, u.getD 2 0] := by
  match u, h with
  | [a, b, c], _ => rfl
end Wd
abbrev ag3c (a b c : Int) : Value := .agg #[.int .i64 a, .int .i64 b, .int .i64 c]
/-- weights that a closure has captured -/
def WSt (w : World) (bw : Nat) (ws : List Int) : Prop := ∃ g c, w.cell? ⟨bw, 0, none⟩ = some (.slice (some ⟨g, 0, none⟩) 4 c) ∧ ∀ d, d < 4 → w.cell? ⟨g, d, none⟩ = some (.int .i64 (ws.getD d 0))
theorem WSt.kept {w w' : World} {bw : Nat} {ws : List Int} (h : WSt w bw ws) (hb : Below w.heap.size w w') : WSt w' bw ws := by
  obtain ⟨g, c, h1, h2⟩ := h
  exact ⟨g, c, (hb.cell (lt_of_cell h1)).trans h1, fun d hd => (hb.cell (lt_of_cell (h2 d hd))).trans (h2 d hd)⟩
set_option maxRecDepth 100000 in
set_option maxHeartbeats 800000 in
theorem joined_any (x0 x1 x2 y0 y1 y2 : Int) (w : World) (hx : -10000000000000000 ≤ x0 ∧ x0 ≤ 10000000000000000) (hy0 : -10000000000000000 ≤ y0 ∧ y0 ≤ 10000000000000000) (hy1 : -10000000000000000 ≤ y1 ∧ y1 ≤ 10000000000000000) (hy2 : -10000000000000000 ≤ y2 ∧ y2 ≤ 10000000000000000) :
    Calls Try.prog 93 #[ag3c x0 x1 x2, ag3c y0 y1 y2] w fun e w' => e = .returned (ag3c (x0 + y0) (min x1 (x0 + y1)) (max x2 (x0 + y2))) ∧ Below w.heap.size w w' := by
  go_enter Try.func93, Try.ntmps93
  go_wp2
  all_goals exact bodyPost_ret (v := ag3c (x0 + y0) (min x1 (x0 + y1)) (max x2 (x0 + y2))) (by simp [results, Try.results93, go_sem] <;> omega) rfl ⟨rfl, (((Below.refl _ w).alloc (Nat.le_refl _) _).alloc (by simp) _).alloc (by simp; omega) _⟩
set_option maxRecDepth 100000 in
set_option maxHeartbeats 800000 in
theorem clLetter_any (d : Nat) (bw : Nat) (ws : List Int) (w : World) (hd : d < 4) (h : WSt w bw ws) :
    Calls Try.prog 92 #[.int .i64 (d : Int), .pointer (some ⟨bw, 0, none⟩)] w fun e w' => e = .returned (ag3c (ws.getD d 0) (min 0 (ws.getD d 0)) (max 0 (ws.getD d 0))) ∧ Below w.heap.size w w' := by
  obtain ⟨g, c, h1, h2⟩ := h
  have h3 := h2 d hd
  have l1 : bw < w.heap.size := lt_of_cell h1
  have l2 : g < w.heap.size := lt_of_cell h3
  have hb := (Below.refl _ w).alloc (Nat.le_refl _) (.cells #[.int .i64 0, .int .i64 0, .int .i64 0] 28)
  have HR := Lib.hid (heap_alloc_new w (.cells #[.int .i64 0, .int .i64 0, .int .i64 0] 28))
  have e1 := (hb.cell (p := ⟨bw, 0, none⟩) l1).trans h1
  have e2 := (hb.cell (p := ⟨g, d, none⟩) l2).trans h3
  have HB := Lib.hid hb
  have d0 : (0 : Int) ≤ (d : Int) := by omega
  have d1 : (d : Int) < 4 := by omega
  generalize ws.getD d 0 = z at *
  clear h1 h2 h3 l1 l2 hb
  go_enter Try.func92, Try.ntmps92
  go_upto_region 1 with fail
  generalize w.alloc (.cells #[.int .i64 0, .int .i64 0, .int .i64 0] 28) = w1 at *
  obtain ⟨⟨r0, r1, r2⟩, f0, f1, f2⟩ := blk3_cells HR.out
  have HZ := Lib.hid (fun a b c => (blk3_cells (blk3 (a' := .int .i64 a) (b' := .int .i64 b) (c' := .int .i64 c) (w := w1) HR.out)).1)
  have HE : Hid (∀ a b c, Below w.heap.size w (((w1.setCell ⟨w.heap.size, 0, none⟩ (.int .i64 a)).setCell ⟨w.heap.size, 1, none⟩ (.int .i64 b)).setCell ⟨w.heap.size, 2, none⟩ (.int .i64 c)).drew) := Lib.hid (fun a b c => (((HB.out.setCell (by simp) _).setCell (by simp) _).setCell (by simp) _).drew)
  have hcase : z < 0 ∨ z = 0 ∨ 0 < z := by omega
  rcases hcase with hz | rfl | hz
  · go_still_tail 15, (by kernel_rfl)
    change wpList _ _ _ _ _ w1.drew
    go_wp2_with fail
    obtain ⟨z0, z1, z2⟩ := HZ.out z z 0
    exact bodyPost_ret (v := ag3c z z 0) (by simp [results, Try.results92, go_sem, z0, z1, z2]) rfl ⟨by rw [show min 0 z = z from by omega, show max 0 z = 0 from by omega], HE.out _ _ _⟩
  · go_still_tail 15, (by kernel_rfl)
    change wpList _ _ _ _ _ w1.drew
    go_wp2_with fail
    obtain ⟨z0, z1, z2⟩ := HZ.out 0 0 0
    exact bodyPost_ret (v := ag3c 0 0 0) (by simp [results, Try.results92, go_sem, z0, z1, z2]) rfl ⟨rfl, HE.out _ _ _⟩
  · go_still_tail 15, (by kernel_rfl)
    change wpList _ _ _ _ _ w1.drew
    go_wp2_with fail
    obtain ⟨z0, z1, z2⟩ := HZ.out z 0 z
    exact bodyPost_ret (v := ag3c z 0 z) (by simp [results, Try.results92, go_sem, z0, z1, z2]) rfl ⟨by rw [show min 0 z = 0 from by omega, show max 0 z = z from by omega], HE.out _ _ _⟩
end Go.Proofs.Ytkkbanbhiojllaa
