/-
  Walk: impl.coverOf.
-/
import Derived.Test.YtcaeihdfljljbaaDoorCovJ
import Derived.Laws.EntriesVeiled
namespace Go.Proofs.YtcaeihdfljljbaaDoor
open Go.RowKit
open Wd
set_option linter.unusedVariables false

theorem nest_get {w : World} {o x : Obj} {k : Nat} (h : w.heap[k]? = some x) : (w.alloc o).heap[k]? = some x := (Below.heap_alloc w o k (Array.getElem?_eq_some_iff.1 h).1).trans h
theorem nest_new (w : World) (o : Obj) (k : Nat) (hk : k = w.heap.size) : (w.alloc o).heap[k]? = some o := by subst hk; exact heap_alloc_new w o
theorem cell_of_var {w : World} {b : Nat} {v : Value} {t : TypeId} (h : w.heap[b]? = some (.cells #[v] t (0, 0))) : w.cell? ⟨b, 0, none⟩ = some v := by rw [cell_of_row _ _ _ _ _ _ h]; rfl
/-- the variables, as they are made -/
def covW (w : World) (v lv : Value) (i j : Int) : World :=
  ((((((w.alloc (.cells #[v] 42)).alloc (.cells #[lv] 50)).alloc (.cells #[.int .i64 i] 2)).alloc (.cells #[.int .i64 j] 2)).alloc (.cells #[] 2)).alloc (.cells #[.slice (some ⟨w.heap.size + 4, 0, none⟩) 0 0] 50)).alloc (.cells #[takeV (w.heap.size + 1) (w.heap.size + 2) (w.heap.size + 3) (w.heap.size + 5) w.heap.size (w.heap.size + 6)] 178)
theorem covW_below (w : World) (v lv : Value) (i j : Int) : Below w.heap.size w (covW w v lv i j) ∧ (covW w v lv i j).heap.size = w.heap.size + 7 := by
  unfold covW
  refine ⟨?_, by simp⟩
  repeat (refine Below.alloc ?_ (by simp; try omega) _)
  exact Below.refl _ _
theorem tst_start {w : World} {v lv : Value} {gs : List Rl} {i j : Int} {L c : Nat} (hr : Rules w v gs) (hlv : lv = .slice (some ⟨L, 0, none⟩) gs.length c) (hL : L < w.heap.size) (hl : ∀ k, k < gs.length → w.cell? ⟨L, k, none⟩ = some (.int .i64 ((lens gs).getD k 0))) :
    TSt (w.heap.size + 4) (w.heap.size + 1) (w.heap.size + 2) (w.heap.size + 3) (w.heap.size + 5) w.heap.size (w.heap.size + 6) i j gs [] (covW w v lv i j) := by
  obtain ⟨hb, hsz⟩ := covW_below w v lv i j
  have hru := (hr.under hb)
  have hl' : ∀ k, k < gs.length → (covW w v lv i j).cell? ⟨L, k, none⟩ = some (.int .i64 ((lens gs).getD k 0)) := fun k hk => (hb.cell (p := ⟨L, k, none⟩) hL).trans (hl k hk)
  have x0 : (covW w v lv i j).heap[w.heap.size]? = some (.cells #[v] 42 (0, 0)) := by
    unfold covW; exact nest_get (nest_get (nest_get (nest_get (nest_get (nest_get (nest_new _ _ _ (by simp)))))))
  have x1 : (covW w v lv i j).heap[w.heap.size + 1]? = some (.cells #[lv] 50 (0, 0)) := by
    unfold covW; exact nest_get (nest_get (nest_get (nest_get (nest_get (nest_new _ _ _ (by simp))))))
  have x2 : (covW w v lv i j).heap[w.heap.size + 2]? = some (.cells #[.int .i64 i] 2 (0, 0)) := by
    unfold covW; exact nest_get (nest_get (nest_get (nest_get (nest_new _ _ _ (by simp)))))
  have x3 : (covW w v lv i j).heap[w.heap.size + 3]? = some (.cells #[.int .i64 j] 2 (0, 0)) := by
    unfold covW; exact nest_get (nest_get (nest_get (nest_new _ _ _ (by simp))))
  have x4 : (covW w v lv i j).heap[w.heap.size + 4]? = some (.cells #[] 2 (0, 0)) := by
    unfold covW; exact nest_get (nest_get (nest_new _ _ _ (by simp)))
  have x5 : (covW w v lv i j).heap[w.heap.size + 5]? = some (.cells #[.slice (some ⟨w.heap.size + 4, 0, none⟩) 0 0] 50 (0, 0)) := by
    unfold covW; exact nest_get (nest_new _ _ _ (by simp))
  have x6 : (covW w v lv i j).heap[w.heap.size + 6]? = some (.cells #[takeV (w.heap.size + 1) (w.heap.size + 2) (w.heap.size + 3) (w.heap.size + 5) w.heap.size (w.heap.size + 6)] 178 (0, 0)) := by
    unfold covW; exact nest_new _ _ _ (by simp)
  generalize covW w v lv i j = W at *
  obtain ⟨A, cc, e1, h9⟩ := hru
  refine ⟨⟨L, c, by rw [← hlv]; exact cell_of_var x1, by omega, hl'⟩, cell_of_var x2, cell_of_var x3, ⟨v, cell_of_var x0, A, cc, e1, ?_⟩, x6, ⟨_, x5, ⟨rfl, .inr ⟨w.heap.size + 4, 0, #[], rfl, Nat.le_refl _, x4, Nat.le_refl _, by unfold maxLen; omega, rfl, rfl⟩⟩⟩, by omega, by omega, by omega, by omega, by omega, by omega, by omega, by omega⟩
  rcases h9 with h9 | ⟨g, hA, hg, hc⟩
  · exact .inl h9
  · exact .inr ⟨g, hA, by omega, hc⟩

set_option maxRecDepth 100000 in
set_option maxHeartbeats 3200000 in
theorem coverOf_any (v lv : Value) (gs : List Rl) (i j : Int) (L c : Nat) (w : World) (hok : gOk gs = true) (hg : 0 < gs.length) (hr : Rules w v gs) (hlv : lv = .slice (some ⟨L, 0, none⟩) gs.length c) (hL : L < w.heap.size) (hl : ∀ k, k < gs.length → w.cell? ⟨L, k, none⟩ = some (.int .i64 ((lens gs).getD k 0)))
    (hfew : (coverF gs i j gs.length (gs.length - 1) 0).length ≤ 1048576) :
    Calls Tryd.prog 105 #[v, lv, .int .i64 i, .int .i64 j] w fun e w' => ∃ y, e = .returned y ∧ OwnsI w' w.heap.size y (coverF gs i j gs.length (gs.length - 1) 0) ∧ Below w.heap.size w w' := by
  have hn := gOk_len hok
  have hB := covW_below w v lv i j
  have hsm := (gOk_iff.1 hok).2.2
  have hc7 : (covW w v lv i j).cell? ⟨w.heap.size, 0, none⟩ = some v := by
    refine cell_of_var (t := 42) ?_
    unfold covW; exact nest_get (nest_get (nest_get (nest_get (nest_get (nest_get (nest_new _ _ _ (by simp)))))))
  have hT := tst_start (i := i) (j := j) hr hlv hL hl
  obtain ⟨m, hm⟩ : ∃ m, gs.length - 1 = m := ⟨_, rfl⟩
  rw [hm] at hfew ⊢
  have HTA := Lib.hid (fun W hW => take_any (w.heap.size + 4) (w.heap.size + 1) (w.heap.size + 2) (w.heap.size + 3) (w.heap.size + 5) w.heap.size (w.heap.size + 6) i j gs hok gs.length m (by omega) (by omega) 0 [] W (by omega) (by have := small_at hsm m (by omega); omega) (by rw [List.length_nil]; omega) hW)
  obtain ⟨A, cr, rfl, _⟩ := hr
  subst hlv
  have HLA : Hid (∀ W, Calls Tryd.prog 120 #[.slice A gs.length cr] W fun e w' => e = .returned (.int .i64 (m : Int)) ∧ w' = W) := Lib.hid (fun W => (lastA A gs.length cr (by omega) W).mono fun e w' h => ⟨h.1.trans (ret_int (by omega)), h.2⟩)
  have HB := Lib.hid hB
  have HT := Lib.hid hT
  have HC := Lib.hid hc7
  clear hl hsm hok hB hT hc7 hm
  go_enter Tryd.func105, Tryd.ntmps105
  go_wp2_with fail
  change Code.wp _ _ _ _ (covW w (.slice A gs.length cr) (.slice (some ⟨L, 0, none⟩) gs.length c) i j)
  generalize covW w (.slice A gs.length cr) (.slice (some ⟨L, 0, none⟩) gs.length c) i j = W7 at HT HB HC ⊢
  have t7 : W7.cell? ⟨w.heap.size + 1 + 1 + 1 + 1 + 1 + 1, 0, none⟩ = some (takeV (w.heap.size + 1) (w.heap.size + 1 + 1) (w.heap.size + 1 + 1 + 1) (w.heap.size + 1 + 1 + 1 + 1 + 1) w.heap.size (w.heap.size + 1 + 1 + 1 + 1 + 1 + 1)) := HT.out.t.cell.1
  have r7 := HC.out
  refine wp_region_still_tail 3 (by kernel_rfl) (by kernel_rfl) ?_
  simp only [List.take_succ_cons, List.take_zero, List.drop_succ_cons, List.drop_zero]
  still_step
  still_step
  still_call (HLA.out _)
  refine wpStill_nil ?_
  change wpList _ _ _ _ _ W7.drew
  have HT2 : Hid (TSt (w.heap.size + 4) (w.heap.size + 1) (w.heap.size + 2) (w.heap.size + 3) (w.heap.size + 5) w.heap.size (w.heap.size + 6) i j gs [] W7.drew) := Lib.hid (HT.out.kept (Below.refl _ W7).drew)
  have HB2 := Lib.hid HB.out.1.drew
  clear t7 r7
  go_wp2_with fail
  refine (HTA.out _ HT2.out).mono ?_
  rintro e w8 ⟨rfl, hT8, hB8, _⟩
  obtain ⟨yv, y1, y2⟩ := hT8.c
  obtain ⟨Ay, cy, rfl⟩ := own_slice y2
  have HO := Lib.hid y2
  have HB8 := Lib.hid (HB2.out.trans (hB8.mono (by omega)))
  have y8 : w8.cell? ⟨w.heap.size + 1 + 1 + 1 + 1 + 1, 0, none⟩ = _ := y1.cell.1
  clear hT8 y1 y2 hB8
  go_wp2_with fail
  go_ret
  exact ⟨_, rfl, own_lower HO.out (by omega), HB8.out⟩
end Go.Proofs.YtcaeihdfljljbaaDoor
