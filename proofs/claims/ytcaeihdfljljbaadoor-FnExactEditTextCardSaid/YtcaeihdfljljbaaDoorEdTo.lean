/-
  Walk: laws.toEdit.
-/
import Derived.Test.YtcaeihdfljljbaaDoorEdSz
import Derived.Deep.Cut
namespace Go.Proofs.YtcaeihdfljljbaaDoor
open Go.RowKit
open Wd
set_option linter.unusedVariables false
set_option maxRecDepth 100000 in
set_option maxHeartbeats 3200000 in
theorem toEdit_any (x : Ed) (A : Option Addr) (n cap : Nat) (w : World) (hl : n ≤ 1048576) (h : InRules w A n x.gs) :
    Calls Tryd.prog 17 #[edV x (.slice A n cap)] w fun e w' => ∃ y, e = .returned (edV x y) ∧ OwnsR w' w.heap.size y x.gs ∧ Below w.heap.size w w' := by
  obtain ⟨k, i, j, t, gs, m⟩ := x
  simp only at h
  have HT := Lib.hid (fun W (hW : InRules W A n gs) => toGrammar_any A n cap gs W hl hW)
  have HI := Lib.hid h
  clear h
  show Calls Tryd.prog _ #[.agg #[.int .i64 k, .int .i64 i, .int .i64 j, .int .i64 t, .slice A n cap, .string m]] _ _
  go_enter Tryd.func17, Tryd.ntmps17
  go_upto_region 6 with fail
  obtain ⟨hP, hZ, hR, hB3, hs3⟩ := al3 w (.cells #[.int .i64 k, .int .i64 i, .int .i64 j, .int .i64 t, .slice A n cap, .string m] 39) (.cells #[.int .i64 0, .int .i64 0, .int .i64 0, .int .i64 0, .slice none 0 0, .string ⟨#[]⟩] 46) (.cells #[.int .i64 k, .int .i64 i, .int .i64 j, .int .i64 t, .slice none 0 0, .string ⟨#[]⟩] 46)
  generalize ((w.alloc (.cells #[.int .i64 k, .int .i64 i, .int .i64 j, .int .i64 t, .slice A n cap, .string m] 39)).alloc (.cells #[.int .i64 0, .int .i64 0, .int .i64 0, .int .i64 0, .slice none 0 0, .string ⟨#[]⟩] 46)).alloc (.cells #[.int .i64 k, .int .i64 i, .int .i64 j, .int .i64 t, .slice none 0 0, .string ⟨#[]⟩] 46) = w3 at *
  obtain ⟨⟨_, _, _, _, p4, p5⟩, _⟩ := blk6_cells hP
  have HS3 := Lib.hid hs3
  have HP := Lib.hid hP
  have HZ := Lib.hid hZ
  have HR := Lib.hid hR
  have HB3 := Lib.hid hB3
  clear hs3 hP hZ hR hB3
  go_wp2_with fail
  refine (HT.out _ (HI.out.kept HB3.out)).mono ?_
  rintro e w4 ⟨y1, rfl, hy1, hB4⟩
  have hP := (hB4.block w.heap.size (by rw [HS3.out]; omega)).trans HP.out
  have hZ := (hB4.block (w.heap.size + 1) (by rw [HS3.out]; omega)).trans HZ.out
  have hR := (hB4.block (w.heap.size + 2) (by rw [HS3.out]; omega)).trans HR.out
  have HB4 := Lib.hid (HB3.out.trans (hB4.mono (by rw [HS3.out]; omega)))
  obtain ⟨A1, c1, rfl⟩ := own_slice hy1
  obtain ⟨⟨_, _, _, _, r4, _⟩, _, _, _, _, f4, _⟩ := blk6_cells hR
  have HR5 := Lib.hid (blk6_4 (e' := .slice A1 gs.length c1) hR)
  have HP5 := Lib.hid ((Below.heap_setCell w4 ⟨w.heap.size + 2, 4, none⟩ (.slice A1 gs.length c1) w.heap.size (by simp)).trans hP)
  have HZ5 := Lib.hid ((Below.heap_setCell w4 ⟨w.heap.size + 2, 4, none⟩ (.slice A1 gs.length c1) (w.heap.size + 1) (by simp)).trans hZ)
  have HO5 := Lib.hid (own_setLow hy1 ⟨w.heap.size + 2, 4, none⟩ (.slice A1 gs.length c1) (by rw [HS3.out]; simp))
  have HB5 := Lib.hid (HB4.out.setCell (p := ⟨w.heap.size + 2, 4, none⟩) (by simp) (.slice A1 gs.length c1))
  clear hy1 hB4 hP hZ hR p4 p5
  go_upto_region 7 with fail
  generalize w4.setCell ⟨w.heap.size + 2, 4, none⟩ (.slice A1 gs.length c1) = w5 at *
  obtain ⟨⟨_, _, _, _, _, p5⟩, _⟩ := blk6_cells HP5.out
  obtain ⟨⟨_, _, _, _, _, r5⟩, _, _, _, _, _, f5⟩ := blk6_cells HR5.out
  have HR7 := Lib.hid (blk6_5 (f' := .string m) HR5.out)
  have HZ7 := Lib.hid ((Below.heap_setCell w5 ⟨w.heap.size + 2, 5, none⟩ (.string m) (w.heap.size + 1) (by simp)).trans HZ5.out)
  have HO7 := Lib.hid (own_setLow HO5.out ⟨w.heap.size + 2, 5, none⟩ (.string m) (by rw [HS3.out]; simp))
  have HB7 := Lib.hid (HB5.out.setCell (p := ⟨w.heap.size + 2, 5, none⟩) (by simp) (.string m))
  clear r4 f4
  go_upto_region 8 with fail
  generalize w5.setCell ⟨w.heap.size + 2, 5, none⟩ (.string m) = w7 at *
  obtain ⟨⟨q0, q1, q2, q3, q4, q5⟩, _⟩ := blk6_cells HR7.out
  obtain ⟨⟨z0, z1, z2, z3, z4, z5⟩, g0, g1, g2, g3, g4, g5⟩ := blk6_cells HZ7.out
  have HE := Lib.hid (blk6_cells (blk6_all (a' := .int .i64 k) (b' := .int .i64 i) (c' := .int .i64 j) (d' := .int .i64 t) (e' := .slice A1 gs.length c1) (f' := .string m) HZ7.out)).1
  clear p5 r5 f5
  go_wp2_with fail
  obtain ⟨y0, y1, y2, y3, y4, y5⟩ := HE.out
  refine bodyPost_ret (v := .agg #[.int .i64 k, .int .i64 i, .int .i64 j, .int .i64 t, .slice A1 gs.length c1, .string m]) (by simp [results, Tryd.results17, go_sem, y0, y1, y2, y3, y4, y5]) rfl ⟨_, rfl, ?_, ?_⟩
  · refine own_lower (own_setLow (own_setLow (own_setLow (own_setLow (own_setLow (own_setLow HO7.out _ _ ?_) _ _ ?_) _ _ ?_) _ _ ?_) _ _ ?_) _ _ ?_) ?_ <;> (rw [HS3.out]; simp)
  · exact (((((HB7.out.setCell (by simp) _).setCell (by simp) _).setCell (by simp) _).setCell (by simp) _).setCell (by simp) _).setCell (by simp) _
end Go.Proofs.YtcaeihdfljljbaaDoor
