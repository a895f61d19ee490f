/-
  Walk: laws.toAuto: a copy in new memory.
-/
import Derived.Test.YtddjcgaejjldbaaAuTo
namespace Go.Proofs.Ytddjcgaejjldbaa
open Go.RowKit
open Wd
set_option linter.unusedVariables false
theorem blk4_cells {w : World} {R : Nat} {t : TypeId} {a b c d : Value} (h : w.heap[R]? = some (.cells #[a, b, c, d] t (0, 0))) :
    (w.cell? ⟨R, 0, none⟩ = some a ∧ w.cell? ⟨R, 1, none⟩ = some b ∧ w.cell? ⟨R, 2, none⟩ = some c ∧ w.cell? ⟨R, 3, none⟩ = some d) ∧ (w.frozen? ⟨R, 0, none⟩ = false ∧ w.frozen? ⟨R, 1, none⟩ = false ∧ w.frozen? ⟨R, 2, none⟩ = false ∧ w.frozen? ⟨R, 3, none⟩ = false) := by
  refine ⟨⟨?_, ?_, ?_, ?_⟩, ?_, ?_, ?_, ?_⟩
  · rw [cell_of_row _ _ _ _ _ _ h]; rfl
  · rw [cell_of_row _ _ _ _ _ _ h]; rfl
  · rw [cell_of_row _ _ _ _ _ _ h]; rfl
  · rw [cell_of_row _ _ _ _ _ _ h]; rfl
  · simp [World.frozen?, h]
  · simp [World.frozen?, h]
  · simp [World.frozen?, h]
  · simp [World.frozen?, h]
theorem blk4_01 {w : World} {R : Nat} {t : TypeId} {a b c d a' b' : Value} (h : w.heap[R]? = some (.cells #[a, b, c, d] t (0, 0))) :
    ((w.setCell ⟨R, 0, none⟩ a').setCell ⟨R, 1, none⟩ b').heap[R]? = some (.cells #[a', b', c, d] t (0, 0)) := by
  simp [World.setCell, Array.getElem?_modify, h]
theorem blk4_2 {w : World} {R : Nat} {t : TypeId} {a b c d c' : Value} (h : w.heap[R]? = some (.cells #[a, b, c, d] t (0, 0))) :
    (w.setCell ⟨R, 2, none⟩ c').heap[R]? = some (.cells #[a, b, c', d] t (0, 0)) := by
  simp [World.setCell, Array.getElem?_modify, h]
theorem blk4_3 {w : World} {R : Nat} {t : TypeId} {a b c d d' : Value} (h : w.heap[R]? = some (.cells #[a, b, c, d] t (0, 0))) :
    (w.setCell ⟨R, 3, none⟩ d').heap[R]? = some (.cells #[a, b, c, d'] t (0, 0)) := by
  simp [World.setCell, Array.getElem?_modify, h]
theorem blk4_all {w : World} {R : Nat} {t : TypeId} {a b c d a' b' c' d' : Value} (h : w.heap[R]? = some (.cells #[a, b, c, d] t (0, 0))) :
    ((((w.setCell ⟨R, 0, none⟩ a').setCell ⟨R, 1, none⟩ b').setCell ⟨R, 2, none⟩ c').setCell ⟨R, 3, none⟩ d').heap[R]? = some (.cells #[a', b', c', d'] t (0, 0)) := by
  simp [World.setCell, Array.getElem?_modify, h]
theorem al3 (w : World) (a b c : Obj) : (((w.alloc a).alloc b).alloc c).heap[w.heap.size]? = some a ∧ (((w.alloc a).alloc b).alloc c).heap[w.heap.size + 1]? = some b ∧ (((w.alloc a).alloc b).alloc c).heap[w.heap.size + 2]? = some c ∧ Below w.heap.size w (((w.alloc a).alloc b).alloc c) ∧ (((w.alloc a).alloc b).alloc c).heap.size = w.heap.size + 3 := by
  have h0 := heap_alloc_new w a
  have h1 := heap_alloc_new (w.alloc a) b
  have h2 := heap_alloc_new ((w.alloc a).alloc b) c
  have s1 : (w.alloc a).heap.size = w.heap.size + 1 := by simp
  have s2 : ((w.alloc a).alloc b).heap.size = w.heap.size + 2 := by simp
  have b1 := (Below.refl _ (w.alloc a)).alloc (Nat.le_refl _) b
  have b2 := (Below.refl _ ((w.alloc a).alloc b)).alloc (Nat.le_refl _) c
  rw [s1] at h1
  rw [s2] at h2
  refine ⟨(b2.block _ (by omega)).trans ((b1.block _ (by omega)).trans h0), (b2.block _ (by omega)).trans h1, h2, (((Below.refl _ w).alloc (Nat.le_refl _) _).alloc (by simp) _).alloc (by simp; omega) _, by simp⟩
set_option maxRecDepth 100000 in
set_option maxHeartbeats 1600000 in
theorem toAuto_any (v : Value) (x : Au) (w : World) (hf : FewA x) (h : IsAu w v x) :
    Calls Try.prog 24 #[v] w fun e w' => ∃ y, e = .returned y ∧ IsAu w' y x ∧ Below w.heap.size w w' := by
  obtain ⟨f, n, rfl, hF, hN⟩ := h
  obtain ⟨st, go, fin, nx⟩ := x
  simp only at hF hN
  have hf1 := hf.fin
  have hf2 := hf.nx
  have hf3 := hf.row
  simp only at hf1 hf2 hf3
  obtain ⟨Af, cf, rfl⟩ := hF.shape
  obtain ⟨An, cn, rfl, hNn⟩ := hN
  have hN : IsLL w (.slice An nx.length cn) nx := ⟨An, cn, rfl, hNn⟩
  have HF := Lib.hid hF
  have HNL := Lib.hid hN
  clear hF hN hNn hf
  show Calls Try.prog _ #[.agg #[.int .i64 st, .int .i64 go, .slice Af fin.length cf, .slice An nx.length cn]] _ _
  go_enter Try.func24, Try.ntmps24
  go_upto_region 4 with fail
  obtain ⟨hP, hZ, hR, hB3, hs3⟩ := al3 w (.cells #[.int .i64 st, .int .i64 go, .slice Af fin.length cf, .slice An nx.length cn] 37) (.cells #[.int .i64 0, .int .i64 0, .slice none 0 0, .slice none 0 0] 39) (.cells #[.int .i64 st, .int .i64 go, .slice none 0 0, .slice none 0 0] 39)
  generalize ((w.alloc (.cells #[.int .i64 st, .int .i64 go, .slice Af fin.length cf, .slice An nx.length cn] 37)).alloc (.cells #[.int .i64 0, .int .i64 0, .slice none 0 0, .slice none 0 0] 39)).alloc (.cells #[.int .i64 st, .int .i64 go, .slice none 0 0, .slice none 0 0] 39) = w3 at *
  obtain ⟨⟨_, _, p2, p3⟩, _⟩ := blk4_cells hP
  have HS3 := Lib.hid hs3
  have HP := Lib.hid hP
  have HZ := Lib.hid hZ
  have HR := Lib.hid hR
  have HB3 := Lib.hid hB3
  have HF3 := Lib.hid (HF.out.kept hB3)
  clear hs3 hP hZ hR hB3
  go_wp2_with fail
  refine (toI_any _ fin _ hf1 HF3.out).mono ?_
  rintro e w4 ⟨y1, rfl, hy1, hB4⟩
  have hP := (hB4.block w.heap.size (by rw [HS3.out]; omega)).trans HP.out
  have hZ := (hB4.block (w.heap.size + 1) (by rw [HS3.out]; omega)).trans HZ.out
  have hR := (hB4.block (w.heap.size + 2) (by rw [HS3.out]; omega)).trans HR.out
  have HB4 := Lib.hid (HB3.out.trans (hB4.mono (by rw [HS3.out]; omega)))
  obtain ⟨A1, c1, rfl⟩ := own_slice hy1
  have HS4 : Hid (w.heap.size + 3 ≤ w4.heap.size) := Lib.hid (by have := hB4.size; rw [HS3.out] at this; exact this)
  obtain ⟨⟨_, _, r2, _⟩, _, _, f2, _⟩ := blk4_cells hR
  have HR5 := Lib.hid (blk4_2 (c' := .slice A1 fin.length c1) hR)
  have HP5 := Lib.hid ((Below.heap_setCell w4 ⟨w.heap.size + 2, 2, none⟩ (.slice A1 fin.length c1) w.heap.size (by simp)).trans hP)
  have HZ5 := Lib.hid ((Below.heap_setCell w4 ⟨w.heap.size + 2, 2, none⟩ (.slice A1 fin.length c1) (w.heap.size + 1) (by simp)).trans hZ)
  have HO5 := Lib.hid (own_setLow hy1 ⟨w.heap.size + 2, 2, none⟩ (.slice A1 fin.length c1) (by rw [HS3.out]; simp))
  have HB5 := Lib.hid (HB4.out.setCell (p := ⟨w.heap.size + 2, 2, none⟩) (by simp) (.slice A1 fin.length c1))
  have HS5 : Hid (w.heap.size + 3 ≤ (w4.setCell ⟨w.heap.size + 2, 2, none⟩ (.slice A1 fin.length c1)).heap.size) := Lib.hid (by have := HS4.out; simpa [World.setCell] using this)
  clear hy1 hB4 hP hZ hR p2
  go_upto_region 5 with fail
  generalize w4.setCell ⟨w.heap.size + 2, 2, none⟩ (.slice A1 fin.length c1) = w5 at *
  obtain ⟨⟨_, _, p2, p3⟩, _⟩ := blk4_cells HP5.out
  have HN5 := Lib.hid (HNL.out.kept HB5.out)
  clear r2 f2
  go_wp2_with fail
  refine (toLL_any _ nx _ hf2 hf3 HN5.out).mono ?_
  rintro e w6 ⟨y2, rfl, hy2, hB6⟩
  have hZ := (hB6.block (w.heap.size + 1) (by have := HS5.out; omega)).trans HZ5.out
  have hR := (hB6.block (w.heap.size + 2) (by have := HS5.out; omega)).trans HR5.out
  obtain ⟨A2, c2, rfl, _⟩ := hy2.isLL
  obtain ⟨⟨_, _, _, r3⟩, _, _, _, f3⟩ := blk4_cells hR
  have HR7 := Lib.hid (blk4_3 (d' := .slice A2 nx.length c2) hR)
  have HZ7 := Lib.hid ((Below.heap_setCell w6 ⟨w.heap.size + 2, 3, none⟩ (.slice A2 nx.length c2) (w.heap.size + 1) (by simp)).trans hZ)
  have HO7 := Lib.hid (own_setLow (own_below HO5.out hB6 (Nat.le_refl _)) ⟨w.heap.size + 2, 3, none⟩ (.slice A2 nx.length c2) (by rw [HS3.out]; simp))
  have HL7 := Lib.hid (hy2.far ⟨w.heap.size + 2, 3, none⟩ (.slice A2 nx.length c2) (by have := HS5.out; simp only; omega))
  have HB7 := Lib.hid ((HB5.out.trans (hB6.mono (by have := HS5.out; omega))).setCell (p := ⟨w.heap.size + 2, 3, none⟩) (by simp) (.slice A2 nx.length c2))
  clear hy2 hB6 hZ hR p2 p3
  go_upto_region 6 with fail
  generalize w6.setCell ⟨w.heap.size + 2, 3, none⟩ (.slice A2 nx.length c2) = w7 at *
  obtain ⟨⟨q0, q1, q2, q3⟩, _⟩ := blk4_cells HR7.out
  obtain ⟨⟨z0, z1, z2, z3⟩, g0, g1, g2, g3⟩ := blk4_cells HZ7.out
  have HE := Lib.hid (blk4_cells (blk4_all (a' := .int .i64 st) (b' := .int .i64 go) (c' := .slice A1 fin.length c1) (d' := .slice A2 nx.length c2) HZ7.out)).1
  clear r3 f3
  go_wp2_with fail
  obtain ⟨y0, y1, y2, y3⟩ := HE.out
  refine bodyPost_ret (v := .agg #[.int .i64 st, .int .i64 go, .slice A1 fin.length c1, .slice A2 nx.length c2]) (by simp [results, Try.results24, go_sem, y0, y1, y2, y3]) rfl ⟨_, rfl, ⟨_, _, rfl, ?_, ?_⟩, ?_⟩
  · refine IsL.of_own (own_setLow (own_setLow (own_setLow (own_setLow HO7.out _ _ ?_) _ _ ?_) _ _ ?_) _ _ ?_) <;> (rw [HS3.out]; simp)
  · refine OwnLL.isLL ((((HL7.out.far _ _ ?_).far _ _ ?_).far _ _ ?_).far _ _ ?_) <;> (have := HS5.out; simp only; omega)
  · exact (((HB7.out.setCell (by simp) _).setCell (by simp) _).setCell (by simp) _).setCell (by simp) _
end Go.Proofs.Ytddjcgaejjldbaa
