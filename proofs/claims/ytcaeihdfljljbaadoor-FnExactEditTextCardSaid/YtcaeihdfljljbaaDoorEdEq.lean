/-
  Walk: laws.eqEdit at what reads the same.
-/
import Derived.Test.YtcaeihdfljljbaaDoorEdTo
namespace Go.Proofs.YtcaeihdfljljbaaDoor
open Go.RowKit
open Wd
set_option linter.unusedVariables false
set_option maxRecDepth 100000 in
set_option maxHeartbeats 3200000 in
theorem eqEdit_same (u v : Value) (x : Ed) (w : World) (hn : x.gs.length ≤ 1048576) (h1 : IsEd w u x) (h2 : IsEd w v x) :
    Calls Tryd.prog 19 #[u, v] w fun e w' => e = .returned (.bool true) ∧ Below w.heap.size w w' := by
  obtain ⟨k, i, j, t, gs, m⟩ := x
  obtain ⟨u, rfl, h1⟩ := h1
  obtain ⟨v, rfl, h2⟩ := h2
  simp only at hn h1 h2
  have HE := Lib.hid (fun W (hb : Below w.heap.size w W) => eqGrammar_same _ _ gs W hn (h1.kept hb) (h2.kept hb))
  obtain ⟨A1, c1, rfl, _⟩ := h1
  obtain ⟨A2, c2, rfl, _⟩ := h2
  have hB0 : Below w.heap.size w ((w.alloc (.cells #[.int .i64 k, .int .i64 i, .int .i64 j, .int .i64 t, .slice A1 gs.length c1, .string m] 46)).alloc (.cells #[.int .i64 k, .int .i64 i, .int .i64 j, .int .i64 t, .slice A2 gs.length c2, .string m] 46)) := ((Below.refl _ w).alloc (Nat.le_refl _) _).alloc (by simp) _
  have b1 := (Below.refl _ (w.alloc (.cells #[.int .i64 k, .int .i64 i, .int .i64 j, .int .i64 t, .slice A1 gs.length c1, .string m] 46))).alloc (Nat.le_refl _) (.cells #[.int .i64 k, .int .i64 i, .int .i64 j, .int .i64 t, .slice A2 gs.length c2, .string m] 46)
  have hP := (b1.block w.heap.size (by simp)).trans (heap_alloc_new w _)
  have hQ := heap_alloc_new (w.alloc (.cells #[.int .i64 k, .int .i64 i, .int .i64 j, .int .i64 t, .slice A1 gs.length c1, .string m] 46)) (.cells #[.int .i64 k, .int .i64 i, .int .i64 j, .int .i64 t, .slice A2 gs.length c2, .string m] 46)
  rw [show (w.alloc (.cells #[.int .i64 k, .int .i64 i, .int .i64 j, .int .i64 t, .slice A1 gs.length c1, .string m] 46)).heap.size = w.heap.size + 1 from by simp] at hQ
  have hs : w.heap.size + 2 ≤ ((w.alloc (.cells #[.int .i64 k, .int .i64 i, .int .i64 j, .int .i64 t, .slice A1 gs.length c1, .string m] 46)).alloc (.cells #[.int .i64 k, .int .i64 i, .int .i64 j, .int .i64 t, .slice A2 gs.length c2, .string m] 46)).heap.size := by simp
  have HP := Lib.hid hP
  have HQ := Lib.hid hQ
  have HB := Lib.hid hB0
  have HS := Lib.hid hs
  obtain ⟨⟨p0, p1, p2, p3, p4, p5⟩, _⟩ := blk6_cells hP
  obtain ⟨⟨q0, q1, q2, q3, q4, q5⟩, _⟩ := blk6_cells hQ
  clear hP hQ hB0 b1 hs
  show Calls Tryd.prog _ #[.agg #[.int .i64 k, .int .i64 i, .int .i64 j, .int .i64 t, .slice A1 gs.length c1, .string m], .agg #[.int .i64 k, .int .i64 i, .int .i64 j, .int .i64 t, .slice A2 gs.length c2, .string m]] _ _
  go_enter Tryd.func19, Tryd.ntmps19
  go_wp2_with fail
  refine (HE.out _ HB.out).mono ?_
  rintro e w1 ⟨rfl, hB1⟩
  have hP := (hB1.block w.heap.size (by have := HS.out; omega)).trans HP.out
  have hQ := (hB1.block (w.heap.size + 1) (by have := HS.out; omega)).trans HQ.out
  obtain ⟨⟨_, _, _, _, _, s5⟩, _⟩ := blk6_cells hP
  obtain ⟨⟨_, _, _, _, _, t5⟩, _⟩ := blk6_cells hQ
  have HB1 := Lib.hid (HB.out.trans (hB1.mono (by have := HS.out; omega)))
  clear hB1 hP hQ
  go_wp2_with fail
  go_ret
  exact ⟨rfl, HB1.out⟩
end Go.Proofs.YtcaeihdfljljbaaDoor
