/-
  The walk of FnExactEditText: it returns true at every input.
-/
import Derived.Test.YtcaeihdfljljbaaDoorEtI
import Derived.Test.YtcaeihdfljljbaaDoorEdEq
namespace Go.Proofs.YtcaeihdfljljbaaDoor.fnExactEditText
open Go.RowKit Wd
set_option linter.unusedVariables false
set_option maxRecDepth 100000 in
set_option maxHeartbeats 12800000 in
theorem walk (x : Ed) (A : Option Addr) (n0 cap : Nat) (w : World) (hl : n0 ≤ maxLen) (h : InRules w A n0 x.gs) (hm : x.m.size ≤ maxLen) (hpw : Pow10 w) :
    Calls Tryd.prog 5 #[edV x (.slice A n0 cap)] w fun e w' => e = .returned (.bool true) ∧ Below w.heap.size w w' := by
  obtain ⟨k, i, j, t, gs, m⟩ := x
  simp only at h hm
  have hb := (Below.refl _ w).alloc (Nat.le_refl _) (.cells #[.int .i64 k, .int .i64 i, .int .i64 j, .int .i64 t, .slice A n0 cap, .string m] 39)
  have hP := heap_alloc_new w (.cells #[.int .i64 k, .int .i64 i, .int .i64 j, .int .i64 t, .slice A n0 cap, .string m] 39)
  have HZ := Lib.hid (szEdit_any ⟨k, i, j, t, gs, m⟩ A n0 cap 1048576 _ hl (h.kept hb) hm (by omega) (by omega))
  have HI := Lib.hid h
  have HB := Lib.hid hb
  have HP := Lib.hid hP
  have HW := Lib.hid (show w.heap.size < (w.alloc (.cells #[.int .i64 k, .int .i64 i, .int .i64 j, .int .i64 t, .slice A n0 cap, .string m] 39)).heap.size by simp)
  have HL := Lib.hid h.1
  clear hb hP hm h
  show Calls Tryd.prog _ #[.agg #[.int .i64 k, .int .i64 i, .int .i64 j, .int .i64 t, .slice A n0 cap, .string m]] _ _
  go_enter Tryd.func5, Tryd.ntmps5
  go_wp2_with fail
  refine HZ.out.mono ?_
  rintro e w1 ⟨y, rfl, hB1, hpaid⟩
  have HB1 := Lib.hid (HB.out.trans (hB1.mono (by simp)))
  have HP1 := Lib.hid ((hB1.block w.heap.size HW.out).trans HP.out)
  have HS1 : Hid (w.heap.size < w1.heap.size) := Lib.hid (by have := hB1.size; have := HW.out; omega)
  clear hB1 HB HP HW HZ
  rcases hpaid with rfl | ⟨hy0, hy1, hfew⟩
  · go_wp2_with fail
    go_ret
    exact ⟨rfl, HB1.out⟩
  · have hn : gs.length ≤ 1048576 := hfew.1.len
    have hn0 : n0 ≤ 1048576 := by have := HL.out; omega
    have HT := Lib.hid (fun W (hb : Below w.heap.size w W) => toEdit_any ⟨k, i, j, t, gs, m⟩ A n0 cap W hn0 (HI.out.kept hb))
    have HSV := Lib.hid (fun W u (h : IsEd W u ⟨k, i, j, t, gs, m⟩) => specEditText u ⟨k, i, j, t, gs, m⟩ W hfew h)
    have HIV := Lib.hid (fun W u (hb : Below w.heap.size w W) (h : IsEd W u ⟨k, i, j, t, gs, m⟩) => implEditText u ⟨k, i, j, t, gs, m⟩ W hfew h (hpw.kept hb))
    have HEQ := Lib.hid (fun W u v (h1 : IsEd W u ⟨k, i, j, t, gs, m⟩) (h2 : IsEd W v ⟨k, i, j, t, gs, m⟩) => eqEdit_same u v ⟨k, i, j, t, gs, m⟩ W hn h1 h2)
    have hny : ¬ y < 0 := by omega
    obtain ⟨⟨p0, p1, p2, p3, p4, p5⟩, _⟩ := blk6_cells HP1.out
    clear hfew hy0 hy1 hpw
    generalize edA ⟨k, i, j, t, gs, m⟩ = R at *
    have hq : (R.toList == R.toList) = true := by simp
    go_wp2_with fail
    refine (HT.out _ HB1.out).mono ?_
    rintro e w2 ⟨y1, rfl, hy1, hB2⟩
    have HB2 := Lib.hid (HB1.out.trans (hB2.mono HB1.out.size))
    have HP2 := Lib.hid ((hB2.block w.heap.size HS1.out).trans HP1.out)
    have HS2 : Hid (w.heap.size < w2.heap.size) := Lib.hid (by have := hB2.size; have := HS1.out; omega)
    have HV2 := Lib.hid (HSV.out _ _ ⟨y1, rfl, Rules.of_own hy1⟩)
    obtain ⟨A1, c1, rfl⟩ := own_slice hy1
    clear hy1 hB2 p0 p1 p2 p3 p4 p5
    unfold edV
    go_wp2_with fail
    refine HV2.out.mono ?_
    rintro e w3 ⟨rfl, hB3⟩
    have HB3 := Lib.hid (HB2.out.trans (hB3.mono HB2.out.size))
    have HP3 := Lib.hid ((hB3.block w.heap.size HS2.out).trans HP2.out)
    have HS3 : Hid (w.heap.size < w3.heap.size) := Lib.hid (by have := hB3.size; have := HS2.out; omega)
    obtain ⟨⟨p0, p1, p2, p3, p4, p5⟩, _⟩ := blk6_cells HP3.out
    clear hB3
    go_wp2_with fail
    refine (HT.out _ HB3.out).mono ?_
    rintro e w4 ⟨y2, rfl, hy2, hB4⟩
    have HB4 := Lib.hid (HB3.out.trans (hB4.mono HB3.out.size))
    have HP4 := Lib.hid ((hB4.block w.heap.size HS3.out).trans HP3.out)
    have HS4 : Hid (w.heap.size < w4.heap.size) := Lib.hid (by have := hB4.size; have := HS3.out; omega)
    have HY2 := Lib.hid (show IsEd w4 _ ⟨k, i, j, t, gs, m⟩ from ⟨y2, rfl, Rules.of_own hy2⟩)
    obtain ⟨A2, c2, rfl⟩ := own_slice hy2
    unfold edV at HY2 ⊢
    simp only at HY2 ⊢
    clear hy2 hB4 p0 p1 p2 p3 p4 p5
    go_upto_region 7 with fail
    have hb5 := (Below.refl _ w4).alloc (Nat.le_refl _) (.cells #[.int .i64 k, .int .i64 i, .int .i64 j, .int .i64 t, .slice A2 gs.length c2, .string m] 46)
    have hX5 := heap_alloc_new w4 (.cells #[.int .i64 k, .int .i64 i, .int .i64 j, .int .i64 t, .slice A2 gs.length c2, .string m] 46)
    have HY5 := Lib.hid (HY2.out.kept hb5)
    have HB5 := Lib.hid (HB4.out.trans (hb5.mono HB4.out.size))
    have HP5 := Lib.hid ((hb5.block w.heap.size HS4.out).trans HP4.out)
    have hs5 : w4.heap.size < (w4.alloc (.cells #[.int .i64 k, .int .i64 i, .int .i64 j, .int .i64 t, .slice A2 gs.length c2, .string m] 46)).heap.size := by simp
    obtain ⟨X, hX⟩ : ∃ X, X = w4.heap.size := ⟨_, rfl⟩
    rw [← hX] at hX5 hs5 ⊢
    have HS4 : Hid (w.heap.size < X) := Lib.hid (by rw [hX]; exact HS4.out)
    generalize w4.alloc (.cells #[.int .i64 k, .int .i64 i, .int .i64 j, .int .i64 t, .slice A2 gs.length c2, .string m] 46) = w5 at *
    have HX5 := Lib.hid hX5
    have HS5 := Lib.hid hs5
    obtain ⟨⟨q0, q1, q2, q3, q4, q5⟩, _⟩ := blk6_cells hX5
    clear hX5 hs5 hb5 hX
    go_wp2_with fail
    refine (HIV.out _ _ HB5.out HY5.out).mono ?_
    rintro e w6 ⟨rfl, hB6⟩
    have HB6 := Lib.hid (HB5.out.trans (hB6.mono HB5.out.size))
    have HP6 := Lib.hid ((hB6.block w.heap.size (Nat.lt_trans HS4.out HS5.out)).trans HP5.out)
    have HX6 := Lib.hid ((hB6.block X HS5.out).trans HX5.out)
    have HY6 := Lib.hid (HY5.out.kept hB6)
    have HS6 : Hid (X < w6.heap.size) := Lib.hid (by have := hB6.size; have := HS5.out; omega)
    clear hB6 q0 q1 q2 q3 q4 q5
    go_upto_region 10 with fail
    obtain ⟨⟨p0, p1, p2, p3, p4, p5⟩, _⟩ := blk6_cells HP6.out
    obtain ⟨⟨q0, q1, q2, q3, q4, q5⟩, _⟩ := blk6_cells HX6.out
    have HC6 := Lib.hid (And.intro (And.intro p0 (And.intro p1 (And.intro p2 (And.intro p3 (And.intro p4 p5))))) (And.intro q0 (And.intro q1 (And.intro q2 (And.intro q3 (And.intro q4 q5))))))
    have HT6 := Lib.hid (fun m => HT.out (w6.drewN m) (below_drewN HB6.out m))
    go_region_held3 (fun w' => (w'.cell? ⟨w.heap.size, 0, none⟩ = some (.int .i64 k) ∧ w'.cell? ⟨w.heap.size, 1, none⟩ = some (.int .i64 i) ∧ w'.cell? ⟨w.heap.size, 2, none⟩ = some (.int .i64 j) ∧ w'.cell? ⟨w.heap.size, 3, none⟩ = some (.int .i64 t) ∧ w'.cell? ⟨w.heap.size, 4, none⟩ = some (.slice A n0 cap) ∧ w'.cell? ⟨w.heap.size, 5, none⟩ = some (.string m)) ∧ w'.cell? ⟨X, 0, none⟩ = some (.int .i64 k) ∧ w'.cell? ⟨X, 1, none⟩ = some (.int .i64 i) ∧ w'.cell? ⟨X, 2, none⟩ = some (.int .i64 j) ∧ w'.cell? ⟨X, 3, none⟩ = some (.int .i64 t) ∧ w'.cell? ⟨X, 4, none⟩ = some (.slice A2 gs.length c2) ∧ w'.cell? ⟨X, 5, none⟩ = some (.string m))
      (first | exact HC6.out | exact HC7.out | exact HC8.out | go_keep)
      (first
        | (go_at_call 17
           refine (HT6.out _).mono ?_
           rintro e w7 ⟨y3, rfl, hy3, hB7⟩
           have hB7 := below_undrew hB7
           have HB7 := Lib.hid (HB6.out.trans (hB7.mono HB6.out.size))
           have hP7 := (hB7.block w.heap.size (Nat.lt_trans HS4.out HS6.out)).trans HP6.out
           have hX7 := (hB7.block X HS6.out).trans HX6.out
           have HC7 := Lib.hid (And.intro (blk6_cells hP7).1 (blk6_cells hX7).1)
           have HY7 := Lib.hid (HY6.out.kept hB7)
           have HZ7 := Lib.hid (show IsEd w7 _ ⟨k, i, j, t, gs, m⟩ from ⟨y3, rfl, Rules.of_own hy3⟩)
           have HP7 := Lib.hid hP7
           have HX7 := Lib.hid hX7
           have HS7 : Hid (X < w7.heap.size) := Lib.hid (by have := hB7.size; have := HS6.out; omega)
           clear hP7 hX7 hy3 hB7)
        | (go_at_call 19
           refine (HEQ.out _ _ _ HY7.out HZ7.out).mono ?_
           rintro e w8 ⟨rfl, hB8⟩
           have HB8 := Lib.hid (HB7.out.trans (hB8.mono HB7.out.size))
           have hP8 := (hB8.block w.heap.size (Nat.lt_trans HS4.out HS7.out)).trans HP7.out
           have hX8 := (hB8.block X HS7.out).trans HX7.out
           have HC8 := Lib.hid (And.intro (blk6_cells hP8).1 (blk6_cells hX8).1)
           clear hP8 hX8 hB8))
    clear p0 p1 p2 p3 p4 p5 q0 q1 q2 q3 q4 q5
    go_wp2_with fail
    go_ret
    exact ⟨rfl, HB8.out⟩
end Go.Proofs.YtcaeihdfljljbaaDoor.fnExactEditText
