/-
  The walk of FnExactAutoText: it returns true at every input.
-/
import Derived.Test.YtcaeihdfljljbaaDoorAtI
namespace Go.Proofs.YtcaeihdfljljbaaDoor.fnExactAutoText
open Go.RowKit Wd
set_option linter.unusedVariables false
set_option maxRecDepth 100000 in
set_option maxHeartbeats 6400000 in
theorem walk (v : Value) (x : Au) (w : World) (hx : IsAu w v x) (hm : MaxA x) (ht : Pow10 w) :
    Calls Tryd.prog 6 #[v] w fun e w' => e = .returned (.bool true) ∧ Below w.heap.size w w' := by
  have HX := Lib.hid (fun W (hb : Below w.heap.size w W) => hx.kept hb)
  obtain ⟨f, n, rfl, hF, hN⟩ := hx
  obtain ⟨Af, cf, rfl⟩ := hF.shape
  obtain ⟨An, cn, rfl, _⟩ := hN
  have hb := (Below.refl _ w).alloc (Nat.le_refl _) (.cells #[.int .i64 x.st, .int .i64 x.go, .slice Af x.fin.length cf, .slice An x.nx.length cn] 53)
  have hP := heap_alloc_new w (.cells #[.int .i64 x.st, .int .i64 x.go, .slice Af x.fin.length cf, .slice An x.nx.length cn] 53)
  have HZ := Lib.hid (szAuto_any _ x 1048576 _ hm (HX.out _ hb) (by omega) (by omega))
  have HB := Lib.hid hb
  have HP := Lib.hid hP
  have HW := Lib.hid (show w.heap.size < (w.alloc (.cells #[.int .i64 x.st, .int .i64 x.go, .slice Af x.fin.length cf, .slice An x.nx.length cn] 53)).heap.size by simp)
  clear hF hb hP hm
  go_enter Tryd.func6, Tryd.ntmps6
  go_wp2_with fail
  refine HZ.out.mono ?_
  rintro e w1 ⟨y, rfl, hB1, hpaid⟩
  have HB1 := Lib.hid (HB.out.trans (hB1.mono (by simp)))
  have HP1 := Lib.hid ((hB1.block w.heap.size HW.out).trans HP.out)
  have HS1 : Hid (w.heap.size < w1.heap.size) := Lib.hid (by have := hB1.size; have := HW.out; omega)
  clear hB1 HB HP HW HZ
  rcases hpaid with rfl | ⟨hy0, hy1, hfew⟩
  · go_wp2_with fail
    go_ret
    exact ⟨rfl, HB1.out⟩
  · have HT := Lib.hid (fun W (hb : Below w.heap.size w W) => toAuto_any _ x W hfew (HX.out W hb))
    have HSV := Lib.hid (fun W u (h : IsAu W u x) => specAutoText u x W hfew h)
    have HIV := Lib.hid (fun W u (hb : Below w.heap.size w W) (h : IsAu W u x) => implAutoText u x W hfew h (ht.kept hb))
    have HEQ := Lib.hid (fun W u v (h1 : IsAu W u x) (h2 : IsAu W v x) => eqAuto_any u v x W hfew h1 h2)
    have hny : ¬ y < 0 := by omega
    obtain ⟨⟨p0, p1, p2, p3⟩, _⟩ := blk4_cells HP1.out
    clear hfew hy0 hy1 ht
    generalize (if aOk x = true then atT x else ⟨#[]⟩) = R at *
    have hq : (R.toList == R.toList) = true := by simp
    go_wp2_with fail
    refine (HT.out _ HB1.out).mono ?_
    rintro e w2 ⟨y1, rfl, hy1, hB2⟩
    have HB2 := Lib.hid (HB1.out.trans (hB2.mono HB1.out.size))
    have HP2 := Lib.hid ((hB2.block w.heap.size HS1.out).trans HP1.out)
    have HS2 : Hid (w.heap.size < w2.heap.size) := Lib.hid (by have := hB2.size; have := HS1.out; omega)
    have HV2 := Lib.hid (HSV.out _ _ hy1)
    clear hy1 hB2 p0 p1 p2 p3
    go_wp2_with fail
    refine HV2.out.mono ?_
    rintro e w3 ⟨rfl, hB3⟩
    have HB3 := Lib.hid (HB2.out.trans (hB3.mono HB2.out.size))
    have HP3 := Lib.hid ((hB3.block w.heap.size HS2.out).trans HP2.out)
    have HS3 : Hid (w.heap.size < w3.heap.size) := Lib.hid (by have := hB3.size; have := HS2.out; omega)
    obtain ⟨⟨p0, p1, p2, p3⟩, _⟩ := blk4_cells HP3.out
    clear hB3
    go_wp2_with fail
    refine (HT.out _ HB3.out).mono ?_
    rintro e w4 ⟨y2, rfl, hy2, hB4⟩
    have HB4 := Lib.hid (HB3.out.trans (hB4.mono HB3.out.size))
    have HP4 := Lib.hid ((hB4.block w.heap.size HS3.out).trans HP3.out)
    have HS4 : Hid (w.heap.size < w4.heap.size) := Lib.hid (by have := hB4.size; have := HS3.out; omega)
    have HY2 := Lib.hid hy2
    obtain ⟨f2, n2, rfl, hF2, hN2⟩ := hy2
    obtain ⟨Af2, cf2, rfl⟩ := hF2.shape
    obtain ⟨An2, cn2, rfl, _⟩ := hN2
    clear hF2 hB4 p0 p1 p2 p3
    go_upto_region 7 with fail
    have hb5 := (Below.refl _ w4).alloc (Nat.le_refl _) (.cells #[.int .i64 x.st, .int .i64 x.go, .slice Af2 x.fin.length cf2, .slice An2 x.nx.length cn2] 56)
    have hX5 := heap_alloc_new w4 (.cells #[.int .i64 x.st, .int .i64 x.go, .slice Af2 x.fin.length cf2, .slice An2 x.nx.length cn2] 56)
    have HY5 := Lib.hid (HY2.out.kept hb5)
    have HB5 := Lib.hid (HB4.out.trans (hb5.mono HB4.out.size))
    have HP5 := Lib.hid ((hb5.block w.heap.size HS4.out).trans HP4.out)
    have hs5 : w4.heap.size < (w4.alloc (.cells #[.int .i64 x.st, .int .i64 x.go, .slice Af2 x.fin.length cf2, .slice An2 x.nx.length cn2] 56)).heap.size := by simp
    obtain ⟨X, hX⟩ : ∃ X, X = w4.heap.size := ⟨_, rfl⟩
    rw [← hX] at hX5 hs5 ⊢
    have HS4 : Hid (w.heap.size < X) := Lib.hid (by rw [hX]; exact HS4.out)
    generalize w4.alloc (.cells #[.int .i64 x.st, .int .i64 x.go, .slice Af2 x.fin.length cf2, .slice An2 x.nx.length cn2] 56) = w5 at *
    have HX5 := Lib.hid hX5
    have HS5 := Lib.hid hs5
    obtain ⟨⟨q0, q1, q2, q3⟩, _⟩ := blk4_cells hX5
    clear hX5 hs5 hb5 hX
    go_wp2_with fail
    refine (HIV.out _ _ HB5.out HY5.out).mono ?_
    rintro e w6 ⟨rfl, hB6⟩
    have HB6 := Lib.hid (HB5.out.trans (hB6.mono HB5.out.size))
    have HP6 := Lib.hid ((hB6.block w.heap.size (Nat.lt_trans HS4.out HS5.out)).trans HP5.out)
    have HX6 := Lib.hid ((hB6.block X HS5.out).trans HX5.out)
    have HY6 := Lib.hid (HY5.out.kept hB6)
    have HS6 : Hid (X < w6.heap.size) := Lib.hid (by have := hB6.size; have := HS5.out; omega)
    clear hB6 q0 q1 q2 q3
    go_upto_region 10 with fail
    obtain ⟨⟨p0, p1, p2, p3⟩, _⟩ := blk4_cells HP6.out
    obtain ⟨⟨q0, q1, q2, q3⟩, _⟩ := blk4_cells HX6.out
    have HC6 := Lib.hid (And.intro (And.intro p0 (And.intro p1 (And.intro p2 p3))) (And.intro q0 (And.intro q1 (And.intro q2 q3))))
    have HT6 := Lib.hid (fun m => HT.out (w6.drewN m) (below_drewN HB6.out m))
    go_region_held3 (fun w' => (w'.cell? ⟨w.heap.size, 0, none⟩ = some (.int .i64 x.st) ∧ w'.cell? ⟨w.heap.size, 1, none⟩ = some (.int .i64 x.go) ∧ w'.cell? ⟨w.heap.size, 2, none⟩ = some (.slice Af x.fin.length cf) ∧ w'.cell? ⟨w.heap.size, 3, none⟩ = some (.slice An x.nx.length cn)) ∧ w'.cell? ⟨X, 0, none⟩ = some (.int .i64 x.st) ∧ w'.cell? ⟨X, 1, none⟩ = some (.int .i64 x.go) ∧ w'.cell? ⟨X, 2, none⟩ = some (.slice Af2 x.fin.length cf2) ∧ w'.cell? ⟨X, 3, none⟩ = some (.slice An2 x.nx.length cn2))
      (first | exact HC6.out | exact HC7.out | exact HC8.out | go_keep)
      (first
        | (go_at_call 22
           refine (HT6.out _).mono ?_
           rintro e w7 ⟨y3, rfl, hy3, hB7⟩
           have hB7 := below_undrew hB7
           have HB7 := Lib.hid (HB6.out.trans (hB7.mono HB6.out.size))
           have hP7 := (hB7.block w.heap.size (Nat.lt_trans HS4.out HS6.out)).trans HP6.out
           have hX7 := (hB7.block X HS6.out).trans HX6.out
           have HC7 := Lib.hid (And.intro (blk4_cells hP7).1 (blk4_cells hX7).1)
           have HY7 := Lib.hid (HY6.out.kept hB7)
           have HZ7 := Lib.hid hy3
           have HP7 := Lib.hid hP7
           have HX7 := Lib.hid hX7
           have HS7 : Hid (X < w7.heap.size) := Lib.hid (by have := hB7.size; have := HS6.out; omega)
           clear hP7 hX7 hy3 hB7)
        | (go_at_call 24
           refine (HEQ.out _ _ _ HY7.out HZ7.out).mono ?_
           rintro e w8 ⟨rfl, hB8⟩
           have HB8 := Lib.hid (HB7.out.trans (hB8.mono HB7.out.size))
           have hP8 := (hB8.block w.heap.size (Nat.lt_trans HS4.out HS7.out)).trans HP7.out
           have hX8 := (hB8.block X HS7.out).trans HX7.out
           have HC8 := Lib.hid (And.intro (blk4_cells hP8).1 (blk4_cells hX8).1)
           clear hP8 hX8 hB8))
    clear p0 p1 p2 p3 q0 q1 q2 q3
    go_wp2_with fail
    go_ret
    exact ⟨rfl, HB8.out⟩
end Go.Proofs.YtcaeihdfljljbaaDoor.fnExactAutoText
