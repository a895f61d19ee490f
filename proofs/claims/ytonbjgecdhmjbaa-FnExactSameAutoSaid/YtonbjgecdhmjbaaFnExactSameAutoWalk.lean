/-
  The walk of FnExactSameAuto: it returns true at every input.
-/
import Derived.Test.YtonbjgecdhmjbaaAuSame2
namespace Go.Proofs.Ytonbjgecdhmjbaa.fnExactSameAuto
open Go.RowKit Wd
set_option linter.unusedVariables false
theorem c4k {w w' : World} {B : Nat} {a b c d : Value} (h : w.cell? ⟨B, 0, none⟩ = some a ∧ w.cell? ⟨B, 1, none⟩ = some b ∧ w.cell? ⟨B, 2, none⟩ = some c ∧ w.cell? ⟨B, 3, none⟩ = some d) (hb : Below w.heap.size w w') :
    w'.cell? ⟨B, 0, none⟩ = some a ∧ w'.cell? ⟨B, 1, none⟩ = some b ∧ w'.cell? ⟨B, 2, none⟩ = some c ∧ w'.cell? ⟨B, 3, none⟩ = some d :=
  ⟨(hb.cell (lt_of_cell h.1)).trans h.1, (hb.cell (lt_of_cell h.2.1)).trans h.2.1, (hb.cell (lt_of_cell h.2.2.1)).trans h.2.2.1, (hb.cell (lt_of_cell h.2.2.2)).trans h.2.2.2⟩
set_option maxRecDepth 100000 in
set_option maxHeartbeats 12800000 in
theorem walk (v : Value) (x : Au) (u : Value) (z : Au) (w : World) (hx : IsAu w v x) (hm : MaxA x) (hz : IsAu w u z) (hmz : MaxA z) :
    Calls Try.prog 9 #[v, u] w fun e w' => e = .returned (.bool true) ∧ Below w.heap.size w w' := by
  have HX := Lib.hid (fun W (hb : Below w.heap.size w W) => hx.kept hb)
  have HZ := Lib.hid (fun W (hb : Below w.heap.size w W) => hz.kept hb)
  obtain ⟨f, n, rfl, hF, hN⟩ := hx
  obtain ⟨Af, cf, rfl⟩ := hF.shape
  obtain ⟨An, cn, rfl, hN⟩ := hN
  obtain ⟨f', n', rfl, hF', hN'⟩ := hz
  obtain ⟨Bf, df, rfl⟩ := hF'.shape
  obtain ⟨Bn, dn, rfl, hN'⟩ := hN'
  clear hF hN hF' hN'
  have hb1 := (Below.refl _ w).alloc (Nat.le_refl _) (.cells #[.int .i64 x.st, .int .i64 x.go, .slice Af x.fin.length cf, .slice An x.nx.length cn] 58)
  have hp := (blk4_cells (heap_alloc_new w (.cells #[.int .i64 x.st, .int .i64 x.go, .slice Af x.fin.length cf, .slice An x.nx.length cn] 58))).1
  have hb2 := (Below.refl _ (w.alloc (.cells #[.int .i64 x.st, .int .i64 x.go, .slice Af x.fin.length cf, .slice An x.nx.length cn] 58))).alloc (Nat.le_refl _) (.cells #[.int .i64 z.st, .int .i64 z.go, .slice Bf z.fin.length df, .slice Bn z.nx.length dn] 58)
  have hq := (blk4_cells (heap_alloc_new (w.alloc (.cells #[.int .i64 x.st, .int .i64 x.go, .slice Af x.fin.length cf, .slice An x.nx.length cn] 58)) (.cells #[.int .i64 z.st, .int .i64 z.go, .slice Bf z.fin.length df, .slice Bn z.nx.length dn] 58))).1
  rw [show (w.alloc (.cells #[.int .i64 x.st, .int .i64 x.go, .slice Af x.fin.length cf, .slice An x.nx.length cn] 58)).heap.size = w.heap.size + 1 from by simp] at hq
  have HC0 := Lib.hid (And.intro (c4k hp hb2) hq)
  have HB0 := Lib.hid (hb1.trans (hb2.mono (by simp)))
  have HZ1 := Lib.hid (szAuto_any _ x 1048576 _ hm (HX.out _ HB0.out) (by omega) (by omega))
  have HZ2 := Lib.hid (fun W (hb : Below w.heap.size w W) y (h0 : 0 ≤ y) (h1 : y ≤ 1048576) => szAuto_any _ z y W hmz (HZ.out W hb) h0 h1)
  clear hb1 hp hb2 hq hm hmz
  go_enter Try.func9, Try.ntmps9
  go_wp2_with fail
  refine HZ1.out.mono ?_
  rintro e w1 ⟨y, rfl, hB1, hpaid⟩
  have HB1 := Lib.hid (HB0.out.trans (hB1.mono HB0.out.size))
  have HC1 := Lib.hid (And.intro (c4k HC0.out.1 hB1) (c4k HC0.out.2 hB1))
  clear hB1
  rcases hpaid with rfl | ⟨hy0, hy1, hfew⟩
  · go_wp2_with fail
    go_ret
    exact ⟨rfl, HB1.out⟩
  have hny : ¬ y < 0 := by omega
  obtain ⟨⟨p0, p1, p2, p3⟩, q0, q1, q2, q3⟩ := HC1.out
  go_wp2_with fail
  refine (HZ2.out _ HB1.out y hy0 hy1).mono ?_
  rintro e w2 ⟨y', rfl, hB2, hpaid⟩
  have HB2 := Lib.hid (HB1.out.trans (hB2.mono HB1.out.size))
  have HC2 := Lib.hid (And.intro (c4k HC1.out.1 hB2) (c4k HC1.out.2 hB2))
  clear hB2 p0 p1 p2 p3 q0 q1 q2 q3 hy0 hy1 hny
  rcases hpaid with rfl | ⟨hy0, hy1, hfew'⟩
  · go_wp2_with fail
    go_ret
    exact ⟨rfl, HB2.out⟩
  have hny : ¬ y' < 0 := by omega
  have HT := Lib.hid (fun W (hb : Below w.heap.size w W) => toAuto_any _ x W hfew (HX.out W hb))
  have HT' := Lib.hid (fun W (hb : Below w.heap.size w W) => toAuto_any _ z W hfew' (HZ.out W hb))
  have HSV := Lib.hid (fun W a b (h : IsAu W a x) (h' : IsAu W b z) => specSameAuto a b x z W hfew hfew' h h')
  have HIV := Lib.hid (fun W a b (h : IsAu W a x) (h' : IsAu W b z) => implSameAuto a b x z W hfew hfew' h h')
  have HEQ := Lib.hid (fun W a b (h1 : IsAu W a x) (h2 : IsAu W b x) => eqAuto_any a b x W hfew h1 h2)
  have HEQ' := Lib.hid (fun W a b (h1 : IsAu W a z) (h2 : IsAu W b z) => eqAuto_any a b z W hfew' h1 h2)
  clear hfew hfew' hy0 hy1
  generalize sameAu x z = R at *
  go_upto_region 8 with fail
  obtain ⟨⟨p0, p1, p2, p3⟩, q0, q1, q2, q3⟩ := HC2.out
  have HT2 := Lib.hid (fun m => HT.out (w2.drewN m) (below_drewN HB2.out m))
  go_region_held3 (fun w' => (w'.cell? ⟨w.heap.size, 0, none⟩ = some (.int .i64 x.st) ∧ w'.cell? ⟨w.heap.size, 1, none⟩ = some (.int .i64 x.go) ∧ w'.cell? ⟨w.heap.size, 2, none⟩ = some (.slice Af x.fin.length cf) ∧ w'.cell? ⟨w.heap.size, 3, none⟩ = some (.slice An x.nx.length cn)) ∧ (w'.cell? ⟨w.heap.size + 1, 0, none⟩ = some (.int .i64 z.st) ∧ w'.cell? ⟨w.heap.size + 1, 1, none⟩ = some (.int .i64 z.go) ∧ w'.cell? ⟨w.heap.size + 1, 2, none⟩ = some (.slice Bf z.fin.length df) ∧ w'.cell? ⟨w.heap.size + 1, 3, none⟩ = some (.slice Bn z.nx.length dn)))
    (first | exact HC2.out | exact HC3.out | exact HC4.out | exact HC5.out | go_keep)
    (first
      | (go_at_call_of 41 (Value.agg #[.int .i64 x.st, .int .i64 x.go, .slice Af x.fin.length cf, .slice An x.nx.length cn])
         refine (HT2.out _).mono ?_
         rintro e w3 ⟨y1, rfl, hy1, hB3⟩
         have hB3 := below_undrew hB3
         have HB3 := Lib.hid (HB2.out.trans (hB3.mono HB2.out.size))
         have HC3 := Lib.hid (And.intro (c4k HC2.out.1 hB3) (c4k HC2.out.2 hB3))
         have HY3 := Lib.hid hy1
         clear hy1 hB3)
      | (go_at_call_of 41 (Value.agg #[.int .i64 z.st, .int .i64 z.go, .slice Bf z.fin.length df, .slice Bn z.nx.length dn])
         refine (HT'.out _ HB3.out).mono ?_
         rintro e w4 ⟨y2, rfl, hy2, hB4⟩
         have HB4 := Lib.hid (HB3.out.trans (hB4.mono HB3.out.size))
         have HC4 := Lib.hid (And.intro (c4k HC3.out.1 hB4) (c4k HC3.out.2 hB4))
         have HY4 := Lib.hid (And.intro (HY3.out.kept hB4) hy2)
         clear hy2 hB4)
      | (go_at_call 44
         refine (HSV.out _ _ _ HY4.out.1 HY4.out.2).mono ?_
         rintro e w5 ⟨rfl, hB5⟩
         have HB5 := Lib.hid (HB4.out.trans (hB5.mono HB4.out.size))
         have HC5 := Lib.hid (And.intro (c4k HC4.out.1 hB5) (c4k HC4.out.2 hB5))
         clear hB5))
  clear p0 p1 p2 p3 q0 q1 q2 q3
  obtain ⟨⟨p0, p1, p2, p3⟩, q0, q1, q2, q3⟩ := HC5.out
  go_wp2_with fail
  refine (HT.out _ HB5.out).mono ?_
  rintro e w6 ⟨y3, rfl, hy3, hB6⟩
  have HB6 := Lib.hid (HB5.out.trans (hB6.mono HB5.out.size))
  have HC6 := Lib.hid (And.intro (c4k HC5.out.1 hB6) (c4k HC5.out.2 hB6))
  have HY6 := Lib.hid hy3
  obtain ⟨f2, n2, rfl, hF2, hN2⟩ := hy3
  obtain ⟨Xf, xf, rfl⟩ := hF2.shape
  obtain ⟨Xn, xn, rfl, hN2⟩ := hN2
  clear hF2 hN2 hB6 p0 p1 p2 p3 q0 q1 q2 q3
  go_upto_region 10 with fail
  have hb7 := (Below.refl _ w6).alloc (Nat.le_refl _) (.cells #[.int .i64 x.st, .int .i64 x.go, .slice Xf x.fin.length xf, .slice Xn x.nx.length xn] 61)
  have HX7 := Lib.hid (blk4_cells (heap_alloc_new w6 (.cells #[.int .i64 x.st, .int .i64 x.go, .slice Xf x.fin.length xf, .slice Xn x.nx.length xn] 61))).1
  have HB7 := Lib.hid (HB6.out.trans (hb7.mono HB6.out.size))
  have HC7 := Lib.hid (And.intro (c4k HC6.out.1 hb7) (c4k HC6.out.2 hb7))
  have HY7 := Lib.hid (HY6.out.kept hb7)
  obtain ⟨X, hX⟩ : ∃ X, X = w6.heap.size := ⟨_, rfl⟩
  rw [← hX] at HX7 ⊢
  generalize w6.alloc (.cells #[.int .i64 x.st, .int .i64 x.go, .slice Xf x.fin.length xf, .slice Xn x.nx.length xn] 61) = w7 at *
  obtain ⟨⟨p0, p1, p2, p3⟩, q0, q1, q2, q3⟩ := HC7.out
  clear hb7 hX
  go_wp2_with fail
  refine (HT'.out _ HB7.out).mono ?_
  rintro e w8 ⟨y4, rfl, hy4, hB8⟩
  have HB8 := Lib.hid (HB7.out.trans (hB8.mono HB7.out.size))
  have HC8 := Lib.hid (And.intro (c4k HC7.out.1 hB8) (c4k HC7.out.2 hB8))
  have HX8 := Lib.hid (c4k HX7.out hB8)
  have HY8 := Lib.hid (And.intro (HY7.out.kept hB8) hy4)
  obtain ⟨f2, n2, rfl, hF2, hN2⟩ := hy4
  obtain ⟨Yf, yf, rfl⟩ := hF2.shape
  obtain ⟨Yn, yn, rfl, hN2⟩ := hN2
  clear hF2 hN2 hB8 p0 p1 p2 p3 q0 q1 q2 q3
  go_upto_region 11 with fail
  have hb9 := (Below.refl _ w8).alloc (Nat.le_refl _) (.cells #[.int .i64 z.st, .int .i64 z.go, .slice Yf z.fin.length yf, .slice Yn z.nx.length yn] 61)
  have HY9 := Lib.hid (blk4_cells (heap_alloc_new w8 (.cells #[.int .i64 z.st, .int .i64 z.go, .slice Yf z.fin.length yf, .slice Yn z.nx.length yn] 61))).1
  have HB9 := Lib.hid (HB8.out.trans (hb9.mono HB8.out.size))
  have HC9 := Lib.hid (And.intro (c4k HC8.out.1 hb9) (c4k HC8.out.2 hb9))
  have HX9 := Lib.hid (c4k HX8.out hb9)
  have HI9 := Lib.hid (And.intro (HY8.out.1.kept hb9) (HY8.out.2.kept hb9))
  obtain ⟨Y, hY⟩ : ∃ Y, Y = w8.heap.size := ⟨_, rfl⟩
  rw [← hY] at HY9 ⊢
  generalize w8.alloc (.cells #[.int .i64 z.st, .int .i64 z.go, .slice Yf z.fin.length yf, .slice Yn z.nx.length yn] 61) = w9 at *
  obtain ⟨p0, p1, p2, p3⟩ := HX9.out
  obtain ⟨q0, q1, q2, q3⟩ := HY9.out
  clear hb9 hY
  go_wp2_with fail
  refine (HIV.out _ _ _ HI9.out.1 HI9.out.2).mono ?_
  rintro e w10 ⟨rfl, hB10⟩
  have HB10 := Lib.hid (HB9.out.trans (hB10.mono HB9.out.size))
  have HC10 := Lib.hid (And.intro (c4k HC9.out.1 hB10) (c4k HC9.out.2 hB10))
  have HX10 := Lib.hid (And.intro (c4k HX9.out hB10) (c4k HY9.out hB10))
  have HI10 := Lib.hid (And.intro (HI9.out.1.kept hB10) (HI9.out.2.kept hB10))
  clear hB10 p0 p1 p2 p3 q0 q1 q2 q3
  cases R
  all_goals
    go_upto_region 14 with fail
    obtain ⟨p0, p1, p2, p3⟩ := HC10.out.1
    obtain ⟨q0, q1, q2, q3⟩ := HX10.out.1
    have HP10 := Lib.hid (And.intro HC10.out.1 HX10.out.1)
    have HT10 := Lib.hid (fun m => HT.out (w10.drewN m) (below_drewN HB10.out m))
    go_region_held3 (fun w' => (w'.cell? ⟨w.heap.size, 0, none⟩ = some (.int .i64 x.st) ∧ w'.cell? ⟨w.heap.size, 1, none⟩ = some (.int .i64 x.go) ∧ w'.cell? ⟨w.heap.size, 2, none⟩ = some (.slice Af x.fin.length cf) ∧ w'.cell? ⟨w.heap.size, 3, none⟩ = some (.slice An x.nx.length cn)) ∧ (w'.cell? ⟨X, 0, none⟩ = some (.int .i64 x.st) ∧ w'.cell? ⟨X, 1, none⟩ = some (.int .i64 x.go) ∧ w'.cell? ⟨X, 2, none⟩ = some (.slice Xf x.fin.length xf) ∧ w'.cell? ⟨X, 3, none⟩ = some (.slice Xn x.nx.length xn)))
      (first | exact HP10.out | exact HP11.out | exact HP12.out | go_keep)
      (first
        | (go_at_call 41
           refine (HT10.out _).mono ?_
           rintro e w11 ⟨y5, rfl, hy5, hB11⟩
           have hB11 := below_undrew hB11
           have HB11 := Lib.hid (HB10.out.trans (hB11.mono HB10.out.size))
           have HP11 := Lib.hid (And.intro (c4k HC10.out.1 hB11) (c4k HX10.out.1 hB11))
           have HQ11 := Lib.hid (And.intro (c4k HC10.out.2 hB11) (c4k HX10.out.2 hB11))
           have HI11 := Lib.hid (And.intro (HI10.out.1.kept hB11) (HI10.out.2.kept hB11))
           have HY11 := Lib.hid hy5
           clear hy5 hB11)
        | (go_at_call 43
           refine (HEQ.out _ _ _ HI11.out.1 HY11.out).mono ?_
           rintro e w12 ⟨rfl, hB12⟩
           have HB12 := Lib.hid (HB11.out.trans (hB12.mono HB11.out.size))
           have HP12 := Lib.hid (And.intro (c4k HP11.out.1 hB12) (c4k HP11.out.2 hB12))
           have HQ12 := Lib.hid (And.intro (c4k HQ11.out.1 hB12) (c4k HQ11.out.2 hB12))
           have HI12 := Lib.hid (HI11.out.2.kept hB12)
           clear hB12))
    clear p0 p1 p2 p3 q0 q1 q2 q3
    go_upto_region 16 with fail
    obtain ⟨p0, p1, p2, p3⟩ := HQ12.out.1
    obtain ⟨q0, q1, q2, q3⟩ := HQ12.out.2
    have HT12 := Lib.hid (fun m => HT'.out (w12.drewN m) (below_drewN HB12.out m))
    go_region_held3 (fun w' => (w'.cell? ⟨w.heap.size + 1, 0, none⟩ = some (.int .i64 z.st) ∧ w'.cell? ⟨w.heap.size + 1, 1, none⟩ = some (.int .i64 z.go) ∧ w'.cell? ⟨w.heap.size + 1, 2, none⟩ = some (.slice Bf z.fin.length df) ∧ w'.cell? ⟨w.heap.size + 1, 3, none⟩ = some (.slice Bn z.nx.length dn)) ∧ (w'.cell? ⟨Y, 0, none⟩ = some (.int .i64 z.st) ∧ w'.cell? ⟨Y, 1, none⟩ = some (.int .i64 z.go) ∧ w'.cell? ⟨Y, 2, none⟩ = some (.slice Yf z.fin.length yf) ∧ w'.cell? ⟨Y, 3, none⟩ = some (.slice Yn z.nx.length yn)))
      (first | exact HQ12.out | exact HQ13.out | exact HQ14.out | go_keep)
      (first
        | (go_at_call 41
           refine (HT12.out _).mono ?_
           rintro e w13 ⟨y6, rfl, hy6, hB13⟩
           have hB13 := below_undrew hB13
           have HB13 := Lib.hid (HB12.out.trans (hB13.mono HB12.out.size))
           have HQ13 := Lib.hid (And.intro (c4k HQ12.out.1 hB13) (c4k HQ12.out.2 hB13))
           have HI13 := Lib.hid (HI12.out.kept hB13)
           have HY13 := Lib.hid hy6
           clear hy6 hB13)
        | (go_at_call 43
           refine (HEQ'.out _ _ _ HI13.out HY13.out).mono ?_
           rintro e w14 ⟨rfl, hB14⟩
           have HB14 := Lib.hid (HB13.out.trans (hB14.mono HB13.out.size))
           have HQ14 := Lib.hid (And.intro (c4k HQ13.out.1 hB14) (c4k HQ13.out.2 hB14))
           clear hB14))
    clear p0 p1 p2 p3 q0 q1 q2 q3
    go_wp2_with fail
    go_ret
    exact ⟨rfl, HB14.out⟩
end Go.Proofs.Ytonbjgecdhmjbaa.fnExactSameAuto
