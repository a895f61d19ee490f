/-
  The walk of FnExactCodedLength: it returns true at every input.
-/
import Derived.Test.YtapemoehcohjgaaZ1
import Derived.Test.YtapemoehcohjgaaZ2
import Derived.Test.YtapemoehcohjgaaZ4
import Derived.Deep.RegionHeld3
namespace Go.Proofs.Ytapemoehcohjgaa.fnExactCodedLength
open Go.RowKit Wd
set_option linter.unusedVariables false
theorem purse_few2 {gs : List Rl} {left : Int} (hl : left ≤ 1048576) (h : ¬ purse left gs < 0) : FewR gs := by
  have : purse left gs ≤ purse 1048576 gs := by
    unfold purse at *
    by_cases h1 : (gs.length : Int) + (sumL gs : Int) ≤ left
    · rw [if_pos h1, if_pos (by omega)]; omega
    · rw [if_neg h1] at h; omega
  exact purse_few (by omega)
set_option maxRecDepth 100000 in
set_option maxHeartbeats 25600000 in
theorem walk (v : Value) (x : Co) (A : Option Addr) (n0 cap : Nat) (gs : List Rl) (w : World) (hx : IsCo w v x) (hm : MaxC x) (hl : n0 ≤ maxLen) (h : InRules w A n0 gs) :
    Calls Try.prog 3 #[v, .agg #[.slice A n0 cap]] w fun e w' => e = .returned (.bool true) ∧ Below w.heap.size w w' := by
  have HX := Lib.hid (fun W (hb : Below w.heap.size w W) => hx.kept hb)
  have HIR := Lib.hid (fun W (hb : Below w.heap.size w W) => h.kept hb)
  obtain ⟨f, n, rfl, hF, hN⟩ := hx
  obtain ⟨Af, cf, rfl⟩ := hF.shape
  obtain ⟨An, cn, rfl, hNx⟩ := hN
  have hb : Below w.heap.size w ((w.alloc (.cells #[.int .i64 x.st, .int .i64 x.go, .slice Af x.nx.length cf, .slice An x.ou.length cn] 25)).alloc (.cells #[.slice A n0 cap] 28)) := ((Below.refl _ w).alloc (Nat.le_refl _) _).alloc (by simp) _
  have hP : B4 ((w.alloc (.cells #[.int .i64 x.st, .int .i64 x.go, .slice Af x.nx.length cf, .slice An x.ou.length cn] 25)).alloc (.cells #[.slice A n0 cap] 28)) w.heap.size (.int .i64 x.st) (.int .i64 x.go) (.slice Af x.nx.length cf) (.slice An x.ou.length cn) 25 := (B4.new w _ _ _ _ _).alloc _
  have hG : Var ((w.alloc (.cells #[.int .i64 x.st, .int .i64 x.go, .slice Af x.nx.length cf, .slice An x.ou.length cn] 25)).alloc (.cells #[.slice A n0 cap] 28)) (w.heap.size + 1) (.slice A n0 cap) 28 := by
    have := Var.new (w.alloc (.cells #[.int .i64 x.st, .int .i64 x.go, .slice Af x.nx.length cf, .slice An x.ou.length cn] 25)) (.slice A n0 cap) 28
    rwa [show (w.alloc (.cells #[.int .i64 x.st, .int .i64 x.go, .slice Af x.nx.length cf, .slice An x.ou.length cn] 25)).heap.size = w.heap.size + 1 from by simp] at this
  have HZ := Lib.hid (szCoder_any _ x 1048576 _ hm (HX.out _ hb) (by omega) (by omega))
  have HSG := Lib.hid (fun y (h0 : 0 ≤ y) (h1 : y ≤ 1048576) W (hb : Below w.heap.size w W) => szGrammar_any A n0 cap gs y W hl (HIR.out W hb) h0 h1)
  have hn0e := h.1
  have HB0 := Lib.hid hb
  have HP0 := Lib.hid hP
  have HG0 := Lib.hid hG
  obtain ⟨⟨p0, p1, p2, p3⟩, _⟩ := blk4_cells hP
  clear hF hNx hb hP hG hm h
  go_enter Try.func3, Try.ntmps3
  go_wp2_with fail
  refine HZ.out.mono ?_
  rintro e w1 ⟨y, rfl, hB1, hpaid⟩
  have HB1 := Lib.hid (HB0.out.trans (hB1.mono HB0.out.size))
  have HP1 := Lib.hid (HP0.out.kept hB1)
  have HG1 := Lib.hid (HG0.out.kept hB1)
  clear hB1 HZ p0 p1 p2 p3
  rcases hpaid with rfl | ⟨hy0, hy1, hfew⟩
  · go_wp2_with fail
    go_ret
    exact ⟨rfl, HB1.out⟩
  have hny : ¬ y < 0 := by omega
  have HSG1 := Lib.hid (HSG.out y hy0 hy1 w1 HB1.out)
  have gv0 := HG1.out.cell.1
  clear HSG
  by_cases hneg : purse y gs < 0
  · go_wp2_with fail
    refine HSG1.out.mono ?_
    rintro e w2 ⟨rfl, hB2⟩
    have HB2 := Lib.hid (HB1.out.trans (hB2.mono HB1.out.size))
    clear hB2 gv0
    go_wp2_with fail
    go_ret
    exact ⟨rfl, HB2.out⟩
  have hfr : FewR gs := purse_few2 hy1 hneg
  have hn1 : n0 ≤ 1048576 := by have := hfr.len; omega
  have HT := Lib.hid (fun W (hb : Below w.heap.size w W) => toCoder_any _ x W hfew (HX.out W hb))
  have HTG := Lib.hid (fun W (hb : Below w.heap.size w W) => toGrammar_any A n0 cap gs W hn1 (HIR.out W hb))
  have HSV := Lib.hid (fun W av gv (hx : IsCo W av x) (hr : Rules W gv gs) => specCodedLength av gv x gs W hfew hfr hx hr)
  have HIV := Lib.hid (fun W av gv (hx : IsCo W av x) (hr : Rules W gv gs) => implCodedLength av gv x gs W hfew hfr hx hr)
  have HEX := Lib.hid (fun W u v (h1 : IsCo W u x) (h2 : IsCo W v x) => eqCoder_any u v x W hfew h1 h2)
  have HEG := Lib.hid (fun W u v (h1 : Rules W u gs) (h2 : Rules W v gs) => eqGrammar_same u v gs W hfr.len h1 h2)
  generalize cdA x gs = rc at *
  obtain ⟨r1, r2⟩ := rc
  simp only at HSV HIV
  generalize purse y gs = y2 at *
  clear hfew hfr hy0 hy1 hn0e hn1
  go_wp2_with fail
  refine HSG1.out.mono ?_
  rintro e w2 ⟨rfl, hB2⟩
  have HB2 := Lib.hid (HB1.out.trans (hB2.mono HB1.out.size))
  have HP2 := Lib.hid (HP1.out.kept hB2)
  have HG2 := Lib.hid (HG1.out.kept hB2)
  clear hB2 HSG1 gv0
  obtain ⟨⟨p0, p1, p2, p3⟩, _⟩ := blk4_cells HP2.out
  have gv0 := HG2.out.cell.1
  have HC2 := Lib.hid (And.intro (And.intro p0 (And.intro p1 (And.intro p2 p3))) gv0)
  go_upto_region 8 with fail
  go_region_held3 (fun w' => (w'.cell? ⟨w.heap.size, 0, none⟩ = some (.int .i64 x.st) ∧ w'.cell? ⟨w.heap.size, 1, none⟩ = some (.int .i64 x.go) ∧ w'.cell? ⟨w.heap.size, 2, none⟩ = some (.slice Af x.nx.length cf) ∧ w'.cell? ⟨w.heap.size, 3, none⟩ = some (.slice An x.ou.length cn)) ∧ w'.cell? ⟨w.heap.size + 1, 0, none⟩ = some (.slice A n0 cap))
    (first | exact HC2.out | exact HCa.out | exact HCb.out | exact HCc.out | go_keep)
    (first
      | (go_at_call 11
         refine (HT.out _ ?_).mono ?_
         (first | exact HB2.out | exact below_drewN HB2.out 1 | exact below_drewN HB2.out _)
         rintro e wa ⟨ya, rfl, hoa, hBa⟩
         try have hBa := below_undrew hBa
         have HBa := Lib.hid (HB2.out.trans (hBa.mono HB2.out.size))
         have HPa := Lib.hid (HP2.out.kept hBa)
         have HGa := Lib.hid (HG2.out.kept hBa)
         have HCa := Lib.hid (And.intro (blk4_cells HPa.out).1 HGa.out.cell.1)
         have HVa := Lib.hid hoa
         obtain ⟨fa, na, rfl, hFa, hNa⟩ := hoa
         obtain ⟨Afa, cfa, rfl⟩ := hFa.shape
         obtain ⟨Ana, cna, rfl, _⟩ := hNa
         clear hFa hBa)
      | (go_at_call 12
         refine (HTG.out _ ?_).mono ?_
         (first | exact HBa.out | exact below_drewN HBa.out 1 | exact below_drewN HBa.out _)
         rintro e wb ⟨vb, rfl, hob, hBb⟩
         try have hBb := below_undrew hBb
         have HBb := Lib.hid (HBa.out.trans (hBb.mono HBa.out.size))
         have HPb := Lib.hid (HPa.out.kept hBb)
         have HGb := Lib.hid (HGa.out.kept hBb)
         have HCb := Lib.hid (And.intro (blk4_cells HPb.out).1 HGb.out.cell.1)
         have HVb := Lib.hid (HVa.out.kept hBb)
         have HRb := Lib.hid (Rules.of_own hob)
         obtain ⟨Agb, cgb, rfl⟩ := own_slice hob
         clear hob hBb)
      | (go_at_call 10
         refine (HSV.out _ _ _ HVb.out HRb.out).mono ?_
         rintro e wc ⟨rfl, hBc⟩
         try have hBc := below_undrew hBc
         have HBc := Lib.hid (HBb.out.trans (hBc.mono HBb.out.size))
         have HPc := Lib.hid (HPb.out.kept hBc)
         have HGc := Lib.hid (HGb.out.kept hBc)
         have HCc := Lib.hid (And.intro (blk4_cells HPc.out).1 HGc.out.cell.1)
         clear hBc))
  clear p0 p1 p2 p3 gv0
  obtain ⟨⟨p0, p1, p2, p3⟩, _⟩ := blk4_cells HPc.out
  go_wp2_with fail
  refine (HT.out _ HBc.out).mono ?_
  rintro e w4 ⟨y4, rfl, ho4, hB4⟩
  have HX4 := Lib.hid ho4
  obtain ⟨f4, n4, rfl, hF4, hN4⟩ := ho4
  obtain ⟨Af4, cf4, rfl⟩ := hF4.shape
  obtain ⟨An4, cn4, rfl, _⟩ := hN4
  have HB4 := Lib.hid (HBc.out.trans (hB4.mono HBc.out.size))
  have HP4 := Lib.hid (HPc.out.kept hB4)
  have HG4 := Lib.hid (HGc.out.kept hB4)
  clear hF4 hB4 p0 p1 p2 p3
  have hb5 := (Below.refl _ w4).alloc (Nat.le_refl _) (.cells #[.int .i64 x.st, .int .i64 x.go, .slice Af4 x.nx.length cf4, .slice An4 x.ou.length cn4] 33)
  have HQ5 : Hid (B4 (w4.alloc (.cells #[.int .i64 x.st, .int .i64 x.go, .slice Af4 x.nx.length cf4, .slice An4 x.ou.length cn4] 33)) w4.heap.size _ _ _ _ _) := Lib.hid (B4.new w4 _ _ _ _ _)
  have HX5 := Lib.hid (HX4.out.kept hb5)
  have HB5 := Lib.hid (HB4.out.trans (hb5.mono HB4.out.size))
  have HP5 := Lib.hid (HP4.out.kept hb5)
  have HG5 := Lib.hid (HG4.out.kept hb5)
  clear hb5
  go_upto_region 10 with fail
  obtain ⟨Xb, hXb⟩ : ∃ Xb, Xb = w4.heap.size := ⟨_, rfl⟩
  rw [← hXb] at HQ5 ⊢
  generalize w4.alloc (.cells #[.int .i64 x.st, .int .i64 x.go, .slice Af4 x.nx.length cf4, .slice An4 x.ou.length cn4] 33) = w5 at *
  clear hXb
  have gv0 := HG5.out.cell.1
  go_wp2_with fail
  refine (HTG.out _ HB5.out).mono ?_
  rintro e w6 ⟨v6, rfl, ho6, hB6⟩
  have HR6 := Lib.hid (Rules.of_own ho6)
  obtain ⟨Ag6, cg6, rfl⟩ := own_slice ho6
  have HB6 := Lib.hid (HB5.out.trans (hB6.mono HB5.out.size))
  have HP6 := Lib.hid (HP5.out.kept hB6)
  have HG6 := Lib.hid (HG5.out.kept hB6)
  have HQ6 := Lib.hid (HQ5.out.kept hB6)
  have HX6 := Lib.hid (HX5.out.kept hB6)
  clear ho6 hB6 gv0
  have hb7 := (Below.refl _ w6).alloc (Nat.le_refl _) (.cells #[.slice Ag6 gs.length cg6] 37)
  have HY7 : Hid (Var (w6.alloc (.cells #[.slice Ag6 gs.length cg6] 37)) w6.heap.size (.slice Ag6 gs.length cg6) 37) := Lib.hid (Var.new w6 _ _)
  have HB7 := Lib.hid (HB6.out.trans (hb7.mono HB6.out.size))
  have HP7 := Lib.hid (HP6.out.kept hb7)
  have HG7 := Lib.hid (HG6.out.kept hb7)
  have HQ7 := Lib.hid (HQ6.out.kept hb7)
  have HX7 := Lib.hid (HX6.out.kept hb7)
  have HR7 := Lib.hid (HR6.out.kept hb7)
  clear hb7
  go_upto_region 11 with fail
  obtain ⟨Yb, hYb⟩ : ∃ Yb, Yb = w6.heap.size := ⟨_, rfl⟩
  rw [← hYb] at HY7 ⊢
  generalize w6.alloc (.cells #[.slice Ag6 gs.length cg6] 37) = w7 at *
  clear hYb
  obtain ⟨⟨q0, q1, q2, q3⟩, _⟩ := blk4_cells HQ7.out
  have yv := HY7.out.cell.1
  go_wp2_with fail
  refine (HIV.out _ _ _ HX7.out HR7.out).mono ?_
  rintro e w8 ⟨rfl, hB8⟩
  have HB8 := Lib.hid (HB7.out.trans (hB8.mono HB7.out.size))
  have HP8 := Lib.hid (HP7.out.kept hB8)
  have HG8 := Lib.hid (HG7.out.kept hB8)
  have HQ8 := Lib.hid (HQ7.out.kept hB8)
  have HX8 := Lib.hid (HX7.out.kept hB8)
  have HR8 := Lib.hid (HR7.out.kept hB8)
  have HY8 := Lib.hid (HY7.out.kept hB8)
  clear hB8 q0 q1 q2 q3 yv
  obtain ⟨⟨p0, p1, p2, p3⟩, _⟩ := blk4_cells HP8.out
  obtain ⟨⟨q0, q1, q2, q3⟩, _⟩ := blk4_cells HQ8.out
  have HC8 := Lib.hid (And.intro (And.intro p0 (And.intro p1 (And.intro p2 p3))) (And.intro q0 (And.intro q1 (And.intro q2 q3))))
  go_upto_region 14 with fail
  go_region_held3 (fun w' => (w'.cell? ⟨w.heap.size, 0, none⟩ = some (.int .i64 x.st) ∧ w'.cell? ⟨w.heap.size, 1, none⟩ = some (.int .i64 x.go) ∧ w'.cell? ⟨w.heap.size, 2, none⟩ = some (.slice Af x.nx.length cf) ∧ w'.cell? ⟨w.heap.size, 3, none⟩ = some (.slice An x.ou.length cn)) ∧ (w'.cell? ⟨Xb, 0, none⟩ = some (.int .i64 x.st) ∧ w'.cell? ⟨Xb, 1, none⟩ = some (.int .i64 x.go) ∧ w'.cell? ⟨Xb, 2, none⟩ = some (.slice Af4 x.nx.length cf4) ∧ w'.cell? ⟨Xb, 3, none⟩ = some (.slice An4 x.ou.length cn4)))
    (first | exact HC8.out | exact HC9.out | exact HC10.out | go_keep)
    (first
      | (go_at_call 11
         refine (HT.out _ ?_).mono ?_
         (first | exact HB8.out | exact below_drewN HB8.out 1 | exact below_drewN HB8.out _)
         rintro e w9 ⟨y9, rfl, ho9, hB9⟩
         try have hB9 := below_undrew hB9
         have HB89 := Lib.hid hB9
         have HC9 := Lib.hid (And.intro (blk4_cells (HP8.out.kept hB9)).1 (blk4_cells (HQ8.out.kept hB9)).1)
         have HX9 := Lib.hid (HX8.out.kept hB9)
         have HZ9 := Lib.hid ho9
         obtain ⟨f9, n9, rfl, hF9, hN9⟩ := ho9
         obtain ⟨Af9, cf9, rfl⟩ := hF9.shape
         obtain ⟨An9, cn9, rfl, _⟩ := hN9
         clear hF9 hB9)
      | (go_at_call 14
         refine (HEX.out _ _ _ HX9.out HZ9.out).mono ?_
         rintro e w10 ⟨rfl, hB10⟩
         try have hB10 := below_undrew hB10
         have HB810 := Lib.hid (HB89.out.trans (hB10.mono HB89.out.size))
         have HC10 := Lib.hid (And.intro (blk4_cells (HP8.out.kept HB810.out)).1 (blk4_cells (HQ8.out.kept HB810.out)).1)
         clear hB10))
  clear p0 p1 p2 p3 q0 q1 q2 q3
  have HB10 := Lib.hid (HB8.out.trans (HB810.out.mono HB8.out.size))
  have HG10 := Lib.hid (HG8.out.kept HB810.out)
  have HR10 := Lib.hid (HR8.out.kept HB810.out)
  have HY10 := Lib.hid (HY8.out.kept HB810.out)
  have gv0 := HG10.out.cell.1
  have yv := HY10.out.cell.1
  have HC10g := Lib.hid (And.intro gv0 yv)
  go_upto_region 16 with fail
  go_region_held3 (fun w' => w'.cell? ⟨w.heap.size + 1, 0, none⟩ = some (.slice A n0 cap) ∧ w'.cell? ⟨Yb, 0, none⟩ = some (.slice Ag6 gs.length cg6))
    (first | exact HC10g.out | exact HC11.out | exact HC12.out | go_keep)
    (first
      | (go_at_call 12
         refine (HTG.out _ ?_).mono ?_
         (first | exact HB10.out | exact below_drewN HB10.out 1 | exact below_drewN HB10.out _)
         rintro e w11 ⟨v11, rfl, ho11, hB11⟩
         try have hB11 := below_undrew hB11
         have HB1011 := Lib.hid hB11
         have HC11 := Lib.hid (And.intro (HG10.out.kept hB11).cell.1 (HY10.out.kept hB11).cell.1)
         have HR11 := Lib.hid (HR10.out.kept hB11)
         have HZ11 := Lib.hid (Rules.of_own ho11)
         obtain ⟨Ag11, cg11, rfl⟩ := own_slice ho11
         clear ho11 hB11)
      | (go_at_call 15
         refine (HEG.out _ _ _ HR11.out HZ11.out).mono ?_
         rintro e w12 ⟨rfl, hB12⟩
         try have hB12 := below_undrew hB12
         have HB1012 := Lib.hid (HB1011.out.trans (hB12.mono HB1011.out.size))
         have HC12 := Lib.hid (And.intro (HG10.out.kept HB1012.out).cell.1 (HY10.out.kept HB1012.out).cell.1)
         clear hB12))
  clear gv0 yv
  have HB12 := Lib.hid (HB10.out.trans (HB1012.out.mono HB10.out.size))
  go_wp2_with fail
  go_ret
  exact ⟨rfl, HB12.out⟩
end Go.Proofs.Ytapemoehcohjgaa.fnExactCodedLength
