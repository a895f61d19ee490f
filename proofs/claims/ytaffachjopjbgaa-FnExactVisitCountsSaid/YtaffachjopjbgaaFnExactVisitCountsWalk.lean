/-
  The walk of FnExactVisitCounts: it returns true at every input.
-/
import Derived.Test.YtaffachjopjbgaaZ1
import Derived.Test.YtaffachjopjbgaaZ2
import Derived.Test.YtaffachjopjbgaaZ11
import Derived.Deep.RegionHeld3
namespace Go.Proofs.Ytaffachjopjbgaa.fnExactVisitCounts
open Go.RowKit Wd
set_option linter.unusedVariables false
theorem purse_few2 {gs : List Rl} {left : Int} (hl : left ≤ 1048576) (h : ¬ purse left gs < 0) : FewR gs := by
  have : purse left gs ≤ purse 1048576 gs := by
    unfold purse at *
    by_cases h1 : (gs.length : Int) + (sumL gs : Int) ≤ left
    · rw [if_pos h1, if_pos (by omega)]; omega
    · rw [if_neg h1] at h; omega
  exact purse_few (by omega)
theorem ownI_only {w w' : World} {lo : Nat} {v : Value} {U : List Value} {zs : List Int} (h : OwnsI w lo v zs) (ho : OnlyIn U w w') (hU : ∀ u ∈ U, ∀ q, u.ownBlock = some q → q < lo) : OwnsI w' lo v zs := by
  refine own_only h ho (fun u hu => ?_)
  cases e : u.ownBlock with
  | none => exact .inl rfl
  | some q => exact .inr fun e' => by have h1 := hU u hu q e; have h2 := (h.lt q e'.symm).1; omega
set_option maxRecDepth 100000 in
set_option maxHeartbeats 25600000 in
theorem walk (v : Value) (x : Au) (A : Option Addr) (n0 cap : Nat) (gs : List Rl) (w : World) (hx : IsAu w v x) (hm : MaxA x) (hl : n0 ≤ maxLen) (h : InRules w A n0 gs) :
    Calls Try.prog 8 #[v, .agg #[.slice A n0 cap]] w fun e w' => e = .returned (.bool true) ∧ Below w.heap.size w w' := by
  have HX := Lib.hid (fun W (hb : Below w.heap.size w W) => hx.kept hb)
  have HIR := Lib.hid (fun W (hb : Below w.heap.size w W) => h.kept hb)
  obtain ⟨f, n, rfl, hF, hN⟩ := hx
  obtain ⟨Af, cf, rfl⟩ := hF.shape
  obtain ⟨An, cn, rfl, hNx⟩ := hN
  have hb : Below w.heap.size w ((w.alloc (.cells #[.int .i64 x.st, .int .i64 x.go, .slice Af x.fin.length cf, .slice An x.nx.length cn] 25)).alloc (.cells #[.slice A n0 cap] 28)) := ((Below.refl _ w).alloc (Nat.le_refl _) _).alloc (by simp) _
  have hP : B4 ((w.alloc (.cells #[.int .i64 x.st, .int .i64 x.go, .slice Af x.fin.length cf, .slice An x.nx.length cn] 25)).alloc (.cells #[.slice A n0 cap] 28)) w.heap.size (.int .i64 x.st) (.int .i64 x.go) (.slice Af x.fin.length cf) (.slice An x.nx.length cn) 25 := (B4.new w _ _ _ _ _).alloc _
  have hG : Var ((w.alloc (.cells #[.int .i64 x.st, .int .i64 x.go, .slice Af x.fin.length cf, .slice An x.nx.length cn] 25)).alloc (.cells #[.slice A n0 cap] 28)) (w.heap.size + 1) (.slice A n0 cap) 28 := by
    have := Var.new (w.alloc (.cells #[.int .i64 x.st, .int .i64 x.go, .slice Af x.fin.length cf, .slice An x.nx.length cn] 25)) (.slice A n0 cap) 28
    rwa [show (w.alloc (.cells #[.int .i64 x.st, .int .i64 x.go, .slice Af x.fin.length cf, .slice An x.nx.length cn] 25)).heap.size = w.heap.size + 1 from by simp] at this
  have HZ := Lib.hid (szAutoS_any _ x 1048576 _ hm (HX.out _ hb) (by omega) (by omega))
  have HSG := Lib.hid (fun y (h0 : 0 ≤ y) (h1 : y ≤ 1048576) W (hb : Below w.heap.size w W) => szGrammar_any A n0 cap gs y W hl (HIR.out W hb) h0 h1)
  have hn0e := h.1
  have HB0 := Lib.hid hb
  have HP0 := Lib.hid hP
  have HG0 := Lib.hid hG
  obtain ⟨⟨p0, p1, p2, p3⟩, _⟩ := blk4_cells hP
  clear hF hNx hb hP hG hm h
  go_enter Try.func8, Try.ntmps8
  go_wp2_with fail
  refine HZ.out.mono ?_
  rintro e w1 ⟨y, rfl, hB1, hpaid⟩
  have HB1 := Lib.hid (HB0.out.trans (hB1.mono HB0.out.size))
  have HP1 := Lib.hid (HP0.out.kept hB1)
  have HG1 := Lib.hid (HG0.out.kept hB1)
  clear hB1 HZ p0 p1 p2 p3
  rcases hpaid with rfl | ⟨hy0, hy1, hsum, hfew⟩
  · go_wp2_with fail
    go_ret
    exact ⟨rfl, HB1.out⟩
  have hny : ¬ y < 0 := by omega
  have HSG1 := Lib.hid (HSG.out y hy0 hy1 w1 HB1.out)
  have gv0 := HG1.out.cell.1
  clear HSG
  by_cases hneg : purse y gs < 0
  · go_wp2_with fail
    refine HSG1.out.mono ?_
    rintro e w2 ⟨rfl, hB2⟩
    have HB2 := Lib.hid (HB1.out.trans (hB2.mono HB1.out.size))
    clear hB2 gv0
    go_wp2_with fail
    go_ret
    exact ⟨rfl, HB2.out⟩
  have hfr : FewR gs := purse_few2 hy1 hneg
  have hn1 : n0 ≤ 1048576 := by have := hfr.len; omega
  have HT := Lib.hid (fun W (hb : Below w.heap.size w W) => toAutoO_any _ x W hfew (HX.out W hb))
  have HTG := Lib.hid (fun W (hb : Below w.heap.size w W) => toGrammar_any A n0 cap gs W hn1 (HIR.out W hb))
  have HSV := Lib.hid (fun W av gv (hx : IsAu W av x) (hr : Rules W gv gs) => specVisitCounts av x gv gs W hfew hx hfr hr)
  have HIV := Lib.hid (fun W av gv (hx : IsAu W av x) (hr : Rules W gv gs) => implVisitCounts av x gv gs W hfew hx hfr hr)
  have HEX := Lib.hid (fun W u v (h1 : IsAu W u x) (h2 : IsAu W v x) => eqAuto_any u v x W hfew h1 h2)
  have HEG := Lib.hid (fun W u v (h1 : Rules W u gs) (h2 : Rules W v gs) => eqGrammar_same u v gs W hfr.len h1 h2)
  have hax : 0 ≤ auN x := by unfold auN; omega
  have hgl : (gs.length : Int) ≤ y := by
    unfold purse at hneg
    by_cases h1 : (gs.length : Int) + (sumL gs : Int) ≤ y
    · omega
    · rw [if_neg h1] at hneg; omega
  obtain ⟨kx, hkx⟩ : ∃ kx : Nat, 1 + auN x = kx := ⟨(1 + auN x).toNat, by omega⟩
  have hkc : kx + 3 * gs.length ≤ 3900000 := by omega
  have HMX := Lib.hid (fun f n U lo W (h : OwnA W lo f n U x.fin x.nx) => markAu f n U x lo W hfew h)
  have HMG : Hid (∀ v B W, OwnsR W B v gs → Calls Try.prog 37 #[.agg #[v], .int .i64 (1 + auN x)] W fun e w' => e = .returned (.int .i64 (1 + auN x + 3 * (gs.length : Int))) ∧ W.grownBy w' v.ownBlock) := Lib.hid (fun v B W h => by
    rw [hkx]
    exact (markGrammar_any v gs B kx hkc W h hfr.len).mono (fun e w' h => ⟨h.1, h.2.2⟩))
  generalize auN x = ax at *
  have hrn := vcA_few x gs
  generalize vcA x gs = rc at *
  obtain ⟨r1, r2⟩ := rc
  simp only at HSV HIV hrn
  have HEQ := Lib.hid (fun W u v (h1 : IsL W u r1) (h2 : IsL W v r1) => eqL_any u v r1 W (by omega) h1 h2)
  have HMR := Lib.hid (fun v lo W (h : OwnsI W lo v r1) => markI v r1 lo 1 (by omega) (by omega) W h (by omega))
  have HHR := Lib.hid (fun v lo W h => heldI v r1.length lo 1 (by omega) (by omega) W h (by omega))
  generalize purse y gs = y2 at *
  clear hfew hfr hy0 hy1 hn0e hn1 hsum hgl hkx hkc
  go_wp2_with fail
  refine HSG1.out.mono ?_
  rintro e w2 ⟨rfl, hB2⟩
  have HB2 := Lib.hid (HB1.out.trans (hB2.mono HB1.out.size))
  have HP2 := Lib.hid (HP1.out.kept hB2)
  have HG2 := Lib.hid (HG1.out.kept hB2)
  clear hB2 HSG1 gv0
  obtain ⟨⟨p0, p1, p2, p3⟩, _⟩ := blk4_cells HP2.out
  have gv0 := HG2.out.cell.1
  have HC2 := Lib.hid (And.intro (And.intro p0 (And.intro p1 (And.intro p2 p3))) gv0)
  go_upto_region 8 with fail
  go_region_held3 (fun w' => (w'.cell? ⟨w.heap.size, 0, none⟩ = some (.int .i64 x.st) ∧ w'.cell? ⟨w.heap.size, 1, none⟩ = some (.int .i64 x.go) ∧ w'.cell? ⟨w.heap.size, 2, none⟩ = some (.slice Af x.fin.length cf) ∧ w'.cell? ⟨w.heap.size, 3, none⟩ = some (.slice An x.nx.length cn)) ∧ w'.cell? ⟨w.heap.size + 1, 0, none⟩ = some (.slice A n0 cap))
    (first | exact HC2.out | exact HCa.out | exact HCb.out | exact HCc.out | go_keep)
    (first
      | (go_at_call 20
         refine (HT.out _ ?_).mono ?_
         (first | exact HB2.out | exact below_drewN HB2.out 1 | exact below_drewN HB2.out _)
         rintro e wa ⟨fa, na, Ua, rfl, hoa, hBa⟩
         try have hBa := below_undrew hBa
         have HBa := Lib.hid (HB2.out.trans (hBa.mono HB2.out.size))
         have HPa := Lib.hid (HP2.out.kept hBa)
         have HGa := Lib.hid (HG2.out.kept hBa)
         have HCa := Lib.hid (And.intro (blk4_cells HPa.out).1 HGa.out.cell.1)
         have HVa := Lib.hid hoa.isAu
         obtain ⟨Afa, cfa, rfl⟩ := own_slice hoa.fin
         obtain ⟨Ana, cna, rfl⟩ := own_slice hoa.nx.outer
         clear hoa hBa)
      | (go_at_call 21
         refine (HTG.out _ ?_).mono ?_
         (first | exact HBa.out | exact below_drewN HBa.out 1 | exact below_drewN HBa.out _)
         rintro e wb ⟨vb, rfl, hob, hBb⟩
         try have hBb := below_undrew hBb
         have HBb := Lib.hid (HBa.out.trans (hBb.mono HBa.out.size))
         have HPb := Lib.hid (HPa.out.kept hBb)
         have HGb := Lib.hid (HGa.out.kept hBb)
         have HCb := Lib.hid (And.intro (blk4_cells HPb.out).1 HGb.out.cell.1)
         have HVb := Lib.hid (HVa.out.kept hBb)
         have HRb := Lib.hid (Rules.of_own hob)
         obtain ⟨Agb, cgb, rfl⟩ := own_slice hob
         clear hob hBb)
      | (go_at_call 33
         refine (HSV.out _ _ _ HVb.out HRb.out).mono ?_
         rintro e wc ⟨ys, rfl, hoc, hBc⟩
         try have hBc := below_undrew hBc
         have HBc := Lib.hid (HBb.out.trans (hBc.mono HBb.out.size))
         have HPc := Lib.hid (HPb.out.kept hBc)
         have HGc := Lib.hid (HGb.out.kept hBc)
         have HCc := Lib.hid (And.intro (blk4_cells HPc.out).1 HGc.out.cell.1)
         have HYc := Lib.hid (IsL.of_own hoc)
         clear hBc hoc))
  clear p0 p1 p2 p3 gv0
  have HDc := Lib.hid (Below.refl wc.heap.size wc)
  have HYK := Lib.hid (fun W (hb : Below wc.heap.size wc W) => HYc.out.kept hb)
  have HPK := Lib.hid (fun W (hb : Below wc.heap.size wc W) => HPc.out.kept hb)
  have HGK := Lib.hid (fun W (hb : Below wc.heap.size wc W) => HGc.out.kept hb)
  obtain ⟨⟨p0, p1, p2, p3⟩, _⟩ := blk4_cells HPc.out
  go_wp2_with fail
  refine (HT.out _ HBc.out).mono ?_
  rintro e w4 ⟨f4, n4, U4, rfl, ho4, hB4⟩
  have HX4 := Lib.hid ho4
  obtain ⟨Af4, cf4, rfl⟩ := own_slice ho4.fin
  obtain ⟨An4, cn4, rfl⟩ := own_slice ho4.nx.outer
  have HB4 := Lib.hid (HBc.out.trans (hB4.mono HBc.out.size))
  have HD4 := Lib.hid (HDc.out.trans (hB4.mono HDc.out.size))
  clear ho4 hB4 p0 p1 p2 p3
  have hb5 := (Below.refl _ w4).alloc (Nat.le_refl _) (.cells #[.int .i64 x.st, .int .i64 x.go, .slice Af4 x.fin.length cf4, .slice An4 U4.length cn4] 33)
  have HQ5 : Hid (B4 (w4.alloc (.cells #[.int .i64 x.st, .int .i64 x.go, .slice Af4 x.fin.length cf4, .slice An4 U4.length cn4] 33)) w4.heap.size _ _ _ _ _) := Lib.hid (B4.new w4 _ _ _ _ _)
  have HB5 := Lib.hid (HB4.out.trans (hb5.mono HB4.out.size))
  have HD5 := Lib.hid (HD4.out.trans (hb5.mono HD4.out.size))
  have HX5 := Lib.hid (HX4.out.kept hb5)
  clear hb5
  go_upto_region 10 with fail
  obtain ⟨Xb, hXb⟩ : ∃ Xb, Xb = w4.heap.size := ⟨_, rfl⟩
  rw [← hXb] at HQ5 ⊢
  generalize w4.alloc (.cells #[.int .i64 x.st, .int .i64 x.go, .slice Af4 x.fin.length cf4, .slice An4 U4.length cn4] 33) = w5 at *
  clear hXb
  have HXB := Lib.hid (fun u hu q hq => (HX5.out.blocks u hu q hq).2)
  have HXL := Lib.hid HQ5.out.lt
  have HG5 := Lib.hid (HGK.out _ HD5.out)
  have gv0 := HG5.out.cell.1
  go_wp2_with fail
  refine (HTG.out _ HB5.out).mono ?_
  rintro e w6 ⟨v6, rfl, ho6, hB6⟩
  have HO6 := Lib.hid ho6
  obtain ⟨Ag6, cg6, rfl⟩ := own_slice ho6
  have HXY := Lib.hid hB6.size
  have HOB := Lib.hid (fun q (hq : (Value.slice Ag6 gs.length cg6).ownBlock = some q) => HO6.out.lt q hq)
  have HB6 := Lib.hid (HB5.out.trans (hB6.mono HB5.out.size))
  have HD6 := Lib.hid (HD5.out.trans (hB6.mono HD5.out.size))
  have HQ6 := Lib.hid (HQ5.out.kept hB6)
  have HX6 := Lib.hid (HX5.out.kept hB6)
  clear ho6 hB6 gv0
  have hb7 := (Below.refl _ w6).alloc (Nat.le_refl _) (.cells #[.slice Ag6 gs.length cg6] 37)
  have HV7 : Hid (Var (w6.alloc (.cells #[.slice Ag6 gs.length cg6] 37)) w6.heap.size (.slice Ag6 gs.length cg6) 37) := Lib.hid (Var.new w6 _ _)
  have HB7 := Lib.hid (HB6.out.trans (hb7.mono HB6.out.size))
  have HD7 := Lib.hid (HD6.out.trans (hb7.mono HD6.out.size))
  have HQ7 := Lib.hid (HQ6.out.kept hb7)
  have HX7 := Lib.hid (HX6.out.kept hb7)
  have HO7 := Lib.hid (own_below HO6.out hb7 (Nat.le_refl _))
  have HYL : Hid (w6.heap.size < (w6.alloc (.cells #[.slice Ag6 gs.length cg6] 37)).heap.size) := Lib.hid (by simp)
  clear hb7
  go_upto_region 11 with fail
  obtain ⟨Yb, hYb⟩ : ∃ Yb, Yb = w6.heap.size := ⟨_, rfl⟩
  rw [← hYb] at HV7 HXY HOB HYL ⊢
  generalize w6.alloc (.cells #[.slice Ag6 gs.length cg6] 37) = w7 at *
  clear hYb
  obtain ⟨⟨q0, q1, q2, q3⟩, _⟩ := blk4_cells HQ7.out
  have yv := HV7.out.cell.1
  go_wp2_with fail
  refine (HIV.out _ _ _ HX7.out.isAu (Rules.of_own HO7.out)).mono ?_
  rintro e w8 ⟨yi, rfl, ho8, hB8⟩
  have HM8 := Lib.hid ho8
  have HDS := Lib.hid HD7.out.size
  have HB8 := Lib.hid (HB7.out.trans (hB8.mono HB7.out.size))
  have HD8 := Lib.hid (HD7.out.trans (hB8.mono HD7.out.size))
  have HQ8 := Lib.hid (HQ7.out.kept hB8)
  have HX8 := Lib.hid (HX7.out.kept hB8)
  have HV8 := Lib.hid (HV7.out.kept hB8)
  have HO8 := Lib.hid (own_below HO7.out hB8 (Nat.le_refl _))
  clear ho8 hB8 q0 q1 q2 q3 yv
  go_wp2_with fail
  refine (HEQ.out _ _ _ (IsL.of_own HM8.out) (HYK.out _ HD8.out)).mono ?_
  rintro e w9 ⟨rfl, hB9⟩
  have HB9 := Lib.hid (HB8.out.trans (hB9.mono HB8.out.size))
  have HD9 := Lib.hid (HD8.out.trans (hB9.mono HD8.out.size))
  have HQ9 := Lib.hid (HQ8.out.kept hB9)
  have HX9 := Lib.hid (HX8.out.kept hB9)
  have HV9 := Lib.hid (HV8.out.kept hB9)
  have HO9 := Lib.hid (own_below HO8.out hB9 (Nat.le_refl _))
  have HM9 := Lib.hid (HM8.out.below hB9 (Nat.le_refl _))
  clear hB9
  have HP9 := Lib.hid (HPK.out _ HD9.out)
  obtain ⟨⟨p0, p1, p2, p3⟩, _⟩ := blk4_cells HP9.out
  obtain ⟨⟨q0, q1, q2, q3⟩, _⟩ := blk4_cells HQ9.out
  have HC9 := Lib.hid (And.intro (And.intro p0 (And.intro p1 (And.intro p2 p3))) (And.intro q0 (And.intro q1 (And.intro q2 q3))))
  go_upto_region 14 with fail
  go_region_held3 (fun w' => (w'.cell? ⟨w.heap.size, 0, none⟩ = some (.int .i64 x.st) ∧ w'.cell? ⟨w.heap.size, 1, none⟩ = some (.int .i64 x.go) ∧ w'.cell? ⟨w.heap.size, 2, none⟩ = some (.slice Af x.fin.length cf) ∧ w'.cell? ⟨w.heap.size, 3, none⟩ = some (.slice An x.nx.length cn)) ∧ (w'.cell? ⟨Xb, 0, none⟩ = some (.int .i64 x.st) ∧ w'.cell? ⟨Xb, 1, none⟩ = some (.int .i64 x.go) ∧ w'.cell? ⟨Xb, 2, none⟩ = some (.slice Af4 x.fin.length cf4) ∧ w'.cell? ⟨Xb, 3, none⟩ = some (.slice An4 U4.length cn4)))
    (first | exact HC9.out | exact HC10.out | exact HC11.out | go_keep)
    (first
      | (go_at_call 20
         refine (HT.out _ ?_).mono ?_
         (first | exact HB9.out | exact below_drewN HB9.out 1 | exact below_drewN HB9.out _)
         rintro e w10 ⟨f10, n10, U10, rfl, ho10, hB10⟩
         try have hB10 := below_undrew hB10
         have HE10 := Lib.hid hB10
         have HC10 := Lib.hid (And.intro (blk4_cells (HP9.out.kept hB10)).1 (blk4_cells (HQ9.out.kept hB10)).1)
         have HX10 := Lib.hid (HX9.out.kept hB10)
         have HZ10 := Lib.hid ho10.isAu
         obtain ⟨Af10, cf10, rfl⟩ := own_slice ho10.fin
         obtain ⟨An10, cn10, rfl⟩ := own_slice ho10.nx.outer
         clear ho10 hB10)
      | (go_at_call 23
         refine (HEX.out _ _ _ HX10.out.isAu HZ10.out).mono ?_
         rintro e w11 ⟨rfl, hB11⟩
         try have hB11 := below_undrew hB11
         have HE11 := Lib.hid (HE10.out.trans (hB11.mono HE10.out.size))
         have HC11 := Lib.hid (And.intro (blk4_cells (HP9.out.kept HE11.out)).1 (blk4_cells (HQ9.out.kept HE11.out)).1)
         clear hB11))
  clear p0 p1 p2 p3 q0 q1 q2 q3
  have HB11 := Lib.hid (HB9.out.trans (HE11.out.mono HB9.out.size))
  have HD11 := Lib.hid (HD9.out.trans (HE11.out.mono HD9.out.size))
  have HQ11 := Lib.hid (HQ9.out.kept HE11.out)
  have HX11 := Lib.hid (HX9.out.kept HE11.out)
  have HV11 := Lib.hid (HV9.out.kept HE11.out)
  have HO11 := Lib.hid (own_below HO9.out HE11.out (Nat.le_refl _))
  have HM11 := Lib.hid (HM9.out.below HE11.out (Nat.le_refl _))
  have HG11 := Lib.hid (HGK.out _ HD11.out)
  have gv0 := HG11.out.cell.1
  have yv := HV11.out.cell.1
  have HCg := Lib.hid (And.intro gv0 yv)
  go_upto_region 16 with fail
  go_region_held3 (fun w' => w'.cell? ⟨w.heap.size + 1, 0, none⟩ = some (.slice A n0 cap) ∧ w'.cell? ⟨Yb, 0, none⟩ = some (.slice Ag6 gs.length cg6))
    (first | exact HCg.out | exact HC12.out | exact HC13.out | go_keep)
    (first
      | (go_at_call 21
         refine (HTG.out _ ?_).mono ?_
         (first | exact HB11.out | exact below_drewN HB11.out 1 | exact below_drewN HB11.out _)
         rintro e w12 ⟨v12, rfl, ho12, hB12⟩
         try have hB12 := below_undrew hB12
         have HE12 := Lib.hid hB12
         have HC12 := Lib.hid (And.intro (HG11.out.kept hB12).cell.1 (HV11.out.kept hB12).cell.1)
         have HR12 := Lib.hid (Rules.of_own (own_below HO11.out hB12 (Nat.le_refl _)))
         have HZ12 := Lib.hid (Rules.of_own ho12)
         obtain ⟨Ag12, cg12, rfl⟩ := own_slice ho12
         clear ho12 hB12)
      | (go_at_call 24
         refine (HEG.out _ _ _ HR12.out HZ12.out).mono ?_
         rintro e w13 ⟨rfl, hB13⟩
         try have hB13 := below_undrew hB13
         have HE13 := Lib.hid (HE12.out.trans (hB13.mono HE12.out.size))
         have HC13 := Lib.hid (And.intro (HG11.out.kept HE13.out).cell.1 (HV11.out.kept HE13.out).cell.1)
         clear hB13))
  clear gv0 yv
  have HB13 := Lib.hid (HB11.out.trans (HE13.out.mono HB11.out.size))
  have HD13 := Lib.hid (HD11.out.trans (HE13.out.mono HD11.out.size))
  have HQ13 := Lib.hid (HQ11.out.kept HE13.out)
  have HX13 := Lib.hid (HX11.out.kept HE13.out)
  have HV13 := Lib.hid (HV11.out.kept HE13.out)
  have HO13 := Lib.hid (own_below HO11.out HE13.out (Nat.le_refl _))
  have HM13 := Lib.hid (HM11.out.below HE13.out (Nat.le_refl _))
  obtain ⟨⟨q0, q1, q2, q3⟩, _⟩ := blk4_cells HQ13.out
  go_wp2_with fail
  refine (HMX.out _ _ _ _ _ HX13.out).mono ?_
  rintro e w14 ⟨rfl, _, hod⟩
  have HB14 := Lib.hid (HB13.out.trans (hod.below (lo := w.heap.size) HB13.out.size (fun u hu q hq => by have h1 := (HX13.out.blocks u hu q hq).1; have h2 := HBc.out.size; omega)))
  have HD14 := Lib.hid (HD13.out.trans (hod.below (lo := wc.heap.size) HD13.out.size (fun u hu q hq => (HX13.out.blocks u hu q hq).1)))
  have HV14 : Hid (Var w14 Yb (.slice Ag6 gs.length cg6) 37) := Lib.hid ((hod.block Yb (lt_of_cell HV13.out.cell.1) (fun u hu e => by have h1 := HXB.out u hu Yb e; have h2 := HXY.out; omega)).trans HV13.out)
  have HO14 := Lib.hid (own_only HO13.out hod (fun u hu => by
    cases e : u.ownBlock with
    | none => exact .inl rfl
    | some q => exact .inr fun e' => by have h1 := HXB.out u hu q e; have h2 := (HOB.out q e'.symm).1; omega))
  have HM14 := Lib.hid (ownI_only HM13.out hod (fun u hu q hq => by have h1 := HXB.out u hu q hq; have h2 := HXY.out; have h3 := HYL.out; omega))
  clear hod q0 q1 q2 q3
  have yv := HV14.out.cell.1
  go_wp2_with fail
  refine (HMG.out _ _ _ HO14.out).mono ?_
  rintro e w15 ⟨rfl, hg15⟩
  have hoy : OnlyIn [Value.slice Ag6 gs.length cg6] w14 w15 := OnlyIn.of_grown hg15 (by simp)
  have HB15 := Lib.hid (HB14.out.trans (hoy.below (lo := w.heap.size) HB14.out.size (fun u hu q hq => by simp only [List.mem_singleton] at hu; subst hu; have h1 := (HOB.out q hq).1; have h2 := HB5.out.size; omega)))
  have HD15 := Lib.hid (HD14.out.trans (hoy.below (lo := wc.heap.size) HD14.out.size (fun u hu q hq => by simp only [List.mem_singleton] at hu; subst hu; have h1 := (HOB.out q hq).1; have h2 := HD5.out.size; omega)))
  have HM15 := Lib.hid (ownI_only HM14.out hoy (fun u hu q hq => by simp only [List.mem_singleton] at hu; subst hu; have h1 := (HOB.out q hq).2; have h2 := HYL.out; omega))
  have hnk : ¬ (1 + ax + 3 * (gs.length : Int) < 0) := by omega
  have hnk2 : decide (1 + ax + 3 * (gs.length : Int) < 0) = false := decide_eq_false hnk
  clear hoy hg15 yv
  go_wp2_with fail
  refine (HEQ.out _ _ _ (IsL.of_own HM15.out) (HYK.out _ HD15.out)).mono ?_
  rintro e w16 ⟨rfl, hB16⟩
  have HB16 := Lib.hid (HB15.out.trans (hB16.mono HB15.out.size))
  have HD16 := Lib.hid (HD15.out.trans (hB16.mono HD15.out.size))
  have HM16 := Lib.hid (HM15.out.below hB16 (Nat.le_refl _))
  clear hB16 hnk hnk2
  have hnp : ¬ (1 + (r1.length : Int) < 0) := by omega
  have hnp2 : decide (1 + (r1.length : Int) < 0) = false := decide_eq_false hnp
  generalize hpr : (r1.length : Int) = pr at *
  clear hpr
  go_wp2_with fail
  refine (HMR.out _ _ _ HM16.out).mono ?_
  rintro e w17 ⟨rfl, hof, hgo⟩
  have hoo : OnlyIn [yi] w16 w17 := OnlyIn.of_grown hgo (by simp)
  have HB17 := Lib.hid (HB16.out.trans (hoo.below (lo := w.heap.size) HB16.out.size (fun u hu q hq => by simp only [List.mem_singleton] at hu; subst hu; have h1 := (HM16.out.lt q hq).1; have h2 := HB7.out.size; omega)))
  have HD17 := Lib.hid (HD16.out.trans (hoo.below (lo := wc.heap.size) HD16.out.size (fun u hu q hq => by simp only [List.mem_singleton] at hu; subst hu; have h1 := (HM16.out.lt q hq).1; have h2 := HDS.out; omega)))
  have HF17 := Lib.hid hof
  clear hof hoo hgo
  go_wp2_with fail
  refine (HHR.out _ _ _ HF17.out).mono ?_
  rintro e w18 ⟨rfl, rfl⟩
  go_wp2_with fail
  have HP17 := Lib.hid (HPK.out _ HD17.out)
  have HG17 := Lib.hid (HGK.out _ HD17.out)
  obtain ⟨⟨p0, p1, p2, p3⟩, _⟩ := blk4_cells HP17.out
  have gv0 := HG17.out.cell.1
  have HC17 := Lib.hid (And.intro (And.intro p0 (And.intro p1 (And.intro p2 p3))) gv0)
  go_region_held3 (fun w' => (w'.cell? ⟨w.heap.size, 0, none⟩ = some (.int .i64 x.st) ∧ w'.cell? ⟨w.heap.size, 1, none⟩ = some (.int .i64 x.go) ∧ w'.cell? ⟨w.heap.size, 2, none⟩ = some (.slice Af x.fin.length cf) ∧ w'.cell? ⟨w.heap.size, 3, none⟩ = some (.slice An x.nx.length cn)) ∧ w'.cell? ⟨w.heap.size + 1, 0, none⟩ = some (.slice A n0 cap))
    (first | exact HC17.out | exact HC20.out | exact HC21.out | exact HC22.out | go_keep)
    (first
      | (go_at_call 20
         refine (HT.out _ ?_).mono ?_
         (first | exact HB17.out | exact below_drewN HB17.out 1 | exact below_drewN HB17.out _)
         rintro e w20 ⟨fa, na, Ua, rfl, hoa, hBa⟩
         try have hBa := below_undrew hBa
         have HE20 := Lib.hid hBa
         have HC20 := Lib.hid (And.intro (blk4_cells (HP17.out.kept hBa)).1 (HG17.out.kept hBa).cell.1)
         have HA20 := Lib.hid hoa.isAu
         obtain ⟨Afa, cfa, rfl⟩ := own_slice hoa.fin
         obtain ⟨Ana, cna, rfl⟩ := own_slice hoa.nx.outer
         clear hoa hBa)
      | (go_at_call 21
         refine (HTG.out _ ?_).mono ?_
         (first | exact HB17.out.trans (HE20.out.mono HB17.out.size) | exact below_drewN (HB17.out.trans (HE20.out.mono HB17.out.size)) _)
         rintro e w21 ⟨vb, rfl, hob, hBb⟩
         try have hBb := below_undrew hBb
         have HE21 := Lib.hid (HE20.out.trans (hBb.mono HE20.out.size))
         have HC21 := Lib.hid (And.intro (blk4_cells (HP17.out.kept HE21.out)).1 (HG17.out.kept HE21.out).cell.1)
         have HA21 := Lib.hid (HA20.out.kept hBb)
         have HR21 := Lib.hid (Rules.of_own hob)
         obtain ⟨Agb, cgb, rfl⟩ := own_slice hob
         clear hob hBb)
      | (go_at_call 34
         refine (HIV.out _ _ _ HA21.out HR21.out).mono ?_
         rintro e w22 ⟨yk, rfl, hok, hBk⟩
         try have hBk := below_undrew hBk
         have HE22 := Lib.hid (HE21.out.trans (hBk.mono HE21.out.size))
         have HC22 := Lib.hid (And.intro (blk4_cells (HP17.out.kept HE22.out)).1 (HG17.out.kept HE22.out).cell.1)
         have HK22 := Lib.hid (IsL.of_own hok)
         clear hok hBk))
  clear p0 p1 p2 p3 gv0
  have HB22 := Lib.hid (HB17.out.trans (HE22.out.mono HB17.out.size))
  have HD22 := Lib.hid (HD17.out.trans (HE22.out.mono HD17.out.size))
  have HF22 := Lib.hid (HF17.out.below HE22.out (Nat.le_refl _))
  go_wp2_with fail
  refine (HEQ.out _ _ _ HK22.out (HYK.out _ HD22.out)).mono ?_
  rintro e w23 ⟨rfl, hB23⟩
  have HB23 := Lib.hid (HB22.out.trans (hB23.mono HB22.out.size))
  have HF23 := Lib.hid (HF22.out.below hB23 (Nat.le_refl _))
  clear hB23
  go_wp2_with fail
  refine (HHR.out _ _ _ HF23.out).mono ?_
  rintro e w24 ⟨rfl, rfl⟩
  go_wp2_with fail
  go_ret
  exact ⟨rfl, HB23.out⟩
end Go.Proofs.Ytaffachjopjbgaa.fnExactVisitCounts
