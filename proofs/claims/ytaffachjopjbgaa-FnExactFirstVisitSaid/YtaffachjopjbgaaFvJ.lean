/-
  Walk: impl.FirstVisit.
-/
import Derived.Test.YtaffachjopjbgaaFvI
import Derived.Test.YtaffachjopjbgaaFvU
import Derived.Test.YtaffachjopjbgaaFvT
namespace Go.Proofs.Ytaffachjopjbgaa
open Go.RowKit
open Wd
set_option linter.unusedVariables false
theorem IsS.shape {w : World} {lo : Nat} {sv gv : Value} {gs : List Rl} {nx vs : List (List Int)} {go : Int} (h : IsS w lo sv gv gs nx vs go) : ∃ A2 c2 A3 c3 A4 c4, sv = .agg #[gv, .slice A2 (lens gs).length c2, .slice A3 (mapsK nx gs gs.length).length c3, .int .i64 go, .slice A4 vs.length c4] := by
  obtain ⟨lv, mv, vv, rfl, h2, h3, h4⟩ := h
  obtain ⟨A2, c2, rfl⟩ := own_slice h2
  obtain ⟨A3, c3, rfl, h3'⟩ := h3
  obtain ⟨A4, c4, rfl, h4'⟩ := h4
  exact ⟨A2, c2, A3, c3, A4, c4, rfl⟩
/-- the numbers: the first visit is that of the specification -/
theorem fv_num {nx : List (List Int)} {st go q : Int} {gs : List Rl} (h : nx.all (rowOk st) = true) (hl : (nx.length : Int) = st) (h1 : 1 ≤ st) (h24 : st ≤ 24) (hok : gOk gs = true) (hgo : 0 ≤ go ∧ go < st) :
    (allV (visK (fun p => decide (p = q)) nx gs gs.length) gs go = 0 ∧ (if gs.length = 0 then ((0 : Int), (6 : Int)) else if at2 (firK (fun p => decide (p = q)) nx gs gs.length) (gs.length - 1) go.toNat < 0 then (0, 6) else (at2 (firK (fun p => decide (p = q)) nx gs gs.length) (gs.length - 1) go.toNat, 0)) = (0, 6)) ∨
    (0 < gs.length ∧ 0 < allV (visK (fun p => decide (p = q)) nx gs gs.length) gs go ∧ (if gs.length = 0 then ((0 : Int), (6 : Int)) else if at2 (firK (fun p => decide (p = q)) nx gs gs.length) (gs.length - 1) go.toNat < 0 then (0, 6) else (at2 (firK (fun p => decide (p = q)) nx gs gs.length) (gs.length - 1) go.toNat, 0)) = (fndF (fun p => decide (p = q)) nx gs gs.length (gs.length - 1) go.toNat 0, 0)) := by
  have hfit := (gOk_iff.1 hok).2.1
  unfold allV
  by_cases h0 : gs.length = 0
  · rw [if_pos h0, if_pos h0]
    exact .inl ⟨rfl, rfl⟩
  · rw [if_neg h0, if_neg h0]
    have hv := vis_fir (fun p => decide (p = q)) h hl h1 h24 hfit gs.length (gs.length - 1) go.toNat (by omega) (by omega) (by omega)
    rcases hv.2 with ⟨e1, e2⟩ | ⟨e1, e2⟩
    · rw [e2, if_pos (by omega)]
      exact .inl ⟨e1, rfl⟩
    · rw [if_neg (by omega)]
      refine .inr ⟨by omega, e1, ?_⟩
      rw [fnd_fir (fun p => decide (p = q)) h hl h1 h24 hfit gs.length (gs.length - 1) go.toNat (by omega) (by omega) (by omega) e1]
set_option maxRecDepth 100000 in
set_option maxHeartbeats 12800000 in
theorem implFirstVisit (av : Value) (x : Au) (gv : Value) (gs : List Rl) (q : Int) (w : World) (hf : FewA x) (hx : IsAu w av x) (hfr : FewR gs) (hr : Rules w gv gs) :
    Calls Try.prog 22 #[av, .agg #[gv], .int .i64 q] w fun e w' => e = .returned (.tuple #[.int .i64 (fvA x gs q).1, .int .i64 (fvA x gs q).2]) ∧ Below w.heap.size w w' := by
  have HIS := Lib.hid (fun W (hb : Below w.heap.size w W) => hx.kept hb)
  have HRU := Lib.hid (fun W (hb : Below w.heap.size w W) => hr.kept hb)
  obtain ⟨st, go, fin, nx⟩ := x
  obtain ⟨f, n, rfl, hF, hN⟩ := hx
  simp only at hF hN
  have hb : Below w.heap.size w (((w.alloc (.cells #[.int .i64 st, .int .i64 go, f, n] 33)).alloc (.cells #[gv] 37)).alloc (.cells #[.int .i64 q] 2)) := (((Below.refl _ w).alloc (Nat.le_refl _) _).alloc (by simp) _).alloc (by simp; omega) _
  have hP : B4 (((w.alloc (.cells #[.int .i64 st, .int .i64 go, f, n] 33)).alloc (.cells #[gv] 37)).alloc (.cells #[.int .i64 q] 2)) w.heap.size (.int .i64 st) (.int .i64 go) f n 33 := ((B4.new w _ _ _ _ _).alloc _).alloc _
  have hg : (((w.alloc (.cells #[.int .i64 st, .int .i64 go, f, n] 33)).alloc (.cells #[gv] 37)).alloc (.cells #[.int .i64 q] 2)).cell? ⟨w.heap.size + 1, 0, none⟩ = some gv := by
    have := cell_new (w.alloc (.cells #[.int .i64 st, .int .i64 go, f, n] 33)) gv 37
    rw [show (w.alloc (.cells #[.int .i64 st, .int .i64 go, f, n] 33)).heap.size = w.heap.size + 1 from by simp] at this
    exact (((Below.refl _ ((w.alloc (.cells #[.int .i64 st, .int .i64 go, f, n] 33)).alloc (.cells #[gv] 37))).alloc (Nat.le_refl _) _).cell (p := ⟨w.heap.size + 1, 0, none⟩) (by simp)).trans this
  have hq : (((w.alloc (.cells #[.int .i64 st, .int .i64 go, f, n] 33)).alloc (.cells #[gv] 37)).alloc (.cells #[.int .i64 q] 2)).cell? ⟨w.heap.size + 1 + 1, 0, none⟩ = some (.int .i64 q) := by
    have := cell_new ((w.alloc (.cells #[.int .i64 st, .int .i64 go, f, n] 33)).alloc (.cells #[gv] 37)) (.int .i64 q) 2
    rwa [show ((w.alloc (.cells #[.int .i64 st, .int .i64 go, f, n] 33)).alloc (.cells #[gv] 37)).heap.size = w.heap.size + 1 + 1 from by simp] at this
  have HWO := Lib.hid (walkOfAuto_any _ ⟨st, go, fin, nx⟩ gv gs _ hf (HIS.out _ hb) hfr (HRU.out _ hb))
  have HB := Lib.hid hb
  have HP := Lib.hid hP
  have HQ := Lib.hid hq
  have HI := Lib.hid (fun W => isOf_any q st W)
  obtain ⟨Af, cf, rfl⟩ := hF.shape
  obtain ⟨An, cn, rfl, hNx⟩ := hN
  obtain ⟨Ag, cg, rfl, hRx⟩ := hr
  obtain ⟨⟨p0, p1, p2, p3⟩, _⟩ := blk4_cells hP
  clear hb hP hF hNx hRx
  unfold fvA
  cases hall : (aOk ⟨st, go, fin, nx⟩ && gOk gs)
  · rw [hall] at HWO
    rw [if_neg (by intro h; rw [h.1, h.2] at hall; cases hall)]
    clear hall
    go_enter Try.func22, Try.ntmps22
    go_wp2_with fail
    refine HWO.out.mono ?_
    rintro e w3 ⟨wv, rfl, _, hz, hB3⟩
    have hz := hz trivial
    subst hz
    have HB3 := Lib.hid (HB.out.trans (hB3.mono HB.out.size))
    unfold zeroW
    clear hB3
    go_wp2_with fail
    go_ret2
    exact ⟨rfl, HB3.out.alloc HB3.out.size _⟩
  · rw [hall] at HWO
    rw [Bool.and_eq_true] at hall
    rw [if_pos hall]
    obtain ⟨⟨h1, h24⟩, hrow, hlen⟩ := aOk_parts hall.1
    have hgo := aOk_go2 hall.1
    have hok := hall.2
    simp only at h1 h24 hrow hlen hgo
    have HROW := Lib.hid hrow
    have HLEN := Lib.hid hlen
    have HOK := Lib.hid hok
    have HGO := Lib.hid hgo
    by_cases hs : 0 ≤ q ∧ q ≤ st - 1
    · rw [if_pos hs]
      rw [decide_eq_true (show 0 ≤ q ∧ q < st by omega)] at HI
      by_cases hqg : q = go
      · rw [if_pos hqg]
        subst hqg
        clear hall hrow hlen hs hgo hok
        go_enter Try.func22, Try.ntmps22
        go_wp2_with fail
        refine HWO.out.mono ?_
        rintro e w3 ⟨wv, rfl, hyes, _, hB3⟩
        have hw3 := hyes trivial
        have HB3 := Lib.hid (HB.out.trans (hB3.mono HB.out.size))
        have HW3 := Lib.hid hw3
        have HP3 := Lib.hid (HP.out.kept hB3)
        have HQ3 := Lib.hid ((hB3.cell (lt_of_cell HQ.out)).trans HQ.out)
        obtain ⟨A2, c2, A3, c3, rfl⟩ := hw3.shape
        clear hyes hw3 hB3 p0 p1 p2 p3 hg hq
        have hb4 := (Below.refl _ w3).alloc (Nat.le_refl _) (.cells #[.slice Ag gs.length cg, .slice A2 (lens gs).length c2, .slice A3 gs.length c3, .int .i64 q] 110)
        have HW4 := Lib.hid (HW3.out.kept hb4)
        have HB4 := Lib.hid (HB3.out.trans (hb4.mono HB3.out.size))
        have HP4 := Lib.hid (HP3.out.kept hb4)
        have HQ4 := Lib.hid ((hb4.cell (lt_of_cell HQ3.out)).trans HQ3.out)
        have HV4 := Lib.hid (B4.new w3 (.slice Ag gs.length cg) (.slice A2 (lens gs).length c2) (.slice A3 gs.length c3) (.int .i64 q) 110)
        clear hb4
        go_upto_region 2 with fail
        obtain ⟨Vb, hVb⟩ : ∃ Vb, Vb = w3.heap.size := ⟨_, rfl⟩
        rw [← hVb] at HV4 ⊢
        generalize w3.alloc (.cells #[.slice Ag gs.length cg, .slice A2 (lens gs).length c2, .slice A3 gs.length c3, .int .i64 q] 110) = w4 at *
        clear hVb
        obtain ⟨⟨p0, p1, p2, p3⟩, _⟩ := blk4_cells HP4.out
        obtain ⟨⟨v0, v1, v2, v3⟩, _⟩ := blk4_cells HV4.out
        have q0 := HQ4.out
        go_wp2_with fail
        refine (HI.out _).mono ?_
        rintro e w5 ⟨rfl, hw5⟩
        obtain rfl := hw5.symm
        go_wp2_with fail
        go_ret2
        exact ⟨rfl, HB4.out⟩
      · rw [if_neg hqg]
        have hqd : (q == go) = false := by simp [hqg]
        obtain ⟨ans, hans⟩ : ∃ ans : Int × Int, ans = (if gs.length = 0 then (0, 6) else if at2 (firK (fun p => decide (p = q)) nx gs gs.length) (gs.length - 1) go.toNat < 0 then (0, 6) else (at2 (firK (fun p => decide (p = q)) nx gs gs.length) (gs.length - 1) go.toNat, 0)) := ⟨_, rfl⟩
        have hnum := fv_num (q := q) hrow hlen h1 h24 hok hgo
        rw [← hans] at hnum ⊢
        have HNUM := Lib.hid hnum
        have HSF := Lib.hid (fun W wv lo (hb : Below w.heap.size w W) hW hp => searchFor_any wv (.slice Ag gs.length cg) gs nx st go lo (w.heap.size + 1 + 1) (fun p => decide (p = q)) W h1 h24 hrow hlen hok (HRU.out W hb) hW (fun W' z hb' => wanted_any z q (w.heap.size + 1 + 1) W' ((hb'.cell (lt_of_cell hp)).trans hp)))
        have HAL := Lib.hid (fun W sv lo (hb : Below w.heap.size w W) hW => all_any sv (.slice Ag gs.length cg) gs nx (visK (fun p => decide (p = q)) nx gs gs.length) go lo W hok (HRU.out W hb) (visK_len _ _ _ _) hW (by omega))
        have HVI := Lib.hid (fun W sv lo (hb : Below w.heap.size w W) hW h0 hc => visit_any sv (.slice Ag gs.length cg) gs (fun p => decide (p = q)) nx st go 0 lo W h1 h24 hrow hlen hok (HRU.out W hb) hW (by omega) h0 (Int.le_refl _) hc)
        clear hall hrow hlen hs hgo hqg hans hnum hok
        go_enter Try.func22, Try.ntmps22
        go_wp2_with fail
        refine HWO.out.mono ?_
        rintro e w3 ⟨wv, rfl, hyes, _, hB3⟩
        have hw3 := hyes trivial
        have HB3 := Lib.hid (HB.out.trans (hB3.mono HB.out.size))
        have HW3 := Lib.hid hw3
        have HP3 := Lib.hid (HP.out.kept hB3)
        have HQ3 := Lib.hid ((hB3.cell (lt_of_cell HQ.out)).trans HQ.out)
        obtain ⟨A2, c2, A3, c3, rfl⟩ := hw3.shape
        clear hyes hw3 hB3 p0 p1 p2 p3 hg hq
        have hb4 := (Below.refl _ w3).alloc (Nat.le_refl _) (.cells #[.slice Ag gs.length cg, .slice A2 (lens gs).length c2, .slice A3 gs.length c3, .int .i64 go] 110)
        have HW4 := Lib.hid (HW3.out.kept hb4)
        have HB4 := Lib.hid (HB3.out.trans (hb4.mono HB3.out.size))
        have HP4 := Lib.hid (HP3.out.kept hb4)
        have HQ4 := Lib.hid ((hb4.cell (lt_of_cell HQ3.out)).trans HQ3.out)
        have HV4 := Lib.hid (B4.new w3 (.slice Ag gs.length cg) (.slice A2 (lens gs).length c2) (.slice A3 gs.length c3) (.int .i64 go) 110)
        clear hb4
        go_upto_region 2 with fail
        obtain ⟨Vb, hVb⟩ : ∃ Vb, Vb = w3.heap.size := ⟨_, rfl⟩
        rw [← hVb] at HV4 ⊢
        generalize w3.alloc (.cells #[.slice Ag gs.length cg, .slice A2 (lens gs).length c2, .slice A3 gs.length c3, .int .i64 go] 110) = w4 at *
        clear hVb
        obtain ⟨⟨p0, p1, p2, p3⟩, _⟩ := blk4_cells HP4.out
        obtain ⟨⟨v0, v1, v2, v3⟩, _⟩ := blk4_cells HV4.out
        have q0 := HQ4.out
        go_wp2_with fail
        refine (HI.out _).mono ?_
        rintro e w5 ⟨rfl, hw5⟩
        obtain rfl := hw5.symm
        go_wp2_with fail
        have HWV : Hid (IsW w4 _ (.agg #[.slice Ag gs.length cg, .slice A2 (lens gs).length c2, .slice A3 gs.length c3, .int .i64 go]) (.slice Ag gs.length cg) gs nx go) := HW4
        refine (HSF.out _ _ _ HB4.out HWV.out q0).mono ?_
        rintro e w6 ⟨sv, rfl, hS, hB6⟩
        have HB6 := Lib.hid (HB4.out.trans (hB6.mono HB4.out.size))
        have HS6 := Lib.hid hS
        obtain ⟨B2, d2, B3, d3, B4', d4, hsv⟩ := hS.shape
        subst hsv
        clear hS hB6 p0 p1 p2 p3 v0 v1 v2 v3 q0
        have hb7 := (Below.refl _ w6).alloc (Nat.le_refl _) (.cells #[.slice Ag gs.length cg, .slice B2 (lens gs).length d2, .slice B3 (mapsK nx gs gs.length).length d3, .int .i64 go, .slice B4' (visK (fun p => decide (p = q)) nx gs gs.length).length d4] 116)
        have HS7 := Lib.hid (HS6.out.kept hb7)
        have HB7 := Lib.hid (HB6.out.trans (hb7.mono HB6.out.size))
        have HC7 : Hid (B5 _ w6.heap.size _ _ _ _ _ 116) := Lib.hid (heap_alloc_new w6 (.cells #[.slice Ag gs.length cg, .slice B2 (lens gs).length d2, .slice B3 (mapsK nx gs gs.length).length d3, .int .i64 go, .slice B4' (visK (fun p => decide (p = q)) nx gs gs.length).length d4] 116))
        clear hb7
        go_upto_region 9 with fail
        obtain ⟨Sb, hSb⟩ : ∃ Sb, Sb = w6.heap.size := ⟨_, rfl⟩
        rw [← hSb] at HC7 ⊢
        generalize w6.alloc (.cells #[.slice Ag gs.length cg, .slice B2 (lens gs).length d2, .slice B3 (mapsK nx gs gs.length).length d3, .int .i64 go, .slice B4' (visK (fun p => decide (p = q)) nx gs gs.length).length d4] 116) = w7 at *
        clear hSb
        obtain ⟨s0, s1, s2, s3, s4⟩ := b5_cells HC7.out
        rcases HNUM.out with ⟨e0, e1⟩ | ⟨e0, e1, e2⟩
        · rw [e0] at HAL
          have HE := Lib.hid e1
          clear e0 e1
          go_wp2_with fail
          refine (HAL.out _ _ _ HB7.out HS7.out).mono ?_
          rintro e w8 ⟨rfl, hB8⟩
          have HB8 := Lib.hid (HB7.out.trans (hB8.mono HB7.out.size))
          clear hB8 s0 s1 s2 s3 s4
          go_wp2_with fail
          go_ret2
          exact ⟨by rw [HE.out]; rfl, HB8.out⟩
        · have HE := Lib.hid e2
          have HVJ := Lib.hid (fun W sv lo hb hW => HVI.out W sv lo hb hW e0 e1)
          have hz : (allV (visK (fun p => decide (p = q)) nx gs gs.length) gs go == 0) = false := by simp; omega
          clear e0 e1 e2
          generalize allV (visK (fun p => decide (p = q)) nx gs gs.length) gs go = av at *
          generalize fndF (fun p => decide (p = q)) nx gs gs.length (gs.length - 1) go.toNat 0 = fz at *
          go_wp2_with fail
          refine (HAL.out _ _ _ HB7.out HS7.out).mono ?_
          rintro e w8 ⟨rfl, hB8⟩
          have HB8 := Lib.hid (HB7.out.trans (hB8.mono HB7.out.size))
          have HS8 := Lib.hid (HS7.out.kept hB8)
          obtain ⟨t0, t1, t2, t3, t4⟩ := b5_cells (HC7.out.kept hB8)
          clear hB8 s0 s1 s2 s3 s4
          go_wp2_with fail
          refine (HVJ.out _ _ _ HB8.out HS8.out).mono ?_
          rintro e w9 ⟨rfl, hB9⟩
          have HB9 := Lib.hid (HB8.out.trans (hB9.mono HB8.out.size))
          clear hB9 t0 t1 t2 t3 t4
          go_wp2_with fail
          go_ret2
          exact ⟨by rw [HE.out]; rfl, HB9.out⟩
    · rw [if_neg hs]
      rw [decide_eq_false (show ¬ (0 ≤ q ∧ q < st) by omega)] at HI
      clear hall hrow hlen hs hgo hok
      go_enter Try.func22, Try.ntmps22
      go_wp2_with fail
      refine HWO.out.mono ?_
      rintro e w3 ⟨wv, rfl, hyes, _, hB3⟩
      have hw3 := hyes trivial
      have HB3 := Lib.hid (HB.out.trans (hB3.mono HB.out.size))
      have HW3 := Lib.hid hw3
      have HP3 := Lib.hid (HP.out.kept hB3)
      have HQ3 := Lib.hid ((hB3.cell (lt_of_cell HQ.out)).trans HQ.out)
      obtain ⟨A2, c2, A3, c3, rfl⟩ := hw3.shape
      clear hyes hw3 hB3 p0 p1 p2 p3 hg hq
      have hb4 := (Below.refl _ w3).alloc (Nat.le_refl _) (.cells #[.slice Ag gs.length cg, .slice A2 (lens gs).length c2, .slice A3 gs.length c3, .int .i64 go] 110)
      have HW4 := Lib.hid (HW3.out.kept hb4)
      have HB4 := Lib.hid (HB3.out.trans (hb4.mono HB3.out.size))
      have HP4 := Lib.hid (HP3.out.kept hb4)
      have HQ4 := Lib.hid ((hb4.cell (lt_of_cell HQ3.out)).trans HQ3.out)
      have HV4 := Lib.hid (B4.new w3 (.slice Ag gs.length cg) (.slice A2 (lens gs).length c2) (.slice A3 gs.length c3) (.int .i64 go) 110)
      clear hb4
      go_upto_region 2 with fail
      obtain ⟨Vb, hVb⟩ : ∃ Vb, Vb = w3.heap.size := ⟨_, rfl⟩
      rw [← hVb] at HV4 ⊢
      generalize w3.alloc (.cells #[.slice Ag gs.length cg, .slice A2 (lens gs).length c2, .slice A3 gs.length c3, .int .i64 go] 110) = w4 at *
      clear hVb
      obtain ⟨⟨p0, p1, p2, p3⟩, _⟩ := blk4_cells HP4.out
      obtain ⟨⟨v0, v1, v2, v3⟩, _⟩ := blk4_cells HV4.out
      have q0 := HQ4.out
      go_wp2_with fail
      refine (HI.out _).mono ?_
      rintro e w5 ⟨rfl, hw5⟩
      obtain rfl := hw5.symm
      go_wp2_with fail
      go_ret2
      exact ⟨rfl, HB4.out⟩
end Go.Proofs.Ytaffachjopjbgaa
