/-
  The walk of FnExactBothAuto: it returns true at every input.
-/
import Derived.Test.YtaffachjopjbgaaZ2
import Derived.Test.YtaffachjopjbgaaZ11
import Derived.Test.YtaffachjopjbgaaZ13
import Derived.Deep.RegionHeld3
namespace Go.Proofs.Ytaffachjopjbgaa.fnExactBothAuto
open Go.RowKit Wd
set_option linter.unusedVariables false
theorem b4_only {w w' : World} {b lo : Nat} {c0 c1 c2 c3 f n : Value} {U : List Value} {fin : List Int} {nx : List (List Int)} (h : B4 w b c0 c1 c2 c3 33) (ha : OwnA w lo f n U fin nx) (ho : OnlyIn (f :: U) w w') : B4 w' b c0 c1 c2 c3 33 := by
  refine (ho.block b h.lt (fun u hu e => ?_)).trans h
  rcases List.mem_cons.1 hu with rfl | hu
  · rcases own_b4_ne ha.fin h (by decide) with h1 | h1
    · rw [h1] at e; cases e
    · exact h1 e
  · obtain ⟨j, hj, rfl⟩ := List.mem_iff_getElem.1 hu
    rcases own_b4_ne (ha.nx.rows.row j _ _ (List.getElem?_eq_getElem hj) (List.getElem?_eq_getElem (by rw [← ha.nx.rows.len]; exact hj))) h (by decide) with h1 | h1
    · rw [h1] at e; cases e
    · exact h1 e
theorem auN_pos (x : Au) : 0 ≤ auN x := by unfold auN; omega
theorem auN_fin (x : Au) : (x.fin.length : Int) ≤ auN x := by unfold auN; omega
set_option maxRecDepth 100000 in
set_option maxHeartbeats 51200000 in
theorem walk (v : Value) (x : Au) (u : Value) (z : Au) (w : World) (hx : IsAu w v x) (hm : MaxA x) (hz : IsAu w u z) (hmz : MaxA z) :
    Calls Try.prog 9 #[v, u] w fun e w' => e = .returned (.bool true) ∧ Below w.heap.size w w' := by
  have HX := Lib.hid (fun W (hb : Below w.heap.size w W) => hx.kept hb)
  have HZ := Lib.hid (fun W (hb : Below w.heap.size w W) => hz.kept hb)
  obtain ⟨f, n, rfl, hF, hN⟩ := hx
  obtain ⟨Af, cf, rfl⟩ := hF.shape
  obtain ⟨An, cn, rfl, _⟩ := hN
  obtain ⟨f', n', rfl, hF', hN'⟩ := hz
  obtain ⟨Bf, df, rfl⟩ := hF'.shape
  obtain ⟨Bn, dn, rfl, _⟩ := hN'
  have hb1 := (Below.refl _ w).alloc (Nat.le_refl _) (.cells #[.int .i64 x.st, .int .i64 x.go, .slice Af x.fin.length cf, .slice An x.nx.length cn] 25)
  have hP : B4 (w.alloc (.cells #[.int .i64 x.st, .int .i64 x.go, .slice Af x.fin.length cf, .slice An x.nx.length cn] 25)) w.heap.size _ _ _ _ _ := B4.new w _ _ _ _ _
  have hb2 := (Below.refl _ (w.alloc (.cells #[.int .i64 x.st, .int .i64 x.go, .slice Af x.fin.length cf, .slice An x.nx.length cn] 25))).alloc (Nat.le_refl _) (.cells #[.int .i64 z.st, .int .i64 z.go, .slice Bf z.fin.length df, .slice Bn z.nx.length dn] 25)
  have hS : B4 ((w.alloc (.cells #[.int .i64 x.st, .int .i64 x.go, .slice Af x.fin.length cf, .slice An x.nx.length cn] 25)).alloc (.cells #[.int .i64 z.st, .int .i64 z.go, .slice Bf z.fin.length df, .slice Bn z.nx.length dn] 25)) (w.alloc (.cells #[.int .i64 x.st, .int .i64 x.go, .slice Af x.fin.length cf, .slice An x.nx.length cn] 25)).heap.size _ _ _ _ _ := B4.new (w.alloc (.cells #[.int .i64 x.st, .int .i64 x.go, .slice Af x.fin.length cf, .slice An x.nx.length cn] 25)) _ _ _ _ _
  rw [show (w.alloc (.cells #[.int .i64 x.st, .int .i64 x.go, .slice Af x.fin.length cf, .slice An x.nx.length cn] 25)).heap.size = w.heap.size + 1 from by simp] at hS
  have HB := Lib.hid (hb1.trans (hb2.mono hb1.size))
  have HP := Lib.hid (hP.kept hb2)
  have HS := Lib.hid hS
  have HZ1 := Lib.hid (szAutoS_any _ x 1048576 _ hm (HX.out _ HB.out) (by omega) (by omega))
  have HZ2 := Lib.hid (fun W (hb : Below w.heap.size w W) y (h0 : 0 ≤ y) (h1 : y ≤ 1048576) => szAutoS_any _ z y W hmz (HZ.out W hb) h0 h1)
  clear hF hF' hb1 hb2 hP hS hm hmz
  go_enter Try.func9, Try.ntmps9
  go_wp2_with fail
  refine HZ1.out.mono ?_
  rintro e w1 ⟨y, rfl, hB1, hpaid⟩
  have HB1 := Lib.hid (HB.out.trans (hB1.mono HB.out.size))
  have HP1 := Lib.hid (HP.out.kept hB1)
  have HS1 := Lib.hid (HS.out.kept hB1)
  clear hB1 HB HP HS HZ1
  rcases hpaid with rfl | ⟨hy0, hy1, hfew⟩
  · go_wp2_with fail
    go_ret
    exact ⟨rfl, HB1.out⟩
  have hny : ¬ y < 0 := by omega
  obtain ⟨⟨s0, s1, s2, s3⟩, _⟩ := blk4_cells HS1.out
  go_wp2_with fail
  refine (HZ2.out _ HB1.out y hy0 hy1).mono ?_
  rintro e w2 ⟨y', rfl, hB2, hpaid⟩
  have HB2 := Lib.hid (HB1.out.trans (hB2.mono HB1.out.size))
  have HP2 := Lib.hid (HP1.out.kept hB2)
  have HS2 := Lib.hid (HS1.out.kept hB2)
  clear hB2 HB1 HP1 HS1 HZ2 s0 s1 s2 s3 hny
  rcases hpaid with rfl | ⟨hy0', hy1', hfew'⟩
  · go_wp2_with fail
    go_ret
    exact ⟨rfl, HB2.out⟩
  have hny : ¬ y' < 0 := by omega
  have hax := auN_pos x
  have haz := auN_pos z
  have hzf := auN_fin z
  have hsum : auN x + auN z ≤ 1048576 := by omega
  have hfw := hfew.2
  have hfw' := hfew'.2
  have HT := Lib.hid (fun W (hb : Below w.heap.size w W) => toAutoO_any _ x W hfw (HX.out W hb))
  have HT' := Lib.hid (fun W (hb : Below w.heap.size w W) => toAutoO_any _ z W hfw' (HZ.out W hb))
  have HSV := Lib.hid (fun W a b (h : IsAu W a x) (h' : IsAu W b z) => specBothAuto a b x z W hfw h hfw' h')
  have HIV := Lib.hid (fun W a b (h : IsAu W a x) (h' : IsAu W b z) => implBothAuto a b x z W hfw h hfw' h')
  have hrf := autBothAuto_few x z
  have HEX := Lib.hid (fun W u v (h1 : IsAu W u x) (h2 : IsAu W v x) => eqAuto_any u v x W hfw h1 h2)
  have HEZ := Lib.hid (fun W u v (h1 : IsAu W u z) (h2 : IsAu W v z) => eqAuto_any u v z W hfw' h1 h2)
  have HMX := Lib.hid (fun f n U lo W (h : OwnA W lo f n U x.fin x.nx) => markAu f n U x lo W hfw h)
  have HMZ := Lib.hid (fun f n U lo W (h : OwnA W lo f n U z.fin z.nx) => markAuK f n U z lo (1 + auN x) W (by omega) (by omega) hfw' h)
  generalize autBothAuto x z = rc at *
  obtain ⟨r, c⟩ := rc
  simp only at hrf HSV HIV
  have HEQ := Lib.hid (fun W u v (h1 : IsAu W u r) (h2 : IsAu W v r) => eqAuto_any u v r W hrf h1 h2)
  have HMR := Lib.hid (fun f n U lo W (h : OwnA W lo f n U r.fin r.nx) => markAu f n U r lo W hrf h)
  have HHR := Lib.hid (fun f n U lo W h => heldAu f n U r lo W hrf h)
  have han := auN_pos r
  clear hfew hfew' hfw hfw' hrf hy0 hy1 hy0' hy1' hzf

  have HKS2 : Hid (∀ w' : World, Below w2.heap.size w2 w' → (w'.cell? ⟨w.heap.size, 0, none⟩ = some (.int .i64 x.st) ∧ w'.cell? ⟨w.heap.size, 1, none⟩ = some (.int .i64 x.go) ∧ w'.cell? ⟨w.heap.size, 2, none⟩ = some (.slice Af x.fin.length cf) ∧ w'.cell? ⟨w.heap.size, 3, none⟩ = some (.slice An x.nx.length cn)) ∧ (w'.cell? ⟨w.heap.size + 1, 0, none⟩ = some (.int .i64 z.st) ∧ w'.cell? ⟨w.heap.size + 1, 1, none⟩ = some (.int .i64 z.go) ∧ w'.cell? ⟨w.heap.size + 1, 2, none⟩ = some (.slice Bf z.fin.length df) ∧ w'.cell? ⟨w.heap.size + 1, 3, none⟩ = some (.slice Bn z.nx.length dn))) := Lib.hid (fun w' hb => ⟨(blk4_cells (HP2.out.kept hb)).1, (blk4_cells (HS2.out.kept hb)).1⟩)
  have HT2 := Lib.hid (fun W (hb : Below w2.heap.size w2 W) => HT.out W (HB2.out.trans (hb.mono HB2.out.size)))
  have HT2' := Lib.hid (fun W (hb : Below w2.heap.size w2 W) => HT'.out W (HB2.out.trans (hb.mono HB2.out.size)))
  obtain ⟨⟨p0, p1, p2, p3⟩, _⟩ := blk4_cells HP2.out
  obtain ⟨⟨s0, s1, s2, s3⟩, _⟩ := blk4_cells HS2.out
  go_upto_region 8 with fail
  go_cut [6, 7] (fun s6 s7 wx => ∃ Wb fy ny, s6 = .pointer (some ⟨Wb, 0, none⟩) ∧ s7 = .int .i64 c ∧ AuBox w2 r Wb fy ny wx)
  case first =>
    go_region_held3 (fun w' => (w'.cell? ⟨w.heap.size, 0, none⟩ = some (.int .i64 x.st) ∧ w'.cell? ⟨w.heap.size, 1, none⟩ = some (.int .i64 x.go) ∧ w'.cell? ⟨w.heap.size, 2, none⟩ = some (.slice Af x.fin.length cf) ∧ w'.cell? ⟨w.heap.size, 3, none⟩ = some (.slice An x.nx.length cn)) ∧ (w'.cell? ⟨w.heap.size + 1, 0, none⟩ = some (.int .i64 z.st) ∧ w'.cell? ⟨w.heap.size + 1, 1, none⟩ = some (.int .i64 z.go) ∧ w'.cell? ⟨w.heap.size + 1, 2, none⟩ = some (.slice Bf z.fin.length df) ∧ w'.cell? ⟨w.heap.size + 1, 3, none⟩ = some (.slice Bn z.nx.length dn)))
      ((refine HKS2.out _ ?_; (repeat first | with_reducible exact Below.refl _ _ | with_reducible refine bs_drew ?_ | with_reducible refine bs_alloc ?_ _ | with_reducible refine bs_call ?_ HE5.out | with_reducible refine bs_call ?_ HE4.out | with_reducible refine bs_call ?_ HE3.out | with_reducible refine Below.setCell ?_ (by first | exact Nat.le_refl _ | (simp only; omega) | (simp; done) | (simp; omega)) _)))
      (first
        | (go_at_call_of 20 (Value.agg #[.int .i64 x.st, .int .i64 x.go, .slice Af x.fin.length cf, .slice An x.nx.length cn])
           refine (HT2.out _ ?_).mono ?_
           skip
           (repeat first | with_reducible exact Below.refl _ _ | with_reducible refine bs_drew ?_ | with_reducible refine bs_alloc ?_ _ | with_reducible refine bs_call ?_ HE5.out | with_reducible refine bs_call ?_ HE4.out | with_reducible refine bs_call ?_ HE3.out | with_reducible refine Below.setCell ?_ (by first | exact Nat.le_refl _ | (simp only; omega) | (simp; done) | (simp; omega)) _)
           rintro e w3 ⟨f3, n3, U3, rfl, ho3, hB3⟩
           have HE3 := Lib.hid hB3
           have HV3 := Lib.hid ho3.isAu
           have hz3 : w2.heap.size ≤ w3.heap.size := by have := hB3.size; (try simp at this); omega
           obtain ⟨Af3, cf3, rfl⟩ := own_slice ho3.fin
           obtain ⟨An3, cn3, rfl⟩ := own_slice ho3.nx.outer
           clear ho3 hB3)
        | (go_at_call_of 20 (Value.agg #[.int .i64 z.st, .int .i64 z.go, .slice Bf z.fin.length df, .slice Bn z.nx.length dn])
           refine (HT2'.out _ ?_).mono ?_
           skip
           (repeat first | with_reducible exact Below.refl _ _ | with_reducible refine bs_drew ?_ | with_reducible refine bs_alloc ?_ _ | with_reducible refine bs_call ?_ HE5.out | with_reducible refine bs_call ?_ HE4.out | with_reducible refine bs_call ?_ HE3.out | with_reducible refine Below.setCell ?_ (by first | exact Nat.le_refl _ | (simp only; omega) | (simp; done) | (simp; omega)) _)
           rintro e w4 ⟨f4, n4, U4, rfl, ho4, hB4⟩
           have HE4 := Lib.hid hB4
           have HV4 : Hid (IsAu w4 _ x) := Lib.hid (HV3.out.kept (by repeat first | exact Below.refl _ _ | refine bs_drew ?_ | refine bs_alloc ?_ _ | refine bs_call ?_ HE4.out))
           have HW4 := Lib.hid ho4.isAu
           have hz4 : w3.heap.size ≤ w4.heap.size := by have := hB4.size; (try simp at this); omega
           obtain ⟨Af4, cf4, rfl⟩ := own_slice ho4.fin
           obtain ⟨An4, cn4, rfl⟩ := own_slice ho4.nx.outer
           clear ho4 hB4)
        | (go_at_call 40
           refine (HSV.out _ _ _ (HV4.out.kept ?_) (HW4.out.kept ?_)).mono ?_
           skip
           (repeat first | exact Below.refl _ _ | refine bs_drew ?_ | refine bs_alloc ?_ _)
           (repeat first | exact Below.refl _ _ | refine bs_drew ?_ | refine bs_alloc ?_ _)
           rintro e w5 ⟨f5, n5, U5, rfl, ho5, hB5⟩
           have HE5 := Lib.hid hB5
           have HO5 := Lib.hid ho5
           have hz5 : w4.heap.size ≤ w5.heap.size := by have := hB5.size; (try simp at this); omega
           obtain ⟨Af5, cf5, rfl⟩ := own_slice ho5.fin
           obtain ⟨An5, cn5, rfl⟩ := own_slice ho5.nx.outer
           first
             | (have HV := Lib.hid ((B4.new w4 (.int .i64 0) (.int .i64 0) (.slice none 0 0) (.slice none 0 0) 33).kept hB5); have HO := Lib.hid (ho5.lower (B := w4.heap.size + 1) (by simp)); have HWL := Lib.hid (show w2.heap.size ≤ w4.heap.size by omega); obtain ⟨⟨v0, v1, v2, v3⟩, u0, u1, u2, u3⟩ := blk4_cells HV.out)
             | (have HV := Lib.hid (((B4.new w3 (.int .i64 0) (.int .i64 0) (.slice none 0 0) (.slice none 0 0) 33).kept HE4.out).kept hB5); have HO := Lib.hid (ho5.lower (B := w3.heap.size + 1) (by have := HE4.out.size; (try simp at this); omega)); have HWL := Lib.hid (show w2.heap.size ≤ w3.heap.size by omega); obtain ⟨⟨v0, v1, v2, v3⟩, u0, u1, u2, u3⟩ := blk4_cells HV.out)
             | (have HV := Lib.hid ((((B4.new w2 (.int .i64 0) (.int .i64 0) (.slice none 0 0) (.slice none 0 0) 33).kept HE3.out).kept HE4.out).kept hB5); have HO := Lib.hid (ho5.lower (B := w2.heap.size + 1) (by have := HE3.out.size; (try simp at this); omega)); have HWL := Lib.hid (Nat.le_refl w2.heap.size); obtain ⟨⟨v0, v1, v2, v3⟩, u0, u1, u2, u3⟩ := blk4_cells HV.out)
             | (have HV := Lib.hid ((((B4.new w2 (.int .i64 0) (.int .i64 0) (.slice none 0 0) (.slice none 0 0) 33).kept (below_undrew (n := 1) HE3.out)).kept HE4.out).kept hB5); have HO := Lib.hid (ho5.lower (B := w2.heap.size + 1) (by have := HE3.out.size; (try simp at this); omega)); have HWL := Lib.hid (Nat.le_refl w2.heap.size); obtain ⟨⟨v0, v1, v2, v3⟩, u0, u1, u2, u3⟩ := blk4_cells HV.out)
             | (have HO := Lib.hid (ho5.lower (B := w2.heap.size) (by omega)))
           clear ho5 hB5))
    all_goals (go_wp2_with fail; go_meet)
    all_goals first
      | exact ⟨_, _, _, rfl, rfl, AuBox.old HO.out HV.out HWL.out (by repeat first | with_reducible exact Below.refl _ _ | with_reducible refine bs_drew ?_ | with_reducible refine bs_alloc ?_ _ | with_reducible refine bs_call ?_ HE5.out | with_reducible refine bs_call ?_ HE4.out | with_reducible refine bs_call ?_ HE3.out | with_reducible refine Below.setCell ?_ (by first | exact Nat.le_refl _ | (simp only; omega) | (simp; done) | (simp; omega)) _)⟩
      | exact ⟨_, _, _, rfl, rfl, AuBox.new HO.out (by repeat first | with_reducible exact Below.refl _ _ | with_reducible refine bs_drew ?_ | with_reducible refine bs_alloc ?_ _ | with_reducible refine bs_call ?_ HE5.out | with_reducible refine bs_call ?_ HE4.out | with_reducible refine bs_call ?_ HE3.out | with_reducible refine Below.setCell ?_ (by first | exact Nat.le_refl _ | (simp only; omega) | (simp; done) | (simp; omega)) _)⟩
  case rest =>
  obtain ⟨Wb, fy, ny, rfl, rfl, hbxa⟩ := hcut
  obtain ⟨wa, rfl⟩ : ∃ wa : World, wa = wc := ⟨_, rfl⟩
  clear p0 p1 p2 p3 s0 s1 s2 s3 HKS2 HT2 HT2'
  have HB5 := Lib.hid (HB2.out.trans (hbxa.below.mono HB2.out.size))
  obtain ⟨Uy, hoy⟩ := hbxa.own
  have HYa := Lib.hid hoy.isAu
  have HWa := Lib.hid hbxa.box
  have HBa := HB5
  have HPa := Lib.hid (HP2.out.kept hbxa.below)
  have HSa := Lib.hid (HS2.out.kept hbxa.below)
  obtain ⟨A5, c5, rfl⟩ := own_slice hoy.fin
  obtain ⟨A5', c5', rfl⟩ := own_slice hoy.nx.outer
  clear hoy hbxa
  have HCa := Lib.hid (Below.refl wa.heap.size wa)
  have HYK := Lib.hid (fun W (hb : Below wa.heap.size wa W) => HYa.out.kept hb)
  have HWK := Lib.hid (fun W (hb : Below wa.heap.size wa W) => HWa.out.kept hb)
  have HPK := Lib.hid (fun W (hb : Below wa.heap.size wa W) => HPa.out.kept hb)
  have HSK := Lib.hid (fun W (hb : Below wa.heap.size wa W) => HSa.out.kept hb)
  obtain ⟨⟨p0, p1, p2, p3⟩, _⟩ := blk4_cells HPa.out
  go_wp2_with fail
  refine (HT.out _ HBa.out).mono ?_
  rintro e w6 ⟨f6, n6, U6, rfl, ho6, hB6⟩
  have HX6 := Lib.hid ho6
  obtain ⟨Af6, cf6, rfl⟩ := own_slice ho6.fin
  obtain ⟨An6, cn6, rfl⟩ := own_slice ho6.nx.outer
  have HB6 := Lib.hid (HBa.out.trans (hB6.mono HBa.out.size))
  have HC6 := Lib.hid (HCa.out.trans (hB6.mono HCa.out.size))
  clear ho6 hB6 p0 p1 p2 p3
  have hb6 := (Below.refl _ w6).alloc (Nat.le_refl _) (.cells #[.int .i64 x.st, .int .i64 x.go, .slice Af6 x.fin.length cf6, .slice An6 U6.length cn6] 33)
  have HQb : Hid (B4 (w6.alloc (.cells #[.int .i64 x.st, .int .i64 x.go, .slice Af6 x.fin.length cf6, .slice An6 U6.length cn6] 33)) w6.heap.size _ _ _ _ _) := Lib.hid (B4.new w6 _ _ _ _ _)
  have HXb := Lib.hid (HX6.out.kept hb6)
  have HBb := Lib.hid (HB6.out.trans (hb6.mono HB6.out.size))
  have HCb := Lib.hid (HC6.out.trans (hb6.mono HC6.out.size))
  clear hb6
  go_upto_region 10 with fail
  obtain ⟨Xb, hXb⟩ : ∃ Xb, Xb = w6.heap.size := ⟨_, rfl⟩
  rw [← hXb] at HQb ⊢
  generalize w6.alloc (.cells #[.int .i64 x.st, .int .i64 x.go, .slice Af6 x.fin.length cf6, .slice An6 U6.length cn6] 33) = wb at *
  clear hXb
  have HSb := Lib.hid (HSK.out _ HCb.out)
  have HXB := Lib.hid (fun u hu q (hq : u.ownBlock = some q) => (HXb.out.blocks u hu q hq).2)
  have HCS := Lib.hid HCb.out.size
  have HDb := Lib.hid (Below.refl wb.heap.size wb)
  obtain ⟨⟨p0, p1, p2, p3⟩, _⟩ := blk4_cells HSb.out
  go_wp2_with fail
  refine (HT'.out _ HBb.out).mono ?_
  rintro e w7 ⟨f7, n7, U7, rfl, ho7, hB7⟩
  have HZ7 := Lib.hid ho7
  obtain ⟨Af7, cf7, rfl⟩ := own_slice ho7.fin
  obtain ⟨An7, cn7, rfl⟩ := own_slice ho7.nx.outer
  have HB7 := Lib.hid (HBb.out.trans (hB7.mono HBb.out.size))
  have HC7 := Lib.hid (HCb.out.trans (hB7.mono HCb.out.size))
  have HD7 := Lib.hid (HDb.out.trans (hB7.mono HDb.out.size))
  have HX7 := Lib.hid (HXb.out.kept hB7)
  have HQ7 := Lib.hid (HQb.out.kept hB7)
  clear ho7 hB7 p0 p1 p2 p3
  have hb7 := (Below.refl _ w7).alloc (Nat.le_refl _) (.cells #[.int .i64 z.st, .int .i64 z.go, .slice Af7 z.fin.length cf7, .slice An7 U7.length cn7] 33)
  have HVc : Hid (B4 (w7.alloc (.cells #[.int .i64 z.st, .int .i64 z.go, .slice Af7 z.fin.length cf7, .slice An7 U7.length cn7] 33)) w7.heap.size _ _ _ _ _) := Lib.hid (B4.new w7 _ _ _ _ _)
  have HZc := Lib.hid (HZ7.out.kept hb7)
  have HBc := Lib.hid (HB7.out.trans (hb7.mono HB7.out.size))
  have HCc := Lib.hid (HC7.out.trans (hb7.mono HC7.out.size))
  have HDc := Lib.hid (HD7.out.trans (hb7.mono HD7.out.size))
  have HXc := Lib.hid (HX7.out.kept hb7)
  have HQc := Lib.hid (HQ7.out.kept hb7)
  clear hb7
  go_upto_region 11 with fail
  obtain ⟨Zb, hZb⟩ : ∃ Zb, Zb = w7.heap.size := ⟨_, rfl⟩
  rw [← hZb] at HVc ⊢
  generalize w7.alloc (.cells #[.int .i64 z.st, .int .i64 z.go, .slice Af7 z.fin.length cf7, .slice An7 U7.length cn7] 33) = wc at *
  clear hZb
  have HZL := Lib.hid (fun u hu q (hq : u.ownBlock = some q) => (HZc.out.blocks u hu q hq).1)
  have HZB := Lib.hid (fun u hu q (hq : u.ownBlock = some q) => (HZc.out.blocks u hu q hq).2)
  have HZS := Lib.hid HDc.out.size
  obtain ⟨⟨q0, q1, q2, q3⟩, _⟩ := blk4_cells HQc.out
  obtain ⟨⟨v0, v1, v2, v3⟩, _⟩ := blk4_cells HVc.out
  go_wp2_with fail
  refine (HIV.out _ _ _ HXc.out.isAu HZc.out.isAu).mono ?_
  rintro e w8 ⟨f8, n8, U8, rfl, ho8, hB8⟩
  have HG8 := Lib.hid ho8
  obtain ⟨Af8, cf8, rfl⟩ := own_slice ho8.fin
  obtain ⟨An8, cn8, rfl⟩ := own_slice ho8.nx.outer
  have HB8 := Lib.hid (HBc.out.trans (hB8.mono HBc.out.size))
  have HC8 := Lib.hid (HCc.out.trans (hB8.mono HCc.out.size))
  have HX8 := Lib.hid (HXc.out.kept hB8)
  have HQ8 := Lib.hid (HQc.out.kept hB8)
  have HZ8 := Lib.hid (HZc.out.kept hB8)
  have HV8 := Lib.hid (HVc.out.kept hB8)
  have HGS := Lib.hid (Nat.le_trans HCc.out.size (Nat.le_refl wc.heap.size))
  clear ho8 hB8 q0 q1 q2 q3 v0 v1 v2 v3
  have hb8 := (Below.refl _ w8).alloc (Nat.le_refl _) (.cells #[.int .i64 r.st, .int .i64 r.go, .slice Af8 r.fin.length cf8, .slice An8 U8.length cn8] 33)
  have HRd : Hid (B4 (w8.alloc (.cells #[.int .i64 r.st, .int .i64 r.go, .slice Af8 r.fin.length cf8, .slice An8 U8.length cn8] 33)) w8.heap.size _ _ _ _ _) := Lib.hid (B4.new w8 _ _ _ _ _)
  have HBd := Lib.hid (HB8.out.trans (hb8.mono HB8.out.size))
  have HCd := Lib.hid (HC8.out.trans (hb8.mono HC8.out.size))
  have HGd := Lib.hid (HG8.out.kept hb8)
  have HXd := Lib.hid (HX8.out.kept hb8)
  have HQd := Lib.hid (HQ8.out.kept hb8)
  have HZd := Lib.hid (HZ8.out.kept hb8)
  have HVd := Lib.hid (HV8.out.kept hb8)
  clear hb8
  go_upto_region 12 with fail
  obtain ⟨Gb, hGb⟩ : ∃ Gb, Gb = w8.heap.size := ⟨_, rfl⟩
  rw [← hGb] at HRd ⊢
  generalize w8.alloc (.cells #[.int .i64 r.st, .int .i64 r.go, .slice Af8 r.fin.length cf8, .slice An8 U8.length cn8] 33) = wd at *
  clear hGb
  have HWd := Lib.hid (HWK.out _ HCd.out)
  obtain ⟨⟨g0, g1, g2, g3⟩, _⟩ := blk4_cells HRd.out
  obtain ⟨⟨t0, t1, t2, t3⟩, _⟩ := blk4_cells HWd.out
  go_wp2_with fail
  refine (HEQ.out _ _ _ HGd.out.isAu (HYK.out _ HCd.out)).mono ?_
  rintro e w9 ⟨rfl, hB9⟩
  have HB9 := Lib.hid (HBd.out.trans (hB9.mono HBd.out.size))
  have HC9 := Lib.hid (HCd.out.trans (hB9.mono HCd.out.size))
  have HG9 := Lib.hid (HGd.out.kept hB9)
  have HR9 := Lib.hid (HRd.out.kept hB9)
  have HX9 := Lib.hid (HXd.out.kept hB9)
  have HQ9 := Lib.hid (HQd.out.kept hB9)
  have HZ9 := Lib.hid (HZd.out.kept hB9)
  have HV9 := Lib.hid (HVd.out.kept hB9)
  clear hB9 g0 g1 g2 g3 t0 t1 t2 t3
  have HP9 := Lib.hid (HPK.out _ HC9.out)
  obtain ⟨⟨p0, p1, p2, p3⟩, _⟩ := blk4_cells HP9.out
  obtain ⟨⟨q0, q1, q2, q3⟩, _⟩ := blk4_cells HQ9.out
  have HK9 := Lib.hid (And.intro (And.intro p0 (And.intro p1 (And.intro p2 p3))) (And.intro q0 (And.intro q1 (And.intro q2 q3))))
  have HT9 := Lib.hid (fun m => HT.out (w9.drewN m) (below_drewN HB9.out m))
  go_upto_region 14 with fail
  go_region_held3 (fun w' => (w'.cell? ⟨w.heap.size, 0, none⟩ = some (.int .i64 x.st) ∧ w'.cell? ⟨w.heap.size, 1, none⟩ = some (.int .i64 x.go) ∧ w'.cell? ⟨w.heap.size, 2, none⟩ = some (.slice Af x.fin.length cf) ∧ w'.cell? ⟨w.heap.size, 3, none⟩ = some (.slice An x.nx.length cn)) ∧ w'.cell? ⟨Xb, 0, none⟩ = some (.int .i64 x.st) ∧ w'.cell? ⟨Xb, 1, none⟩ = some (.int .i64 x.go) ∧ w'.cell? ⟨Xb, 2, none⟩ = some (.slice Af6 x.fin.length cf6) ∧ w'.cell? ⟨Xb, 3, none⟩ = some (.slice An6 U6.length cn6))
    (first | exact HK9.out | exact HKx.out | exact HKy.out | go_keep)
    (first
      | (go_at_call 20
         refine (HT9.out _).mono ?_
         rintro e wx ⟨fx, nx, Ux, rfl, hox, hBx⟩
         have hBx := below_undrew hBx
         have HBx := Lib.hid hBx
         have HKx := Lib.hid (And.intro (blk4_cells (HP9.out.kept hBx)).1 (blk4_cells (HQ9.out.kept hBx)).1)
         have HXx := Lib.hid (HX9.out.kept hBx)
         have HZx := Lib.hid hox.isAu
         obtain ⟨Afx, cfx, rfl⟩ := own_slice hox.fin
         obtain ⟨Anx, cnx, rfl⟩ := own_slice hox.nx.outer
         clear hox hBx)
      | (go_at_call 23
         refine (HEX.out _ _ _ HXx.out.isAu HZx.out).mono ?_
         rintro e wA ⟨rfl, hBy⟩
         have HBz := Lib.hid (HBx.out.trans (hBy.mono HBx.out.size))
         have HKy := Lib.hid (And.intro (blk4_cells (HP9.out.kept HBz.out)).1 (blk4_cells (HQ9.out.kept HBz.out)).1)
         clear hBy))
  clear p0 p1 p2 p3 q0 q1 q2 q3
  have HBA := Lib.hid (HB9.out.trans (HBz.out.mono HB9.out.size))
  have HCA := Lib.hid (HC9.out.trans (HBz.out.mono HC9.out.size))
  have HGA := Lib.hid (HG9.out.kept HBz.out)
  have HRA := Lib.hid (HR9.out.kept HBz.out)
  have HXA := Lib.hid (HX9.out.kept HBz.out)
  have HQA := Lib.hid (HQ9.out.kept HBz.out)
  have HZA := Lib.hid (HZ9.out.kept HBz.out)
  have HVA := Lib.hid (HV9.out.kept HBz.out)
  clear HBx HBz HKx HKy HXx HZx HT9 HK9
  have HSA := Lib.hid (HSK.out _ HCA.out)
  obtain ⟨⟨p0, p1, p2, p3⟩, _⟩ := blk4_cells HSA.out
  obtain ⟨⟨q0, q1, q2, q3⟩, _⟩ := blk4_cells HVA.out
  have HKA := Lib.hid (And.intro (And.intro p0 (And.intro p1 (And.intro p2 p3))) (And.intro q0 (And.intro q1 (And.intro q2 q3))))
  have HTA := Lib.hid (fun m => HT'.out (wA.drewN m) (below_drewN HBA.out m))
  go_upto_region 16 with fail
  go_region_held3 (fun w' => (w'.cell? ⟨w.heap.size + 1, 0, none⟩ = some (.int .i64 z.st) ∧ w'.cell? ⟨w.heap.size + 1, 1, none⟩ = some (.int .i64 z.go) ∧ w'.cell? ⟨w.heap.size + 1, 2, none⟩ = some (.slice Bf z.fin.length df) ∧ w'.cell? ⟨w.heap.size + 1, 3, none⟩ = some (.slice Bn z.nx.length dn)) ∧ w'.cell? ⟨Zb, 0, none⟩ = some (.int .i64 z.st) ∧ w'.cell? ⟨Zb, 1, none⟩ = some (.int .i64 z.go) ∧ w'.cell? ⟨Zb, 2, none⟩ = some (.slice Af7 z.fin.length cf7) ∧ w'.cell? ⟨Zb, 3, none⟩ = some (.slice An7 U7.length cn7))
    (first | exact HKA.out | exact HKx.out | exact HKy.out | go_keep)
    (first
      | (go_at_call 20
         refine (HTA.out _).mono ?_
         rintro e wx ⟨fx, nx, Ux, rfl, hox, hBx⟩
         have hBx := below_undrew hBx
         have HBx := Lib.hid hBx
         have HKx := Lib.hid (And.intro (blk4_cells (HSA.out.kept hBx)).1 (blk4_cells (HVA.out.kept hBx)).1)
         have HXx := Lib.hid (HZA.out.kept hBx)
         have HZx := Lib.hid hox.isAu
         obtain ⟨Afx, cfx, rfl⟩ := own_slice hox.fin
         obtain ⟨Anx, cnx, rfl⟩ := own_slice hox.nx.outer
         clear hox hBx)
      | (go_at_call 23
         refine (HEZ.out _ _ _ HXx.out.isAu HZx.out).mono ?_
         rintro e wD ⟨rfl, hBy⟩
         have HBz := Lib.hid (HBx.out.trans (hBy.mono HBx.out.size))
         have HKy := Lib.hid (And.intro (blk4_cells (HSA.out.kept HBz.out)).1 (blk4_cells (HVA.out.kept HBz.out)).1)
         clear hBy))
  clear p0 p1 p2 p3 q0 q1 q2 q3
  have HBD := Lib.hid (HBA.out.trans (HBz.out.mono HBA.out.size))
  have HCD := Lib.hid (HCA.out.trans (HBz.out.mono HCA.out.size))
  have HGD := Lib.hid (HGA.out.kept HBz.out)
  have HRD := Lib.hid (HRA.out.kept HBz.out)
  have HXD := Lib.hid (HXA.out.kept HBz.out)
  have HQD := Lib.hid (HQA.out.kept HBz.out)
  have HZD := Lib.hid (HZA.out.kept HBz.out)
  have HVD := Lib.hid (HVA.out.kept HBz.out)
  clear HBx HBz HKx HKy HXx HZx HTA HKA
  obtain ⟨⟨q0, q1, q2, q3⟩, _⟩ := blk4_cells HQD.out
  go_wp2_with fail
  refine (HMX.out _ _ _ _ _ HXD.out).mono ?_
  rintro e wE ⟨rfl, _, hoE⟩
  have HBE := Lib.hid (HBD.out.trans (hoE.below (lo := w.heap.size) HBD.out.size (fun u hu q hq => by have h1 := (HXD.out.blocks u hu q hq).1; have h2 := HBa.out.size; omega)))
  have HCE := Lib.hid (HCD.out.trans (hoE.below (lo := wa.heap.size) HCD.out.size (fun u hu q hq => (HXD.out.blocks u hu q hq).1)))
  have HRE := Lib.hid (b4_only HRD.out HXD.out hoE)
  have HVE := Lib.hid (b4_only HVD.out HXD.out hoE)
  have HZE := Lib.hid (HZD.out.only hoE (fun u hu q hq => HXB.out u hu q hq))
  have HGE := Lib.hid (HGD.out.only hoE (fun u hu q hq => by have h1 := HXB.out u hu q hq; have h2 := HZS.out; omega))
  clear hoE q0 q1 q2 q3
  obtain ⟨⟨q0, q1, q2, q3⟩, _⟩ := blk4_cells HVE.out
  go_wp2_with fail
  refine (HMZ.out _ _ _ _ _ HZE.out).mono ?_
  rintro e wF ⟨rfl, _, hoF⟩
  have HBF := Lib.hid (HBE.out.trans (hoF.below (lo := w.heap.size) HBE.out.size (fun u hu q hq => by have h1 := HZL.out u hu q hq; have h2 := HBa.out.size; have h3 := HCS.out; omega)))
  have HCF := Lib.hid (HCE.out.trans (hoF.below (lo := wa.heap.size) HCE.out.size (fun u hu q hq => by have h1 := HZL.out u hu q hq; have h3 := HCS.out; omega)))
  have HRF := Lib.hid (b4_only HRE.out HZE.out hoF)
  have HGF := Lib.hid (HGE.out.only hoF (fun u hu q hq => HZB.out u hu q hq))
  have HWF := Lib.hid (HWK.out _ HCF.out)
  have hnk : ¬ (1 + auN x + auN z < 0) := by omega
  clear hoF q0 q1 q2 q3
  obtain ⟨⟨g0, g1, g2, g3⟩, _⟩ := blk4_cells HRF.out
  obtain ⟨⟨t0, t1, t2, t3⟩, _⟩ := blk4_cells HWF.out
  go_wp2_with fail
  refine (HEQ.out _ _ _ HGF.out.isAu (HYK.out _ HCF.out)).mono ?_
  rintro e wG ⟨rfl, hBG⟩
  have HBG := Lib.hid (HBF.out.trans (hBG.mono HBF.out.size))
  have HCG := Lib.hid (HCF.out.trans (hBG.mono HCF.out.size))
  have HGG := Lib.hid (HGF.out.kept hBG)
  have HRG := Lib.hid (HRF.out.kept hBG)
  clear hBG g0 g1 g2 g3 t0 t1 t2 t3 hnk
  obtain ⟨⟨g0, g1, g2, g3⟩, _⟩ := blk4_cells HRG.out
  go_wp2_with fail
  refine (HMR.out _ _ _ _ _ HGG.out).mono ?_
  rintro e wH ⟨rfl, hof, hoo⟩
  have HLO := Lib.hid (fun u hu q (hq : u.ownBlock = some q) => (HGG.out.blocks u hu q hq).1)
  have HBH := Lib.hid (HBG.out.trans (hoo.below (lo := w.heap.size) HBG.out.size (fun u hu q hq => by have h1 := HLO.out u hu q hq; have h2 := HBa.out.size; have h3 := HGS.out; omega)))
  have HCH := Lib.hid (HCG.out.trans (hoo.below (lo := wa.heap.size) HCG.out.size (fun u hu q hq => by have h1 := HLO.out u hu q hq; have h3 := HGS.out; omega)))
  have HRH := Lib.hid (b4_only HRG.out HGG.out hoo)
  have HGH := Lib.hid hof
  have hnm : ¬ (1 + auN r < 0) := by omega
  have hnm2 : decide (1 + auN r < 0) = false := decide_eq_false hnm
  clear hof hoo g0 g1 g2 g3
  obtain ⟨⟨g0, g1, g2, g3⟩, _⟩ := blk4_cells HRH.out
  go_wp2_with fail
  refine (HHR.out _ _ _ _ _ HGH.out).mono ?_
  rintro e wI ⟨rfl, hBI⟩
  have HBI := Lib.hid (HBH.out.trans (hBI.mono HBH.out.size))
  have HCI := Lib.hid (HCH.out.trans (hBI.mono HCH.out.size))
  have HGI := Lib.hid (HGH.out.kept hBI)
  have HRI := Lib.hid (HRH.out.kept hBI)
  clear hBI g0 g1 g2 g3
  have HPI := Lib.hid (HPK.out _ HCI.out)
  have HSI := Lib.hid (HSK.out _ HCI.out)
  have HKSI : Hid (∀ w' : World, Below wI.heap.size wI w' → (w'.cell? ⟨w.heap.size, 0, none⟩ = some (.int .i64 x.st) ∧ w'.cell? ⟨w.heap.size, 1, none⟩ = some (.int .i64 x.go) ∧ w'.cell? ⟨w.heap.size, 2, none⟩ = some (.slice Af x.fin.length cf) ∧ w'.cell? ⟨w.heap.size, 3, none⟩ = some (.slice An x.nx.length cn)) ∧ (w'.cell? ⟨w.heap.size + 1, 0, none⟩ = some (.int .i64 z.st) ∧ w'.cell? ⟨w.heap.size + 1, 1, none⟩ = some (.int .i64 z.go) ∧ w'.cell? ⟨w.heap.size + 1, 2, none⟩ = some (.slice Bf z.fin.length df) ∧ w'.cell? ⟨w.heap.size + 1, 3, none⟩ = some (.slice Bn z.nx.length dn))) := Lib.hid (fun w' hb => ⟨(blk4_cells (HPI.out.kept hb)).1, (blk4_cells (HSI.out.kept hb)).1⟩)
  have HT2 := Lib.hid (fun W (hb : Below wI.heap.size wI W) => HT.out W (HBI.out.trans (hb.mono HBI.out.size)))
  have HT2' := Lib.hid (fun W (hb : Below wI.heap.size wI W) => HT'.out W (HBI.out.trans (hb.mono HBI.out.size)))
  obtain ⟨⟨p0, p1, p2, p3⟩, _⟩ := blk4_cells HPI.out
  obtain ⟨⟨s0, s1, s2, s3⟩, _⟩ := blk4_cells HSI.out
  go_upto_region 31 with fail
  go_cut [15, 16] (fun s6 s7 wx => ∃ Wb fy ny, s6 = .pointer (some ⟨Wb, 0, none⟩) ∧ s7 = .int .i64 c ∧ AuBox wI r Wb fy ny wx)
  case first =>
    go_region_held3 (fun w' => (w'.cell? ⟨w.heap.size, 0, none⟩ = some (.int .i64 x.st) ∧ w'.cell? ⟨w.heap.size, 1, none⟩ = some (.int .i64 x.go) ∧ w'.cell? ⟨w.heap.size, 2, none⟩ = some (.slice Af x.fin.length cf) ∧ w'.cell? ⟨w.heap.size, 3, none⟩ = some (.slice An x.nx.length cn)) ∧ (w'.cell? ⟨w.heap.size + 1, 0, none⟩ = some (.int .i64 z.st) ∧ w'.cell? ⟨w.heap.size + 1, 1, none⟩ = some (.int .i64 z.go) ∧ w'.cell? ⟨w.heap.size + 1, 2, none⟩ = some (.slice Bf z.fin.length df) ∧ w'.cell? ⟨w.heap.size + 1, 3, none⟩ = some (.slice Bn z.nx.length dn)))
      ((refine HKSI.out _ ?_; (repeat first | with_reducible exact Below.refl _ _ | with_reducible refine bs_drew ?_ | with_reducible refine bs_alloc ?_ _ | with_reducible refine bs_call ?_ HE5.out | with_reducible refine bs_call ?_ HE4.out | with_reducible refine bs_call ?_ HE3.out | with_reducible refine Below.setCell ?_ (by first | exact Nat.le_refl _ | (simp only; omega) | (simp; done) | (simp; omega)) _)))
      (first
        | (go_at_call_of 20 (Value.agg #[.int .i64 x.st, .int .i64 x.go, .slice Af x.fin.length cf, .slice An x.nx.length cn])
           refine (HT2.out _ ?_).mono ?_
           skip
           (repeat first | with_reducible exact Below.refl _ _ | with_reducible refine bs_drew ?_ | with_reducible refine bs_alloc ?_ _ | with_reducible refine bs_call ?_ HE5.out | with_reducible refine bs_call ?_ HE4.out | with_reducible refine bs_call ?_ HE3.out | with_reducible refine Below.setCell ?_ (by first | exact Nat.le_refl _ | (simp only; omega) | (simp; done) | (simp; omega)) _)
           rintro e wJ ⟨f3, n3, U3, rfl, ho3, hB3⟩
           have HE3 := Lib.hid hB3
           have HV3 := Lib.hid ho3.isAu
           have hz3 : wI.heap.size ≤ wJ.heap.size := by have := hB3.size; (try simp at this); omega
           obtain ⟨Af3, cf3, rfl⟩ := own_slice ho3.fin
           obtain ⟨An3, cn3, rfl⟩ := own_slice ho3.nx.outer
           clear ho3 hB3)
        | (go_at_call_of 20 (Value.agg #[.int .i64 z.st, .int .i64 z.go, .slice Bf z.fin.length df, .slice Bn z.nx.length dn])
           refine (HT2'.out _ ?_).mono ?_
           skip
           (repeat first | with_reducible exact Below.refl _ _ | with_reducible refine bs_drew ?_ | with_reducible refine bs_alloc ?_ _ | with_reducible refine bs_call ?_ HE5.out | with_reducible refine bs_call ?_ HE4.out | with_reducible refine bs_call ?_ HE3.out | with_reducible refine Below.setCell ?_ (by first | exact Nat.le_refl _ | (simp only; omega) | (simp; done) | (simp; omega)) _)
           rintro e wK ⟨f4, n4, U4, rfl, ho4, hB4⟩
           have HE4 := Lib.hid hB4
           have HV4 : Hid (IsAu wK _ x) := Lib.hid (HV3.out.kept (by repeat first | exact Below.refl _ _ | refine bs_drew ?_ | refine bs_alloc ?_ _ | refine bs_call ?_ HE4.out))
           have HW4 := Lib.hid ho4.isAu
           have hz4 : wJ.heap.size ≤ wK.heap.size := by have := hB4.size; (try simp at this); omega
           obtain ⟨Af4, cf4, rfl⟩ := own_slice ho4.fin
           obtain ⟨An4, cn4, rfl⟩ := own_slice ho4.nx.outer
           clear ho4 hB4)
        | (go_at_call 41
           refine (HIV.out _ _ _ (HV4.out.kept ?_) (HW4.out.kept ?_)).mono ?_
           skip
           (repeat first | exact Below.refl _ _ | refine bs_drew ?_ | refine bs_alloc ?_ _)
           (repeat first | exact Below.refl _ _ | refine bs_drew ?_ | refine bs_alloc ?_ _)
           rintro e wL ⟨f5, n5, U5, rfl, ho5, hB5⟩
           have HE5 := Lib.hid hB5
           have HO5 := Lib.hid ho5
           have hz5 : wK.heap.size ≤ wL.heap.size := by have := hB5.size; (try simp at this); omega
           obtain ⟨Af5, cf5, rfl⟩ := own_slice ho5.fin
           obtain ⟨An5, cn5, rfl⟩ := own_slice ho5.nx.outer
           first
             | (have HV := Lib.hid ((B4.new wK (.int .i64 0) (.int .i64 0) (.slice none 0 0) (.slice none 0 0) 33).kept hB5); have HO := Lib.hid (ho5.lower (B := wK.heap.size + 1) (by simp)); have HWL := Lib.hid (show wI.heap.size ≤ wK.heap.size by omega); obtain ⟨⟨v0, v1, v2, v3⟩, u0, u1, u2, u3⟩ := blk4_cells HV.out)
             | (have HV := Lib.hid (((B4.new wJ (.int .i64 0) (.int .i64 0) (.slice none 0 0) (.slice none 0 0) 33).kept HE4.out).kept hB5); have HO := Lib.hid (ho5.lower (B := wJ.heap.size + 1) (by have := HE4.out.size; (try simp at this); omega)); have HWL := Lib.hid (show wI.heap.size ≤ wJ.heap.size by omega); obtain ⟨⟨v0, v1, v2, v3⟩, u0, u1, u2, u3⟩ := blk4_cells HV.out)
             | (have HV := Lib.hid ((((B4.new wI (.int .i64 0) (.int .i64 0) (.slice none 0 0) (.slice none 0 0) 33).kept HE3.out).kept HE4.out).kept hB5); have HO := Lib.hid (ho5.lower (B := wI.heap.size + 1) (by have := HE3.out.size; (try simp at this); omega)); have HWL := Lib.hid (Nat.le_refl wI.heap.size); obtain ⟨⟨v0, v1, v2, v3⟩, u0, u1, u2, u3⟩ := blk4_cells HV.out)
             | (have HV := Lib.hid ((((B4.new wI (.int .i64 0) (.int .i64 0) (.slice none 0 0) (.slice none 0 0) 33).kept (below_undrew (n := 1) HE3.out)).kept HE4.out).kept hB5); have HO := Lib.hid (ho5.lower (B := wI.heap.size + 1) (by have := HE3.out.size; (try simp at this); omega)); have HWL := Lib.hid (Nat.le_refl wI.heap.size); obtain ⟨⟨v0, v1, v2, v3⟩, u0, u1, u2, u3⟩ := blk4_cells HV.out)
             | (have HO := Lib.hid (ho5.lower (B := wI.heap.size) (by omega)))
           clear ho5 hB5))
    all_goals (go_wp2_with fail; go_meet)
    all_goals first
      | exact ⟨_, _, _, rfl, rfl, AuBox.old HO.out HV.out HWL.out (by repeat first | with_reducible exact Below.refl _ _ | with_reducible refine bs_drew ?_ | with_reducible refine bs_alloc ?_ _ | with_reducible refine bs_call ?_ HE5.out | with_reducible refine bs_call ?_ HE4.out | with_reducible refine bs_call ?_ HE3.out | with_reducible refine Below.setCell ?_ (by first | exact Nat.le_refl _ | (simp only; omega) | (simp; done) | (simp; omega)) _)⟩
      | exact ⟨_, _, _, rfl, rfl, AuBox.new HO.out (by repeat first | with_reducible exact Below.refl _ _ | with_reducible refine bs_drew ?_ | with_reducible refine bs_alloc ?_ _ | with_reducible refine bs_call ?_ HE5.out | with_reducible refine bs_call ?_ HE4.out | with_reducible refine bs_call ?_ HE3.out | with_reducible refine Below.setCell ?_ (by first | exact Nat.le_refl _ | (simp only; omega) | (simp; done) | (simp; omega)) _)⟩
  case rest =>
  obtain ⟨Hb, fh, nh, rfl, rfl, hbxm⟩ := hcut
  obtain ⟨wM, rfl⟩ : ∃ wM : World, wM = wc := ⟨_, rfl⟩
  clear p0 p1 p2 p3 s0 s1 s2 s3 HKSI HT2 HT2'
  obtain ⟨Uh, hoh⟩ := hbxm.own
  have HHM := Lib.hid hoh
  have HXM := Lib.hid hbxm.box
  have hbI := hbxm.below
  obtain ⟨AfL, cfL, rfl⟩ := own_slice hoh.fin
  obtain ⟨AnL, cnL, rfl⟩ := own_slice hoh.nx.outer
  have HBM := Lib.hid (HBI.out.trans (hbI.mono HBI.out.size))
  have HCM := Lib.hid (HCI.out.trans (hbI.mono HCI.out.size))
  have HGM := Lib.hid (HGI.out.kept hbI)
  have HRM := Lib.hid (HRI.out.kept hbI)
  clear hoh hbxm hbI
  have HWM := Lib.hid (HWK.out _ HCM.out)
  obtain ⟨⟨t0, t1, t2, t3⟩, _⟩ := blk4_cells HWM.out
  obtain ⟨⟨h0, h1, h2, h3⟩, _⟩ := blk4_cells HXM.out
  go_wp2_with fail
  refine (HEQ.out _ _ _ HHM.out.isAu (HYK.out _ HCM.out)).mono ?_
  rintro e wN ⟨rfl, hBN⟩
  have HBN := Lib.hid (HBM.out.trans (hBN.mono HBM.out.size))
  have HCN := Lib.hid (HCM.out.trans (hBN.mono HCM.out.size))
  have HGN := Lib.hid (HGM.out.kept hBN)
  have HRN := Lib.hid (HRM.out.kept hBN)
  clear hBN t0 t1 t2 t3 h0 h1 h2 h3
  obtain ⟨⟨g0, g1, g2, g3⟩, _⟩ := blk4_cells HRN.out
  go_wp2_with fail
  refine (HHR.out _ _ _ _ _ HGN.out).mono ?_
  rintro e wO ⟨rfl, hBO⟩
  have HBO := Lib.hid (HBN.out.trans (hBO.mono HBN.out.size))
  clear hBO g0 g1 g2 g3
  go_wp2_with fail
  go_ret
  exact ⟨rfl, HBO.out⟩
end Go.Proofs.Ytaffachjopjbgaa.fnExactBothAuto
