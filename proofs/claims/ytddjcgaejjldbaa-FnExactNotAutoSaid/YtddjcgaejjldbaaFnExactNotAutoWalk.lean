/-
  The walk of FnExactNotAuto: it returns true at every input.
-/
import Derived.Test.YtddjcgaejjldbaaNotS2
import Derived.Test.YtddjcgaejjldbaaNotI3
import Derived.Test.YtddjcgaejjldbaaAuTo3
import Derived.Deep.RegionHeld3
namespace Go.Proofs.Ytddjcgaejjldbaa.fnExactNotAuto
open Go.RowKit Wd
set_option linter.unusedVariables false
theorem b4_only {w w' : World} {b lo : Nat} {c0 c1 c2 c3 f n : Value} {U : List Value} {fin : List Int} {nx : List (List Int)} (h : B4 w b c0 c1 c2 c3 39) (ha : OwnA w lo f n U fin nx) (ho : OnlyIn (f :: U) w w') : B4 w' b c0 c1 c2 c3 39 := by
  refine (ho.block b h.lt (fun u hu e => ?_)).trans h
  rcases List.mem_cons.1 hu with rfl | hu
  · rcases own_b4_ne ha.fin h (by decide) with h1 | h1
    · rw [h1] at e; cases e
    · exact h1 e
  · obtain ⟨j, hj, rfl⟩ := List.mem_iff_getElem.1 hu
    rcases own_b4_ne (ha.nx.rows.row j _ _ (List.getElem?_eq_getElem hj) (List.getElem?_eq_getElem (by rw [← ha.nx.rows.len]; exact hj))) h (by decide) with h1 | h1
    · rw [h1] at e; cases e
    · exact h1 e
theorem auN_pos (x : Au) : 0 ≤ auN x := by unfold auN; omega
set_option maxRecDepth 100000 in
set_option maxHeartbeats 25600000 in
theorem walk (v : Value) (x : Au) (w : World) (hx : IsAu w v x) (hm : MaxA x) :
    Calls Try.prog 5 #[v] w fun e w' => e = .returned (.bool true) ∧ Below w.heap.size w w' := by
  have HX := Lib.hid (fun W (hb : Below w.heap.size w W) => hx.kept hb)
  obtain ⟨f, n, rfl, hF, hN⟩ := hx
  obtain ⟨Af, cf, rfl⟩ := hF.shape
  obtain ⟨An, cn, rfl, _⟩ := hN
  have hb := (Below.refl _ w).alloc (Nat.le_refl _) (.cells #[.int .i64 x.st, .int .i64 x.go, .slice Af x.fin.length cf, .slice An x.nx.length cn] 37)
  have hP : B4 (w.alloc (.cells #[.int .i64 x.st, .int .i64 x.go, .slice Af x.fin.length cf, .slice An x.nx.length cn] 37)) w.heap.size _ _ _ _ _ := B4.new w _ _ _ _ _
  have HZ := Lib.hid (szAuto_any _ x 1048576 _ hm (HX.out _ hb) (by omega) (by omega))
  have HB := Lib.hid hb
  have HP := Lib.hid hP
  clear hF hb hP hm
  go_enter Try.func5, Try.ntmps5
  go_wp2_with fail
  refine HZ.out.mono ?_
  rintro e w1 ⟨y, rfl, hB1, hpaid⟩
  have HB1 := Lib.hid (HB.out.trans (hB1.mono (by simp)))
  have HP1 := Lib.hid (HP.out.kept hB1)
  clear hB1 HB HP HZ
  rcases hpaid with rfl | ⟨hy0, hy1, hfew⟩
  · go_wp2_with fail
    go_ret
    exact ⟨rfl, HB1.out⟩
  have HT := Lib.hid (fun W (hb : Below w.heap.size w W) => toAutoO_any _ x W hfew (HX.out W hb))
  have HSV := Lib.hid (fun W u (h : IsAu W u x) => specNotAuto u x W hfew h)
  have HIV := Lib.hid (fun W u (h : IsAu W u x) => implNotAuto u x W hfew h)
  have hrf := autNotAuto_few hfew
  have HEX := Lib.hid (fun W u v (h1 : IsAu W u x) (h2 : IsAu W v x) => eqAuto_any u v x W hfew h1 h2)
  have HMX := Lib.hid (fun f n U lo W (h : OwnA W lo f n U x.fin x.nx) => markAu f n U x lo W hfew h)
  have hny : ¬ y < 0 := by omega
  generalize autNotAuto x = rc at *
  obtain ⟨r, c⟩ := rc
  simp only at hrf HSV HIV
  have HEQ := Lib.hid (fun W u v (h1 : IsAu W u r) (h2 : IsAu W v r) => eqAuto_any u v r W hrf h1 h2)
  have HMR := Lib.hid (fun f n U lo W (h : OwnA W lo f n U r.fin r.nx) => markAu f n U r lo W hrf h)
  have HHR := Lib.hid (fun f n U lo W h => heldAu f n U r lo W hrf h)
  have han := auN_pos r
  have hax := auN_pos x
  clear hfew hrf hy0 hy1
  obtain ⟨⟨p0, p1, p2, p3⟩, _⟩ := blk4_cells HP1.out
  go_wp2_with fail
  refine (HT.out _ HB1.out).mono ?_
  rintro e w2 ⟨f2, n2, U2, rfl, ho2, hB2⟩
  have HV2 := Lib.hid ho2.isAu
  obtain ⟨Af2, cf2, rfl⟩ := own_slice ho2.fin
  obtain ⟨An2, cn2, rfl⟩ := own_slice ho2.nx.outer
  have HB2 := Lib.hid (HB1.out.trans (hB2.mono HB1.out.size))
  have HP2 := Lib.hid (HP1.out.kept hB2)
  clear ho2 hB2 p0 p1 p2 p3
  go_wp2_with fail
  refine (HSV.out _ _ HV2.out).mono ?_
  rintro e w3 ⟨y3, rfl, hy3, hB3⟩
  have HB3 := Lib.hid (HB2.out.trans (hB3.mono HB2.out.size))
  have HP3 := Lib.hid (HP2.out.kept hB3)
  have HY3 := Lib.hid hy3
  obtain ⟨fy, ny, rfl, hfy, hny3⟩ := hy3
  obtain ⟨A3, c3, rfl⟩ := hfy.shape
  obtain ⟨A3', c3', rfl, _⟩ := hny3
  have hb3 := (Below.refl _ w3).alloc (Nat.le_refl _) (.cells #[.int .i64 r.st, .int .i64 r.go, .slice A3 r.fin.length c3, .slice A3' r.nx.length c3'] 39)
  have hW3 : B4 (w3.alloc (.cells #[.int .i64 r.st, .int .i64 r.go, .slice A3 r.fin.length c3, .slice A3' r.nx.length c3'] 39)) w3.heap.size _ _ _ _ _ := B4.new w3 _ _ _ _ _
  have HYa := Lib.hid (HY3.out.kept hb3)
  have HWa := Lib.hid hW3
  have HBa := Lib.hid (HB3.out.trans (hb3.mono HB3.out.size))
  have HPa := Lib.hid (HP3.out.kept hb3)
  clear hfy hB3
  go_upto_region 6 with fail
  obtain ⟨Wb, hWb⟩ : ∃ Wb, Wb = w3.heap.size := ⟨_, rfl⟩
  rw [← hWb] at HWa hW3 ⊢
  generalize w3.alloc (.cells #[.int .i64 r.st, .int .i64 r.go, .slice A3 r.fin.length c3, .slice A3' r.nx.length c3'] 39) = wa at *
  have HCa := Lib.hid (Below.refl wa.heap.size wa)
  have HYK := Lib.hid (fun W (hb : Below wa.heap.size wa W) => HYa.out.kept hb)
  have HWK := Lib.hid (fun W (hb : Below wa.heap.size wa W) => HWa.out.kept hb)
  clear hb3 hW3 hWb
  have HPK := Lib.hid (fun W (hb : Below wa.heap.size wa W) => HPa.out.kept hb)
  obtain ⟨⟨p0, p1, p2, p3⟩, _⟩ := blk4_cells HPa.out
  go_wp2_with fail
  refine (HT.out _ HBa.out).mono ?_
  rintro e w4 ⟨f4, n4, U4, rfl, ho4, hB4⟩
  have HX4 := Lib.hid ho4
  obtain ⟨Af4, cf4, rfl⟩ := own_slice ho4.fin
  obtain ⟨An4, cn4, rfl⟩ := own_slice ho4.nx.outer
  have HB4 := Lib.hid (HBa.out.trans (hB4.mono HBa.out.size))
  have HC4 := Lib.hid (HCa.out.trans (hB4.mono HCa.out.size))
  clear ho4 hB4 p0 p1 p2 p3
  have hb4 := (Below.refl _ w4).alloc (Nat.le_refl _) (.cells #[.int .i64 x.st, .int .i64 x.go, .slice Af4 x.fin.length cf4, .slice An4 U4.length cn4] 39)
  have HQb : Hid (B4 (w4.alloc (.cells #[.int .i64 x.st, .int .i64 x.go, .slice Af4 x.fin.length cf4, .slice An4 U4.length cn4] 39)) w4.heap.size _ _ _ _ _) := Lib.hid (B4.new w4 _ _ _ _ _)
  have HXb := Lib.hid (HX4.out.kept hb4)
  have HBb := Lib.hid (HB4.out.trans (hb4.mono HB4.out.size))
  have HCb := Lib.hid (HC4.out.trans (hb4.mono HC4.out.size))
  clear hb4
  go_upto_region 7 with fail
  obtain ⟨Xb, hXb⟩ : ∃ Xb, Xb = w4.heap.size := ⟨_, rfl⟩
  rw [← hXb] at HQb ⊢
  generalize w4.alloc (.cells #[.int .i64 x.st, .int .i64 x.go, .slice Af4 x.fin.length cf4, .slice An4 U4.length cn4] 39) = wb at *
  clear hXb
  obtain ⟨⟨q0, q1, q2, q3⟩, _⟩ := blk4_cells HQb.out
  go_wp2_with fail
  refine (HIV.out _ _ HXb.out.isAu).mono ?_
  rintro e w6 ⟨f6, n6, U6, rfl, ho6, hB6⟩
  have HG6 := Lib.hid ho6
  have HGB := Lib.hid (fun u hu q (hq : u.ownBlock = some q) => (HXb.out.blocks u hu q hq).2)
  obtain ⟨Af6, cf6, rfl⟩ := own_slice ho6.fin
  obtain ⟨An6, cn6, rfl⟩ := own_slice ho6.nx.outer
  have HB6 := Lib.hid (HBb.out.trans (hB6.mono HBb.out.size))
  have HC6 := Lib.hid (HCb.out.trans (hB6.mono HCb.out.size))
  have HQ6 := Lib.hid (HQb.out.kept hB6)
  have HX6 := Lib.hid (HXb.out.kept hB6)
  have HCS := Lib.hid (Nat.le_trans HCb.out.size (Nat.le_refl wb.heap.size))
  clear ho6 hB6 q0 q1 q2 q3
  have hb6 := (Below.refl _ w6).alloc (Nat.le_refl _) (.cells #[.int .i64 r.st, .int .i64 r.go, .slice Af6 r.fin.length cf6, .slice An6 U6.length cn6] 39)
  have HRc : Hid (B4 (w6.alloc (.cells #[.int .i64 r.st, .int .i64 r.go, .slice Af6 r.fin.length cf6, .slice An6 U6.length cn6] 39)) w6.heap.size _ _ _ _ _) := Lib.hid (B4.new w6 _ _ _ _ _)
  have HBc := Lib.hid (HB6.out.trans (hb6.mono HB6.out.size))
  have HCc := Lib.hid (HC6.out.trans (hb6.mono HC6.out.size))
  have HGc := Lib.hid (HG6.out.kept hb6)
  have HQc := Lib.hid (HQ6.out.kept hb6)
  have HXc := Lib.hid (HX6.out.kept hb6)
  clear hb6
  go_upto_region 8 with fail
  obtain ⟨Gb, hGb⟩ : ∃ Gb, Gb = w6.heap.size := ⟨_, rfl⟩
  rw [← hGb] at HRc ⊢
  generalize w6.alloc (.cells #[.int .i64 r.st, .int .i64 r.go, .slice Af6 r.fin.length cf6, .slice An6 U6.length cn6] 39) = wc at *
  clear hGb
  have HWc := Lib.hid (HWK.out _ HCc.out)
  obtain ⟨⟨g0, g1, g2, g3⟩, _⟩ := blk4_cells HRc.out
  obtain ⟨⟨t0, t1, t2, t3⟩, _⟩ := blk4_cells HWc.out
  go_wp2_with fail
  refine (HEQ.out _ _ _ HGc.out.isAu (HYK.out _ HCc.out)).mono ?_
  rintro e w7 ⟨rfl, hB7⟩
  have HB7 := Lib.hid (HBc.out.trans (hB7.mono HBc.out.size))
  have HC7 := Lib.hid (HCc.out.trans (hB7.mono HCc.out.size))
  have HG7 := Lib.hid (HGc.out.kept hB7)
  have HR7 := Lib.hid (HRc.out.kept hB7)
  have HQ7 := Lib.hid (HQc.out.kept hB7)
  have HX7 := Lib.hid (HXc.out.kept hB7)
  clear hB7 g0 g1 g2 g3 t0 t1 t2 t3
  have HP7 := Lib.hid (HPK.out _ HC7.out)
  obtain ⟨⟨p0, p1, p2, p3⟩, _⟩ := blk4_cells HP7.out
  obtain ⟨⟨q0, q1, q2, q3⟩, _⟩ := blk4_cells HQ7.out
  have HC7c := Lib.hid (And.intro (And.intro p0 (And.intro p1 (And.intro p2 p3))) (And.intro q0 (And.intro q1 (And.intro q2 q3))))
  have HT7 := Lib.hid (fun m => HT.out (w7.drewN m) (below_drewN HB7.out m))
  go_upto_region 10 with fail
  go_region_held3 (fun w' => (w'.cell? ⟨w.heap.size, 0, none⟩ = some (.int .i64 x.st) ∧ w'.cell? ⟨w.heap.size, 1, none⟩ = some (.int .i64 x.go) ∧ w'.cell? ⟨w.heap.size, 2, none⟩ = some (.slice Af x.fin.length cf) ∧ w'.cell? ⟨w.heap.size, 3, none⟩ = some (.slice An x.nx.length cn)) ∧ w'.cell? ⟨Xb, 0, none⟩ = some (.int .i64 x.st) ∧ w'.cell? ⟨Xb, 1, none⟩ = some (.int .i64 x.go) ∧ w'.cell? ⟨Xb, 2, none⟩ = some (.slice Af4 x.fin.length cf4) ∧ w'.cell? ⟨Xb, 3, none⟩ = some (.slice An4 U4.length cn4))
    (first | exact HC7c.out | exact HC8c.out | exact HC9c.out | go_keep)
    (first
      | (go_at_call 24
         refine (HT7.out _).mono ?_
         rintro e w8 ⟨f8, n8, U8, rfl, ho8, hB8⟩
         have hB8 := below_undrew hB8
         have HB78 := Lib.hid hB8
         have HC8c := Lib.hid (And.intro (blk4_cells (HP7.out.kept hB8)).1 (blk4_cells (HQ7.out.kept hB8)).1)
         have HX8 := Lib.hid (HX7.out.kept hB8)
         have HZ8 := Lib.hid ho8.isAu
         obtain ⟨Af8, cf8, rfl⟩ := own_slice ho8.fin
         obtain ⟨An8, cn8, rfl⟩ := own_slice ho8.nx.outer
         clear ho8 hB8)
      | (go_at_call 26
         refine (HEX.out _ _ _ HX8.out.isAu HZ8.out).mono ?_
         rintro e w9 ⟨rfl, hB9⟩
         have HB79 := Lib.hid (HB78.out.trans (hB9.mono HB78.out.size))
         have HC9c := Lib.hid (And.intro (blk4_cells (HP7.out.kept HB79.out)).1 (blk4_cells (HQ7.out.kept HB79.out)).1)
         clear hB9))
  clear p0 p1 p2 p3 q0 q1 q2 q3
  have HB9 := Lib.hid (HB7.out.trans (HB79.out.mono HB7.out.size))
  have HC9 := Lib.hid (HC7.out.trans (HB79.out.mono HC7.out.size))
  have HG9 := Lib.hid (HG7.out.kept HB79.out)
  have HR9 := Lib.hid (HR7.out.kept HB79.out)
  have HQ9 := Lib.hid (HQ7.out.kept HB79.out)
  have HX9 := Lib.hid (HX7.out.kept HB79.out)
  obtain ⟨⟨q0, q1, q2, q3⟩, _⟩ := blk4_cells HQ9.out
  go_wp2_with fail
  refine (HMX.out _ _ _ _ _ HX9.out).mono ?_
  rintro e wd ⟨rfl, _, hod⟩
  have HBd := Lib.hid (HB9.out.trans (hod.below (lo := w.heap.size) HB9.out.size (fun u hu q hq => by have h1 := (HX9.out.blocks u hu q hq).1; have h2 := HBa.out.size; omega)))
  have HCd := Lib.hid (HC9.out.trans (hod.below (lo := wa.heap.size) HC9.out.size (fun u hu q hq => (HX9.out.blocks u hu q hq).1)))
  have HRd := Lib.hid (b4_only HR9.out HX9.out hod)
  have HGd := Lib.hid (HG9.out.only hod (fun u hu q hq => HGB.out u hu q hq))
  have HWd := Lib.hid (HWK.out _ HCd.out)
  have hnk : ¬ (1 + auN x < 0) := by omega
  clear hod q0 q1 q2 q3
  obtain ⟨⟨g0, g1, g2, g3⟩, _⟩ := blk4_cells HRd.out
  obtain ⟨⟨t0, t1, t2, t3⟩, _⟩ := blk4_cells HWd.out
  go_wp2_with fail
  refine (HEQ.out _ _ _ HGd.out.isAu (HYK.out _ HCd.out)).mono ?_
  rintro e we ⟨rfl, hBe⟩
  have HBe := Lib.hid (HBd.out.trans (hBe.mono HBd.out.size))
  have HCe := Lib.hid (HCd.out.trans (hBe.mono HCd.out.size))
  have HGe := Lib.hid (HGd.out.kept hBe)
  have HRe := Lib.hid (HRd.out.kept hBe)
  clear hBe g0 g1 g2 g3 t0 t1 t2 t3 hnk
  obtain ⟨⟨g0, g1, g2, g3⟩, _⟩ := blk4_cells HRe.out
  go_wp2_with fail
  refine (HMR.out _ _ _ _ _ HGe.out).mono ?_
  rintro e wf ⟨rfl, hof, hoo⟩
  have HLO := Lib.hid (fun u hu q (hq : u.ownBlock = some q) => (HGe.out.blocks u hu q hq).1)
  have HBf := Lib.hid (HBe.out.trans (hoo.below (lo := w.heap.size) HBe.out.size (fun u hu q hq => by have h1 := HLO.out u hu q hq; have h2 := HBa.out.size; have h3 := HCS.out; omega)))
  have HCf := Lib.hid (HCe.out.trans (hoo.below (lo := wa.heap.size) HCe.out.size (fun u hu q hq => by have h1 := HLO.out u hu q hq; have h3 := HCS.out; omega)))
  have HRf := Lib.hid (b4_only HRe.out HGe.out hoo)
  have HGf := Lib.hid hof
  have hnm : ¬ (1 + auN r < 0) := by omega
  have hnm2 : decide (1 + auN r < 0) = false := decide_eq_false hnm
  clear hof hoo g0 g1 g2 g3
  obtain ⟨⟨g0, g1, g2, g3⟩, _⟩ := blk4_cells HRf.out
  go_wp2_with fail
  refine (HHR.out _ _ _ _ _ HGf.out).mono ?_
  rintro e wg ⟨rfl, hBg⟩
  have HBg := Lib.hid (HBf.out.trans (hBg.mono HBf.out.size))
  have HCg := Lib.hid (HCf.out.trans (hBg.mono HCf.out.size))
  have HGg := Lib.hid (HGf.out.kept hBg)
  have HRg := Lib.hid (HRf.out.kept hBg)
  clear hBg g0 g1 g2 g3
  have HPg := Lib.hid (HPK.out _ HCg.out)
  obtain ⟨⟨p0, p1, p2, p3⟩, _⟩ := blk4_cells HPg.out
  go_wp2_with fail
  refine (HT.out _ HBg.out).mono ?_
  rintro e wh ⟨fh, nh, Uh, rfl, hoh, hBh⟩
  have HVh := Lib.hid hoh.isAu
  obtain ⟨Afh, cfh, rfl⟩ := own_slice hoh.fin
  obtain ⟨Anh, cnh, rfl⟩ := own_slice hoh.nx.outer
  have HBh := Lib.hid (HBg.out.trans (hBh.mono HBg.out.size))
  have HCh := Lib.hid (HCg.out.trans (hBh.mono HCg.out.size))
  have HGh := Lib.hid (HGg.out.kept hBh)
  have HRh := Lib.hid (HRg.out.kept hBh)
  clear hoh hBh p0 p1 p2 p3
  go_wp2_with fail
  refine (HIV.out _ _ HVh.out).mono ?_
  rintro e wi ⟨fi, ni, Ui, rfl, hoi, hBi⟩
  have HBi := Lib.hid (HBh.out.trans (hBi.mono HBh.out.size))
  have HCi := Lib.hid (HCh.out.trans (hBi.mono HCh.out.size))
  have HGi := Lib.hid (HGh.out.kept hBi)
  have HRi := Lib.hid (HRh.out.kept hBi)
  have HHi := Lib.hid hoi
  obtain ⟨Afi, cfi, rfl⟩ := own_slice hoi.fin
  obtain ⟨Ani, cni, rfl⟩ := own_slice hoi.nx.outer
  clear hoi hBi
  have hbi := (Below.refl _ wi).alloc (Nat.le_refl _) (.cells #[.int .i64 r.st, .int .i64 r.go, .slice Afi r.fin.length cfi, .slice Ani Ui.length cni] 39)
  have HBj := Lib.hid (HBi.out.trans (hbi.mono HBi.out.size))
  have HCj := Lib.hid (HCi.out.trans (hbi.mono HCi.out.size))
  have HGj := Lib.hid (HGi.out.kept hbi)
  have HRj := Lib.hid (HRi.out.kept hbi)
  have HHj := Lib.hid (HHi.out.kept hbi)
  have HWj := Lib.hid (HWK.out _ HCj.out)
  have hwlt : Wb < wi.heap.size := (HWK.out _ HCi.out).lt
  have hrlt : Gb < wi.heap.size := HRi.out.lt
  clear hbi
  obtain ⟨⟨t0, t1, t2, t3⟩, _⟩ := blk4_cells (HWK.out _ HCi.out)
  go_wp2_with fail
  refine (HEQ.out _ _ _ HHj.out.isAu (HYK.out _ HCj.out)).mono ?_
  rintro e wk ⟨rfl, hBk⟩
  have HBk := Lib.hid (HBj.out.trans (hBk.mono HBj.out.size))
  have HCk := Lib.hid (HCj.out.trans (hBk.mono HCj.out.size))
  have HGk := Lib.hid (HGj.out.kept hBk)
  have HRk := Lib.hid (HRj.out.kept hBk)
  clear hBk t0 t1 t2 t3 hwlt hrlt
  obtain ⟨⟨g0, g1, g2, g3⟩, _⟩ := blk4_cells HRk.out
  go_wp2_with fail
  refine (HHR.out _ _ _ _ _ HGk.out).mono ?_
  rintro e wl ⟨rfl, hBl⟩
  have HBl := Lib.hid (HBk.out.trans (hBl.mono HBk.out.size))
  clear hBl g0 g1 g2 g3
  go_wp2_with fail
  go_ret
  exact ⟨rfl, HBl.out⟩
end Go.Proofs.Ytddjcgaejjldbaa.fnExactNotAuto
