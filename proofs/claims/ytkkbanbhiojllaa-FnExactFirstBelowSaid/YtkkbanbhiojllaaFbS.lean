/-
  Walk: spec.FirstBelow.
-/
import Derived.Test.YtkkbanbhiojllaaClO
import Derived.Test.YtkkbanbhiojllaaTaQ
namespace Go.Proofs.Ytkkbanbhiojllaa
open Go.RowKit
open Wd
set_option linter.unusedVariables false
namespace Wd
/-- how many letters stand ahead of the one that goes below, from a rule down -/
def fbF (ws : List Int) (gs : List Rl) (B : Int) : Nat → Nat → Int → Int
  | 0, _, _ => 0
  | f + 1, k, h => match gs[k]? with
    | some x => if x.L.size = 0 then (if h + (clAt ws gs x.l.toNat).getD 1 0 < B then fbF ws gs B f x.l.toNat h else (lens gs).getD x.l.toNat 0 + fbF ws gs B f x.r.toNat (h + (clAt ws gs x.l.toNat).getD 0 0)) else 0
    | none => 0
theorem fb_letter {ws : List Int} {gs : List Rl} {B : Int} {f k : Nat} {h : Int} (hk : k < gs.length) (h0 : gs[k].L.size ≠ 0) : fbF ws gs B (f + 1) k h = 0 := by
  rw [fbF, List.getElem?_eq_getElem hk]
  simp only [h0, if_false]
theorem fb_left {ws : List Int} {gs : List Rl} {B : Int} {f k a : Nat} {h : Int} (hk : k < gs.length) (h0 : gs[k].L.size = 0) (ha : gs[k].l = a) (hl : h + (clAt ws gs a).getD 1 0 < B) : fbF ws gs B (f + 1) k h = fbF ws gs B f a h := by
  rw [fbF, List.getElem?_eq_getElem hk]
  simp only [h0, if_true, ha, Int.toNat_natCast, hl]
theorem fb_right {ws : List Int} {gs : List Rl} {B : Int} {f k a b : Nat} {h : Int} (hk : k < gs.length) (h0 : gs[k].L.size = 0) (ha : gs[k].l = a) (hb : gs[k].r = b) (hl : ¬ h + (clAt ws gs a).getD 1 0 < B) : fbF ws gs B (f + 1) k h = (lens gs).getD a 0 + fbF ws gs B f b (h + (clAt ws gs a).getD 0 0) := by
  rw [fbF, List.getElem?_eq_getElem hk]
  simp only [h0, if_true, ha, hb, Int.toNat_natCast, hl, if_false]
/-- the first place below a bound, and the code -/
def belowG (gs : List Rl) (zs : List Int) (B : Int) : Int × Int :=
  if (gOk gs && wOkB zs) = true then (if 0 < B then (0, 0) else if B ≤ (clWh zs gs).getD 1 0 then (0, 6) else (fbF zs gs B gs.length (gs.length - 1) 0 + 1, 0)) else (0, wCode (gOk gs) (wOkB zs))
end Wd
/-- lengths and climbs that the specification reads -/
structure SpC (w : World) (pg : Nat) (lv yv : Value) (ws : List Int) (gs : List Rl) : Prop where
  g : GP w pg gs
  l : ∃ B, w.ownsRow B 2 1 lv gs.length (iv (lens gs))
  y : ∃ B, w.ownsRow B 28 3 yv gs.length (iv (flV (clAt ws gs) gs.length))
theorem SpC.kept {w w' : World} {pg : Nat} {lv yv : Value} {ws : List Int} {gs : List Rl} (h : SpC w pg lv yv ws gs) (hb : Below w.heap.size w w') : SpC w' pg lv yv ws gs := by
  obtain ⟨h1, ⟨B, h2⟩, B', h3⟩ := h
  exact ⟨h1.kept hb, ⟨B, own_below h2 hb (Nat.le_refl _)⟩, B', own_below h3 hb (Nat.le_refl _)⟩
/-- what is read at a rule -/
theorem SpC.at_ {w : World} {pg : Nat} {A1 A2 A3 : Option Addr} {c1 c2 c3 : Nat} {ws : List Int} {gs : List Rl} (h : SpC w pg (.slice A1 gs.length c1) (.slice A2 gs.length c2) ws gs) (h3 : w.cell? ⟨pg, 0, none⟩ = some (.slice A3 gs.length c3)) (hwo : wOk ws) (hok : gOk gs = true) {k : Nat} (hk : k < gs.length) :
    ∃ L g y, A1 = some ⟨L, 0, none⟩ ∧ A2 = some ⟨y, 0, none⟩ ∧ A3 = some ⟨g, 0, none⟩ ∧
      w.cell? ⟨g, k * 3, none⟩ = some (.string gs[k].L) ∧ w.cell? ⟨g, k * 3 + 1, none⟩ = some (.int .i64 gs[k].l) ∧ w.cell? ⟨g, k * 3 + 2, none⟩ = some (.int .i64 gs[k].r) ∧
      w.cell? ⟨L, k, none⟩ = some (.int .i64 ((lens gs).getD k 0)) ∧ w.cell? ⟨y, k * 3, none⟩ = some (.int .i64 ((clAt ws gs k).getD 0 0)) ∧ w.cell? ⟨y, k * 3 + 1, none⟩ = some (.int .i64 ((clAt ws gs k).getD 1 0)) := by
  obtain ⟨⟨v, hv, hr⟩, ⟨B, h1⟩, B', h2⟩ := h
  rw [h3] at hv
  injection hv with hv
  subst hv
  obtain ⟨A, c, he, hrr⟩ := hr
  injection he with hA _ hc
  subst hA hc
  rcases hrr with h0 | ⟨g, rfl, hg, hcc⟩
  · rw [h0] at hk; simp at hk
  obtain ⟨a0, a1, a2⟩ := rules_cells hcc hk
  obtain ⟨L, rfl, _⟩ := own_addr h1 (by omega)
  obtain ⟨y, rfl, _⟩ := own_addr h2 (by omega)
  obtain ⟨x0, x1, _⟩ := clSt_cells (fun i hi => (clAt_ok hwo hok hi).1) h2 hk
  refine ⟨L, g, y, rfl, rfl, rfl, a0, a1, a2, ?_, x0, x1⟩
  rw [h1.cellAt k (by omega)]; exact iv_at (by rw [lens_len]; exact hk)
/-- between two rules on the way down -/
def FbSt (ws : List Int) (gs : List Rl) (w : World) (B R : Int) (rv hv nv : Value) (wr : World) : Prop :=
  ∃ (f k : Nat) (h n : Int), hv = .int .i64 h ∧ nv = .int .i64 n ∧ rv = .int .i64 k ∧ k < f ∧ k < gs.length ∧ 0 ≤ n ∧ n + (lens gs).getD k 0 ≤ 1000000000000000 ∧ -9 * n ≤ h ∧ h ≤ 9 * n ∧ n + fbF ws gs B f k h = R ∧ Below w.heap.size w wr
set_option maxRecDepth 100000 in
set_option maxHeartbeats 6400000 in
theorem specFirstBelow (v wv : Value) (gs : List Rl) (zs : List Int) (B : Int) (w : World) (hf : FewR gs) (hr : Rules w v gs) (hm : zs.length ≤ 1048576) (hz : IW w wv zs) (hn : -9223372036854775808 ≤ B ∧ B ≤ 9223372036854775807) :
    Calls Try.prog 23 #[.agg #[v], wv, .int .i64 B] w fun e w' => e = .returned (.tuple #[.int .i64 (belowG gs zs B).1, .int .i64 (belowG gs zs B).2]) ∧ Below w.heap.size w w' := by
  have hg := rules_gpT hr 33
  have hb := (Below.refl _ w).alloc (Nat.le_refl _) (.cells #[v] 33)
  have h1 := l05Weights_any w.heap.size wv zs gs _ hf hg hm (hz.kept hb)
  have H1 := Lib.hid h1
  have HB := Lib.hid hb
  have HG := Lib.hid hg
  have HZK := Lib.hid (fun W (hb : Below w.heap.size w W) => hz.kept hb)
  obtain ⟨A, c, rfl, _⟩ := hr
  unfold belowG
  cases hk : gOk gs && wOkB zs
  · rw [if_neg (by simp)]
    obtain ⟨cd, hcd⟩ : ∃ cd : Int, cd = wCode (gOk gs) (wOkB zs) := ⟨_, rfl⟩
    have hne : (cd != 0) = true := by rw [hcd]; unfold wCode; rw [hk]; cases gOk gs <;> rfl
    rw [← hcd]
    rw [← hcd] at H1
    clear hb h1 hz hk hcd hg
    go_enter Try.func23, Try.ntmps23
    go_wp2_with fail
    refine H1.out.mono ?_
    rintro e w1 ⟨rfl, hB1⟩
    have HB1 := Lib.hid (HB.out.trans (hB1.mono (by simp)))
    clear hB1
    go_wp2_with fail
    go_ret2
    exact ⟨rfl, HB1.out⟩
  · rw [if_pos rfl]
    have hcd : wCode (gOk gs) (wOkB zs) = 0 := by unfold wCode; rw [hk]; rfl
    rw [hcd] at H1
    obtain ⟨hok, hwb⟩ : gOk gs = true ∧ wOkB zs = true := by simpa using hk
    have hwo := wOkB_ok hwb
    have hn400 := gOk_len hok
    by_cases hpos : 0 < B
    · rw [if_pos hpos]
      clear hb h1 hz hk hcd hg hok hwb hwo
      go_enter Try.func23, Try.ntmps23
      go_wp2_with fail
      refine H1.out.mono ?_
      rintro e w1 ⟨rfl, hB1⟩
      have HB1 := Lib.hid (HB.out.trans (hB1.mono (by simp)))
      clear hB1
      go_wp2_with fail
      go_ret2
      exact ⟨rfl, HB1.out⟩
    · rw [if_neg hpos]
      have HCS := Lib.hid (fun W (hg : GP W w.heap.size gs) (hw : IW W wv zs) => l05Climbs_any w.heap.size wv zs gs W hok hwo hg hw)
      have HLS := Lib.hid (fun W (hW : GP W w.heap.size gs) => lengths_any w.heap.size gs W hf hW)
      have HOK := Lib.hid hok
      have HWO := Lib.hid hwo
      obtain ⟨N, hN⟩ : ∃ N, gs.length = N := ⟨_, rfl⟩
      have HN := Lib.hid hN
      have hsub : IntKind.i64.wrap ((N : Int) - 1) = (N : Int) - 1 := by rw [IntKind.wrap_i64]; omega
      by_cases h0 : N = 0
      · have hw0 : clWh zs gs = [0, 0, 0] := by unfold clWh; rw [if_pos (by omega)]
        rw [hw0, if_pos (show B ≤ [(0 : Int), 0, 0].getD 1 0 from by show B ≤ 0; omega)]
        subst h0
        have hd : decide (((0 : Nat) : Int) - 1 < 0) = true := by decide
        clear hb h1 hz hk hcd hg hok hwb hwo hw0 hN hn400
        go_enter Try.func23, Try.ntmps23
        go_wp2_with fail
        refine H1.out.mono ?_
        rintro e w1 ⟨rfl, hB1⟩
        have HB1 := Lib.hid (HB.out.trans (hB1.mono (by simp)))
        have HG1 := Lib.hid (HG.out.kept hB1)
        clear hB1
        go_wp2_with fail
        refine (HCS.out _ HG1.out (HZK.out _ HB1.out)).mono ?_
        rintro e w2 ⟨y, rfl, hown, hB2⟩
        have HB2 := Lib.hid (HB1.out.trans (Below.mono hB2 HB1.out.size))
        have HG2 := Lib.hid (HG1.out.kept hB2)
        obtain ⟨gv, hgv, A3, c3, rfl, _⟩ := HG2.out
        rw [HN.out] at hgv
        clear hown hB2
        go_wp2_with fail
        go_ret2
        exact ⟨rfl, HB2.out⟩
      · obtain ⟨m, hmN⟩ : ∃ m, N = m + 1 := ⟨N - 1, by omega⟩
        have hwm : clWh zs gs = clAt zs gs m := by unfold clWh; rw [if_neg (by omega), show gs.length - 1 = m from by omega]
        have hsub2 : IntKind.i64.wrap ((N : Int) - 1) = (m : Int) := by rw [IntKind.wrap_i64]; omega
        have m0 : (0 : Int) ≤ (m : Int) := by omega
        have m1 : (m : Int) < (N : Int) := by omega
        have hnd : decide ((m : Int) < 0) = false := decide_eq_false (by omega)
        have hN1 : 0 < N := by omega
        have hwl := small_at (gOk_iff.1 hok).2.2 (gs.length - 1) (by omega)
        rw [hwm]
        by_cases hlow : B ≤ (clAt zs gs m).getD 1 0
        · rw [if_pos hlow]
          have HMN : Hid (m < gs.length) := Lib.hid (by omega)
          clear hb h1 hz hk hcd hg hok hwb hwo hwm hN hn400 hsub hmN h0 hwl
          go_enter Try.func23, Try.ntmps23
          go_wp2_with fail
          refine H1.out.mono ?_
          rintro e w1 ⟨rfl, hB1⟩
          have HB1 := Lib.hid (HB.out.trans (hB1.mono (by simp)))
          have HG1 := Lib.hid (HG.out.kept hB1)
          clear hB1
          go_wp2_with fail
          refine (HCS.out _ HG1.out (HZK.out _ HB1.out)).mono ?_
          rintro e w2 ⟨y, rfl, hown, hB2⟩
          have HB2 := Lib.hid (HB1.out.trans (Below.mono hB2 HB1.out.size))
          have HG2 := Lib.hid (HG1.out.kept hB2)
          obtain ⟨gv, hgv, A3, c3, rfl, _⟩ := HG2.out
          obtain ⟨Ay, cy, rfl⟩ := own_slice hown
          obtain ⟨gy, rfl, _, _⟩ := own_addr hown (by rw [HN.out]; exact hN1)
          obtain ⟨x0, x1, _⟩ := clSt_cells (fun i hi => (clAt_ok HWO.out HOK.out hi).1) hown HMN.out
          rw [HN.out] at hgv ⊢
          generalize (clAt zs gs m).getD 1 0 = lo at *
          clear hown hB2
          go_wp2_with fail
          go_ret2
          exact ⟨rfl, HB2.out⟩
        · rw [if_neg hlow]
          have HMN : Hid (m < gs.length) := Lib.hid (by omega)
          have HFB : Hid (fbF zs gs B gs.length (gs.length - 1) 0 = fbF zs gs B gs.length m 0) := Lib.hid (by rw [show gs.length - 1 = m from by omega])
          have HWL : Hid (0 + (lens gs).getD m 0 ≤ 1000000000000000) := Lib.hid (by rw [show m = gs.length - 1 from by omega]; omega)
          rw [HFB.out]
          obtain ⟨R, hR⟩ : ∃ R, R = fbF zs gs B gs.length m 0 := ⟨_, rfl⟩
          have HR := Lib.hid hR
          rw [← hR]
          have hN4 : N ≤ 400 := by omega
          clear hb h1 hz hk hcd hg hok hwb hwo hwm hN hn400 hsub hmN h0 hwl hR
          go_enter Try.func23, Try.ntmps23
          go_wp2_with fail
          refine H1.out.mono ?_
          rintro e w1 ⟨rfl, hB1⟩
          have HB1 := Lib.hid (HB.out.trans (hB1.mono (by simp)))
          have HG1 := Lib.hid (HG.out.kept hB1)
          clear hB1
          go_wp2_with fail
          refine (HCS.out _ HG1.out (HZK.out _ HB1.out)).mono ?_
          rintro e w2 ⟨y, rfl, hown, hB2⟩
          have HB2 := Lib.hid (HB1.out.trans (Below.mono hB2 HB1.out.size))
          have HG2 := Lib.hid (HG1.out.kept hB2)
          have HY2 := Lib.hid hown
          obtain ⟨gv, hgv, A3, c3, rfl, _⟩ := HG2.out
          obtain ⟨Ay, cy, rfl⟩ := own_slice hown
          obtain ⟨gy, rfl, _, _⟩ := own_addr hown (by rw [HN.out]; exact hN1)
          obtain ⟨x0, x1, _⟩ := clSt_cells (fun i hi => (clAt_ok HWO.out HOK.out hi).1) hown HMN.out
          rw [HN.out] at hgv ⊢
          generalize (clAt zs gs m).getD 1 0 = lo at *
          clear hown hB2
          go_wp2_with fail
          refine (HLS.out _ HG2.out).mono ?_
          rintro e w5 ⟨x, rfl, ho5, hB5⟩
          have ho5 := ho5 HOK.out
          have HB5 := Lib.hid (HB2.out.trans (hB5.mono HB2.out.size))
          have HO5 : Hid (w5.ownsRow w2.heap.size 2 1 x gs.length (iv (lens gs))) := Lib.hid (by unfold OwnsI at ho5; rw [lens_len] at ho5; exact ho5)
          have HSP := Lib.hid (SpC.mk (HG2.out.kept hB5) ⟨_, HO5.out⟩ ⟨_, own_below HY2.out hB5 (Nat.le_refl _)⟩)
          have HG5 := Lib.hid ((hB5.cell (lt_of_cell hgv)).trans hgv)
          obtain ⟨Ax, cx, rfl⟩ := own_slice HO5.out
          rw [HN.out]
          clear hB5 ho5 hgv x0 x1
          go_wp2_with fail
          go_loopw [10, 13, 14, 15] (fun rv hv nv _ wr => FbSt zs gs w5 B R rv hv nv wr) (fun rv _ _ _ _ => (intOf rv).toNat)
          case atStart => exact ⟨gs.length, m, 0, 0, rfl, rfl, rfl, HMN.out, HMN.out, Int.le_refl _, HWL.out, by omega, by omega, by rw [HR.out]; omega, Below.refl _ _⟩
          case round =>
            obtain ⟨f, k, h, n, rfl, rfl, rfl, hkf, hk, hn0, hnk, hh1, hh2, hR, hB⟩ := hrel
            obtain ⟨wo, rfl⟩ : ∃ wo : World, wo = wr := ⟨_, rfl⟩
            have hsp := HSP.out.kept hB
            have hg := (hB.cell (lt_of_cell HG5.out)).trans HG5.out
            rw [← HN.out] at hg
            obtain ⟨L, g, y, rfl, hyy, rfl, r0, r1, r2, e0, y0, y1⟩ := hsp.at_ hg HWO.out HOK.out hk
            injection hyy with hyy
            injection hyy with hyy
            subst hyy
            rw [HN.out] at hg
            obtain ⟨f', rfl⟩ : ∃ f', f = f' + 1 := ⟨f - 1, by omega⟩
            have hBw := HB5.out.trans (hB.mono HB5.out.size)
            have HBW := Lib.hid hBw
            have k0 : (0 : Int) ≤ (k : Int) := by omega
            have k1 : (k : Int) < (N : Int) := by have := HN.out; omega
            by_cases h0 : gs[k].L.size = 0
            · obtain ⟨a, b, ha, hb, hak, hbk, hs2, p1, p3, p2, p4⟩ := pair_parts HOK.out hk h0
              obtain ⟨_, g', y', hL', hy', hg', _, _, _, ea, ya0, ya1⟩ := hsp.at_ (by rw [← HN.out] at hg; exact hg) HWO.out HOK.out (show a < gs.length by omega)
              injection hL' with hL'
              injection hL' with hL'
              subst hL'
              injection hy' with hy'
              injection hy' with hy'
              subst hy'
              injection hg' with hg'
              injection hg' with hg'
              subst hg'
              obtain ⟨_, ⟨ca1, ca2⟩, ⟨ca3, ca4⟩, _⟩ := clAt_ok HWO.out HOK.out (show a < gs.length by omega)
              have lL : L < wo.heap.size := lt_of_cell e0
              have ly : gy < wo.heap.size := lt_of_cell y0
              have lp : w.heap.size < wo.heap.size := lt_of_cell hg
              have lg : g < wo.heap.size := lt_of_cell r0
              have HW2 : Hid (∀ o, Below w5.heap.size w5 (wo.alloc o)) := Lib.hid (fun o => hB.alloc hB.size o)
              have hr0 := empty_arr h0
              by_cases h3 : h + (clAt zs gs a).getD 1 0 < B
              · rw [fb_left hk h0 ha h3] at hR
                have HREL : Hid (∀ o, FbSt zs gs w5 B R (.int .i64 (a : Int)) (.int .i64 h) (.int .i64 n) (wo.alloc o)) := Lib.hid (fun o => ⟨f', a, _, _, rfl, rfl, rfl, by omega, by omega, by omega, by omega, by omega, by omega, hR, HW2.out o⟩)
                rw [ha] at r1
                rw [hb] at r2
                rw [hr0] at r0
                generalize (clAt zs gs a).getD 1 0 = z at *
                generalize (clAt zs gs a).getD 0 0 = z0 at *
                generalize (lens gs).getD a 0 = la at *
                have a0' : (0 : Int) ≤ (a : Int) := by omega
                have a1' : (a : Int) < (N : Int) := by omega
                have hw : IntKind.i64.wrap (h + z) = h + z := by rw [IntKind.wrap_i64]; omega
                clear hR hsp hB hs2 ha hb h0 y0 y1 hr0 hBw
                go_wp2_with fail
                go_roundw
                all_goals first | exact HREL.out _ | ((repeat apply Exists.intro); exact ⟨HREL.out _, rfl⟩) | (simp [intOf]; done) | (simp [intOf]; omega) | omega
              · rw [fb_right hk h0 ha hb h3] at hR
                have HREL : Hid (∀ o, FbSt zs gs w5 B R (.int .i64 (b : Int)) (.int .i64 (h + (clAt zs gs a).getD 0 0)) (.int .i64 (n + (lens gs).getD a 0)) (wo.alloc o)) := Lib.hid (fun o => ⟨f', b, _, _, rfl, rfl, rfl, by omega, by omega, by omega, by omega, by omega, by omega, by omega, HW2.out o⟩)
                rw [ha] at r1
                rw [hb] at r2
                rw [hr0] at r0
                generalize (clAt zs gs a).getD 1 0 = z at *
                generalize (clAt zs gs a).getD 0 0 = z0 at *
                generalize (lens gs).getD a 0 = la at *
                generalize (lens gs).getD k 0 = lk at *
                have a0' : (0 : Int) ≤ (a : Int) := by omega
                have a1' : (a : Int) < (N : Int) := by omega
                have hw : IntKind.i64.wrap (h + z) = h + z := by rw [IntKind.wrap_i64]; omega
                have hw0 : IntKind.i64.wrap (h + z0) = h + z0 := by rw [IntKind.wrap_i64]; omega
                have hwn : IntKind.i64.wrap (n + la) = n + la := by rw [IntKind.wrap_i64]; omega
                clear hR hsp hB hs2 ha hb h0 y0 y1 hr0 hBw
                go_wp2_with fail
                go_roundw
                all_goals first | exact HREL.out _ | ((repeat apply Exists.intro); exact ⟨HREL.out _, rfl⟩) | (simp [intOf]; done) | (simp [intOf]; omega) | omega
            · rw [fb_letter hk h0] at hR
              have hnR : n = R := by omega
              have hn15 : n ≤ 1000000000000000 := by
                have := lens_pos hk fun q hq _ => fits_at (gOk_iff.1 HOK.out).2.1 q hq
                omega
              have HNR := Lib.hid hnR
              have he := full_list h0
              have hwn : IntKind.i64.wrap (n + 1) = n + 1 := by rw [IntKind.wrap_i64]; omega
              generalize gs[k] = Rk at *
              clear hR hsp hB h0 hnR hBw
              go_wp2_with fail
              go_ret2
              exact ⟨by rw [HNR.out]; rfl, HBW.out⟩
end Go.Proofs.Ytkkbanbhiojllaa
