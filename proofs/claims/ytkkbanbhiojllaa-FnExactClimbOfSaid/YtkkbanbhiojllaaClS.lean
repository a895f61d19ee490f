/-
  Walks: spec.l04Letter at a letter's byte, l00Min, l00Max, l05Climbs.
-/
import Derived.Test.YtkkbanbhiojllaaClC
import Derived.Test.YtkkbanbhiojllaaLetN
namespace Go.Proofs.Ytkkbanbhiojllaa
open Go.RowKit
open Wd
set_option linter.unusedVariables false
theorem sLetC_any (c : UInt8) (h1 : 97 ≤ (c.toNat : Int)) (h2 : (c.toNat : Int) ≤ 100) (W : World) :
    Calls Try.prog 51 #[.int .u8 ((((⟨#[c]⟩ : ByteArray)[0]'(Nat.zero_lt_one)).toNat : Nat) : Int)] W fun e w' => e = .returned (.int .i64 ((c.toNat - 97 : Nat) : Int)) ∧ w' = W := by
  show Calls Try.prog 51 #[.int .u8 ((c.toNat : Nat) : Int)] W _
  have := letterN_any (c.toNat - 97) (by omega) W
  rwa [show 97 + (c.toNat - 97) = c.toNat from by omega] at this
theorem smin_any (a b : Int) (w : World) : Calls Try.prog 97 #[.int .i64 a, .int .i64 b] w fun e w' => e = .returned (.int .i64 (min a b)) ∧ w' = w := by
  by_cases h : a < b
  · go_enter Try.func97, Try.ntmps97
    go_wp2
    go_ret
    exact ⟨ret_int (by omega), rfl⟩
  · have h' : decide (a < b) = false := decide_eq_false h
    go_enter Try.func97, Try.ntmps97
    go_wp2
    go_ret
    exact ⟨ret_int (by omega), rfl⟩
theorem smax_any (a b : Int) (w : World) : Calls Try.prog 98 #[.int .i64 a, .int .i64 b] w fun e w' => e = .returned (.int .i64 (max a b)) ∧ w' = w := by
  by_cases h : b < a
  · go_enter Try.func98, Try.ntmps98
    go_wp2
    go_ret
    exact ⟨ret_int (by omega), rfl⟩
  · have h' : decide (b < a) = false := decide_eq_false h
    go_enter Try.func98, Try.ntmps98
    go_wp2
    go_ret
    exact ⟨ret_int (by omega), rfl⟩
theorem grown_undrew' {w w' : World} {row : Option Nat} (h : w.drew.grownBy w' row) : w.grownBy w' row := ⟨h.os, h.tape, h.output, h.size, h.block⟩
/-- between two rules -/
def CsSt (ws : List Int) (gs : List Rl) (w : World) (k : Nat) (y : Value) (wr : World) : Prop :=
  wr.ownsRow w.heap.size 28 3 y k (iv (flV (clAt ws gs) k)) ∧ Below w.heap.size w wr
theorem csSt_next {ws : List Int} {gs : List Rl} {w wr w5 w6 : World} {k : Nat} {y v' : Value} {x0 x1 x2 : Int} {o : Obj} (hst : CsSt ws gs w k y wr) (hb : Below wr.heap.size wr w5) (hv : clAt ws gs k = [x0, x1, x2])
    (hown : w6.ownsRow w.heap.size 28 3 v' (k + 1) (iv (flV (clAt ws gs) k) ++ [.int .i64 x0, .int .i64 x1, .int .i64 x2])) (hg : (w5.alloc o).grownBy w6 y.ownBlock) : CsSt ws gs w (k + 1) v' w6 := by
  obtain ⟨h1, h2⟩ := hst
  have hB := h2.trans (hb.mono h2.size)
  refine ⟨?_, (hB.alloc hB.size o).grown hg (by have := hB.size; simp; omega) (fun q hq => (h1.lt q hq).1)⟩
  rw [flV_succ, iv_app, hv]
  exact hown
set_option maxRecDepth 100000 in
set_option maxHeartbeats 12800000 in
theorem l05Climbs_any (pg : Nat) (wv : Value) (ws : List Int) (gs : List Rl) (w : World) (hok : gOk gs = true) (hwo : wOk ws) (hg : GP w pg gs) (hw : IW w wv ws) :
    Calls Try.prog 55 #[.pointer (some ⟨pg, 0, none⟩), wv] w fun e w' => ∃ y, e = .returned y ∧ CsSt ws gs w gs.length y w' := by
  obtain ⟨i0, hi, hz0, hz1, hz2⟩ := info_parts info_cl
  have hn := gOk_len hok
  obtain ⟨gv, hgv, hR⟩ := hg
  obtain ⟨Av, cv, rfl, hrc⟩ := hR
  obtain ⟨Aw, cw, rfl, hw0 | ⟨gw, rfl, hwc⟩⟩ := hw
  · have := hwo.1; rw [hw0] at this; simp at this
  have HWC : Hid (∀ d, d < 4 → w.cell? ⟨gw, d, none⟩ = some (.int .i64 (ws.getD d 0))) := Lib.hid (fun d hd => by
    have h4 := hwo.1
    rw [hwc d (by omega), List.getD_eq_getElem?_getD, List.getElem?_eq_getElem (by omega)]; rfl)
  have HRC := Lib.hid hrc
  have HGV := Lib.hid hgv
  have HOK := Lib.hid hok
  have HWO := Lib.hid hwo
  have HFIT := Lib.hid (gOk_iff.1 hok).2.1
  rw [hwo.1]
  obtain ⟨n, hne⟩ : ∃ n, n = gs.length := ⟨_, rfl⟩
  rw [← hne]
  rw [← hne] at hn hgv
  have HNE := Lib.hid hne
  have HS : Hid (CsSt ws gs w 0 (.slice (some ⟨w.heap.size, 0, none⟩) 0 0) (w.alloc (.cells #[] 28))) := Lib.hid ⟨World.ownsRow_lit (base := w.heap.size) (e := 28) (size := 3) w #[] 0 (Nat.le_refl _) (by decide) rfl, (Below.refl _ w).alloc (Nat.le_refl _) _⟩
  clear hrc hok hne hwo hwc
  go_enter Try.func55, Try.ntmps55
  go_wp2_with fail
  go_loopw [5, 6, 7, 8, 9, 10] (fun y i _ _ _ _ wr => ∃ k : Nat, k ≤ n ∧ i = .int .i64 k ∧ CsSt ws gs w k y wr) (fun _ i _ _ _ _ _ => n - (intOf i).toNat)
  case atStart => exact ⟨0, Nat.zero_le _, rfl, HS.out⟩
  case round =>
    obtain ⟨k, hk, rfl, hst⟩ := hrel
    obtain ⟨wo, rfl⟩ : ∃ wo : World, wo = wr := ⟨_, rfl⟩
    have HST := Lib.hid hst
    obtain ⟨hown, hB⟩ := hst
    obtain ⟨Ay, cy, rfl⟩ := own_slice hown
    have hgo := (hB.cell (lt_of_cell HGV.out)).trans HGV.out
    rw [← HNE.out] at hgo
    clear hgv
    by_cases hkn : k < n
    · have hkg : k < gs.length := by rw [← HNE.out]; exact hkn
      rcases HRC.out with hn0 | ⟨g, rfl, hg, hc⟩
      · rw [hn0] at hkg; simp at hkg
      obtain ⟨a0, a1, a2⟩ := rules_cells hc hkg
      rw [← hB.cell (p := ⟨g, k * 3, none⟩) hg] at a0
      rw [← hB.cell (p := ⟨g, k * 3 + 1, none⟩) hg] at a1
      rw [← hB.cell (p := ⟨g, k * 3 + 2, none⟩) hg] at a2
      have hfk := fits_at HFIT.out k hkg
      have k0 : (0 : Int) ≤ (k : Int) := by omega
      have k1 : (k : Int) < (n : Int) := by omega
      have hws := hB.size
      have HOW := Lib.hid hown
      by_cases h0 : gs[k].L.size = 0
      · obtain ⟨a, b, ha, hb, hak, hbk, _⟩ := pair_parts HOK.out hkg h0
        have he := empty_arr h0
        have hva := clAt_ok HWO.out HOK.out (k := a) (by omega)
        have hvb := clAt_ok HWO.out HOK.out (k := b) (by omega)
        have hla := small_at (gOk_iff.1 HOK.out).2.2 a (by omega)
        have hlb := small_at (gOk_iff.1 HOK.out).2.2 b (by omega)
        have hvk : clAt ws gs k = [(clAt ws gs a).getD 0 0 + (clAt ws gs b).getD 0 0, min ((clAt ws gs a).getD 1 0) ((clAt ws gs a).getD 0 0 + (clAt ws gs b).getD 1 0), max ((clAt ws gs a).getD 2 0) ((clAt ws gs a).getD 0 0 + (clAt ws gs b).getD 2 0)] := (valAt_pair HFIT.out hkg h0 ha hb hak hbk).trans rfl
        have hxa := hva.2.1
        have hxb := hvb.2
        have hx0 : -10000000000000000 ≤ (clAt ws gs a).getD 0 0 ∧ (clAt ws gs a).getD 0 0 ≤ 10000000000000000 := by omega
        have hy0 : -10000000000000000 ≤ (clAt ws gs b).getD 0 0 ∧ (clAt ws gs b).getD 0 0 ≤ 10000000000000000 := by omega
        have hy1 : -10000000000000000 ≤ (clAt ws gs b).getD 1 0 ∧ (clAt ws gs b).getD 1 0 ≤ 10000000000000000 := by omega
        have hy2 : -10000000000000000 ≤ (clAt ws gs b).getD 2 0 ∧ (clAt ws gs b).getD 2 0 ≤ 10000000000000000 := by omega
        obtain ⟨gy, rfl, _, hgl⟩ := own_addr hown (show 0 < k by omega)
        have hl3 : ∀ i, i < k → (clAt ws gs i).length = 3 := fun i hi => (clAt_ok HWO.out HOK.out (k := i) (by omega)).1
        obtain ⟨xa0, xa1, xa2⟩ := clSt_cells hl3 hown hak
        obtain ⟨xb0, xb1, xb2⟩ := clSt_cells hl3 hown hbk
        generalize (clAt ws gs a).getD 0 0 = x0 at *
        generalize (clAt ws gs a).getD 1 0 = x1 at *
        generalize (clAt ws gs a).getD 2 0 = x2 at *
        generalize (clAt ws gs b).getD 0 0 = y0 at *
        generalize (clAt ws gs b).getD 1 0 = y1 at *
        generalize (clAt ws gs b).getD 2 0 = y2 at *
        have HMI := Lib.hid (fun W => smin_any x1 (x0 + y1) W)
        have HMA := Lib.hid (fun W => smax_any x2 (x0 + y2) W)
        have HVK := Lib.hid hvk
        obtain ⟨hx0a, hx0b⟩ := hx0
        obtain ⟨hy0a, hy0b⟩ := hy0
        obtain ⟨hy1a, hy1b⟩ := hy1
        obtain ⟨hy2a, hy2b⟩ := hy2
        generalize gs[k] = Rk at *
        obtain ⟨L, l, r⟩ := Rk
        simp only at ha hb he a0 a1 a2
        subst ha hb he
        have a0' : (0 : Int) ≤ (a : Int) := by omega
        have a1' : (a : Int) < (k : Int) := by omega
        have b0' : (0 : Int) ≤ (b : Int) := by omega
        have b1' : (b : Int) < (k : Int) := by omega
        have hb1 := (Below.refl _ wo).alloc (Nat.le_refl _) (.cells #[.string ⟨#[]⟩, .int .i64 a, .int .i64 b] 81)
        have hb2 := hb1.alloc (by simp) (.cells #[.int .i64 x0, .int .i64 x1, .int .i64 x2] 28)
        have hb3 := hb2.alloc (by simp; omega) (.cells #[.int .i64 y0, .int .i64 y1, .int .i64 y2] 28)
        obtain ⟨_, hKA, hKB, _, hs3⟩ := al3 wo (.cells #[.string ⟨#[]⟩, .int .i64 a, .int .i64 b] 81) (.cells #[.int .i64 x0, .int .i64 x1, .int .i64 x2] 28) (.cells #[.int .i64 y0, .int .i64 y1, .int .i64 y2] 28)
        have HB3 := Lib.hid hb3
        have HKA := Lib.hid hKA
        have HKB := Lib.hid hKB
        have hTB := hown.lt gy rfl
        clear hva hvb hla hlb hvk hxa hxb hfk hc hb1 hb2 hb3 hl3 hown hB h0 hKA hKB
        go_upto_region 11 with fail
        change Code.wp _ _ _ _ (((wo.alloc (.cells #[.string ⟨#[]⟩, .int .i64 a, .int .i64 b] 81)).alloc (.cells #[.int .i64 x0, .int .i64 x1, .int .i64 x2] 28)).alloc (.cells #[.int .i64 y0, .int .i64 y1, .int .i64 y2] 28))
        generalize ((wo.alloc (.cells #[.string ⟨#[]⟩, .int .i64 a, .int .i64 b] 81)).alloc (.cells #[.int .i64 x0, .int .i64 x1, .int .i64 x2] 28)).alloc (.cells #[.int .i64 y0, .int .i64 y1, .int .i64 y2] 28) = w3 at *
        obtain ⟨⟨p0, p1, p2⟩, _⟩ := blk3_cells HKA.out
        obtain ⟨⟨q0, q1, q2⟩, _⟩ := blk3_cells HKB.out
        have HF : Hid (w3.cell? ⟨wo.heap.size + 1, 0, none⟩ = some (.int .i64 x0) ∧ w3.cell? ⟨wo.heap.size + 1, 1, none⟩ = some (.int .i64 x1) ∧ w3.cell? ⟨wo.heap.size + 1, 2, none⟩ = some (.int .i64 x2) ∧ w3.cell? ⟨wo.heap.size + 2, 0, none⟩ = some (.int .i64 y0) ∧ w3.cell? ⟨wo.heap.size + 2, 1, none⟩ = some (.int .i64 y1) ∧ w3.cell? ⟨wo.heap.size + 2, 2, none⟩ = some (.int .i64 y2)) := Lib.hid ⟨p0, p1, p2, q0, q1, q2⟩
        have HO3 := Lib.hid (own_below HOW.out HB3.out (Nat.le_refl _))
        have hw1 : IntKind.i64.wrap (x0 + y0) = x0 + y0 := by rw [IntKind.wrap_i64]; omega
        have hw2 : IntKind.i64.wrap (x0 + y1) = x0 + y1 := by rw [IntKind.wrap_i64]; omega
        have hw3 : IntKind.i64.wrap (x0 + y2) = x0 + y2 := by rw [IntKind.wrap_i64]; omega
        clear xa0 xa1 xa2 xb0 xb1 xb2 a0 a1 a2 hgo
        go_region_held3 (fun w' => w'.cell? ⟨wo.heap.size + 1, 0, none⟩ = some (.int .i64 x0) ∧ w'.cell? ⟨wo.heap.size + 1, 1, none⟩ = some (.int .i64 x1) ∧ w'.cell? ⟨wo.heap.size + 1, 2, none⟩ = some (.int .i64 x2) ∧ w'.cell? ⟨wo.heap.size + 2, 0, none⟩ = some (.int .i64 y0) ∧ w'.cell? ⟨wo.heap.size + 2, 1, none⟩ = some (.int .i64 y1) ∧ w'.cell? ⟨wo.heap.size + 2, 2, none⟩ = some (.int .i64 y2))
          (first | go_keep | exact HS8.out)
          (first
            | (go_at_call 97
               refine (HMI.out _).mono ?_
               rintro e w9 ⟨rfl, rfl⟩)
            | (go_at_call 98
               refine (HMA.out _).mono ?_
               rintro e w9 ⟨rfl, rfl⟩)
            | (refine step_append_lies _ (by rfl) _ _ 65 (by rfl) w.heap.size 28 i0 (ag3c 0 0 0) 3 24 Try.underlying65 hi hz0 hz1 hz2 (by rfl) (by decide) (.slice (some ⟨gy, 0, none⟩) k cy) k (iv (flV (clAt ws gs) k)) (by rfl) ?_ ⟨wo.heap.size + 3, 0, none⟩ 1 1 [.int .i64 (x0 + y0), .int .i64 (min x1 (x0 + y1)), .int .i64 (max x2 (x0 + y2))] (by rfl) (by rfl) ?_ (one3c _ _ _) (by decide) ?_ ?_ ?_ (w3.heap.size + 1) ?_ ?_
               exact own_drewN (World.ownsRow.alloc HO3.out _) 1
               (first | exact hs3 ▸ news3c w3 _ _ _ _ | (have hnw := news3c w3 28 (.int .i64 (x0 + y0)) (.int .i64 (min x1 (x0 + y1))) (.int .i64 (max x2 (x0 + y2))); rw [hs3] at hnw; exact hnw))
               (unfold maxLen; omega)
               omega
               (simp; omega)
               simp
               intro g8 c8 w8 hown' hgrow _ _
               have hG := grown_undrew' hgrow
               have HN8 := Lib.hid (csSt_next HST.out HB3.out HVK.out hown' hG)
               have hkp : ∀ p v, w3.cell? p = some v → p.block ≠ gy → w8.cell? p = some v := fun p v h hne => (World.cell?_of_block (hG.block p.block (by have := lt_of_cell h; simp; omega) (fun e => hne (by injection e)))).trans ((((Below.refl _ w3).alloc (Nat.le_refl _) _).cell (lt_of_cell h)).trans h)
               have HS8 := Lib.hid (And.intro (hkp _ _ HF.out.1 (by simp only; omega)) (And.intro (hkp _ _ HF.out.2.1 (by simp only; omega)) (And.intro (hkp _ _ HF.out.2.2.1 (by simp only; omega)) (And.intro (hkp _ _ HF.out.2.2.2.1 (by simp only; omega)) (And.intro (hkp _ _ HF.out.2.2.2.2.1 (by simp only; omega)) (hkp _ _ HF.out.2.2.2.2.2 (by simp only; omega)))))))
               clear hown' hgrow hG hkp))
        all_goals
          go_wp2_with fail
          go_roundw
          all_goals first | exact ⟨k + 1, by omega, by go_num, HN8.out⟩ | ((repeat apply Exists.intro); exact ⟨⟨k + 1, by omega, by go_num, HN8.out⟩, rfl⟩) | (simp [intOf]; done) | (simp [intOf]; omega) | omega
      · obtain ⟨bt, hL, hb1, hb2, hno⟩ := letter_byte h0 hfk
        have he := full_list h0
        have HL4 := Lib.hid (fun W => sLetC_any bt hb1 hb2 W)
        obtain ⟨d, hd⟩ : ∃ d : Nat, d = bt.toNat - 97 := ⟨_, rfl⟩
        have hd4 : d < 4 := by omega
        have hvk : clAt ws gs k = [ws.getD d 0, min 0 (ws.getD d 0), max 0 (ws.getD d 0)] := by
          rw [hd, ← hno]
          exact valAt_letter hkg h0
        have hwd := (hB.cell (lt_of_cell (HWC.out d hd4))).trans (HWC.out d hd4)
        have lw : gw < wo.heap.size := lt_of_cell hwd
        rw [← hd] at HL4
        have HMI := Lib.hid (fun W => smin_any 0 (ws.getD d 0) W)
        have HMA := Lib.hid (fun W => smax_any 0 (ws.getD d 0) W)
        generalize ws.getD d 0 = x0 at *
        generalize min 0 x0 = x1 at *
        generalize max 0 x0 = x2 at *
        have HVK := Lib.hid hvk
        rw [hL] at a0 he
        have hb1' := (Below.refl _ wo).alloc (Nat.le_refl _) (.cells #[.string ⟨#[bt]⟩, .int .i64 gs[k].l, .int .i64 gs[k].r] 81)
        have HB1 := Lib.hid hb1'
        have HOW1 := Lib.hid (own_below hown hb1' (Nat.le_refl _))
        have d0 : (0 : Int) ≤ (d : Int) := by omega
        have d1 : (d : Int) < 4 := by omega
        generalize gs[k] = Rk at *
        clear hown hB h0 hL hb1 hb2 hno hd hvk hfk hc hb1'
        go_wp2_with fail
        refine (HL4.out _).mono ?_
        rintro e w2 ⟨rfl, rfl⟩
        have hs1 := HB1.out.size
        generalize wo.alloc (.cells #[.string ⟨#[bt]⟩, .int .i64 Rk.l, .int .i64 Rk.r] 81) = w1 at *
        have hwd1 := (HB1.out.cell (p := ⟨gw, d, none⟩) lw).trans hwd
        clear hwd
        go_wp2_with fail
        refine (HMI.out _).mono ?_
        rintro e w3 ⟨rfl, rfl⟩
        go_wp2_with fail
        refine (HMA.out _).mono ?_
        rintro e w4 ⟨rfl, rfl⟩
        go_wp2_with (first | (at_builtin; refine wpList_append_own _ rfl _ _ 65 rfl w.heap.size 28 i0 (ag3c 0 0 0) 3 24 Try.underlying65 hi hz0 hz1 hz2 rfl (by decide) _ _ _ rfl (World.ownsRow.alloc HOW1.out _) ⟨w4.heap.size, 0, none⟩ 1 1 [.int .i64 x0, .int .i64 x1, .int .i64 x2] rfl rfl (news3c _ _ _ _ _) (one3c _ _ _) (by unfold maxLen; omega) (by omega) (by simp; omega) ?_))
        intro v' w6 hown' hgr _
        have HN6 := Lib.hid (csSt_next HST.out HB1.out HVK.out hown' hgr)
        clear hown' hgr
        go_wp2_with fail
        go_roundw
        all_goals first | exact ⟨k + 1, by omega, by go_num, HN6.out⟩ | ((repeat apply Exists.intro); exact ⟨⟨k + 1, by omega, by go_num, HN6.out⟩, rfl⟩) | (simp [intOf]; done) | (simp [intOf]; omega) | omega
    · obtain rfl : k = n := by omega
      clear hown hB
      go_wp2_with fail
      go_ret
      exact ⟨_, rfl, HST.out⟩
end Go.Proofs.Ytkkbanbhiojllaa
