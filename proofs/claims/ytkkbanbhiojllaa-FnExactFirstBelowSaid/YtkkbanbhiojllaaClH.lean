/-
  Walks: shortest of a fold of climbs, with FirstBelow's closure.
-/
import Derived.Test.YtkkbanbhiojllaaFbS
import Derived.Test.YtkkbanbhiojllaaClW
import Derived.BigQuiet
import Derived.Deep.DeepCutAuto
import Derived.StillTailTactics
import Derived.Deep.QuietTactic
namespace Go.Proofs.Ytkkbanbhiojllaa
open Go.RowKit
open Wd
set_option linter.unusedVariables false
/-- FirstBelow's closure: is the low below the bound? -/
abbrev beV (bb : Nat) : Value := .func (.func 58) #[] #[.pointer (some ⟨bb, 0, none⟩)]
set_option maxRecDepth 100000 in
set_option maxHeartbeats 800000 in
theorem below_any (x0 x1 x2 B : Int) (bb : Nat) (b : Bool) (w : World) (c1 : w.cell? ⟨bb, 0, none⟩ = some (.int .i64 B)) (hb : decide (x1 < B) = b) :
    Calls Try.prog 58 #[ag3c x0 x1 x2, .pointer (some ⟨bb, 0, none⟩)] w fun e w' => e = .returned (.bool b) ∧ Below w.heap.size w w' := by
  have HB := Lib.hid hb
  clear hb
  have b1 := (Below.refl _ w).alloc (Nat.le_refl _) (.cells #[.int .i64 x0, .int .i64 x1, .int .i64 x2] 28)
  have d1 := (b1.cell (p := ⟨bb, 0, none⟩) (lt_of_cell c1)).trans c1
  have HB1 := Lib.hid b1
  clear b1
  go_enter Try.func58, Try.ntmps58
  go_wp2_with fail
  go_ret
  exact ⟨ret_bool HB.out, HB1.out⟩
theorem set3_grown {w w9 : World} {V : Nat} (h : w.grownBy w9 (some V)) (a b c : Value) : w.grownBy (((w9.setCell ⟨V, 0, none⟩ a).setCell ⟨V, 1, none⟩ b).setCell ⟨V, 2, none⟩ c) (some V) :=
  only_setCell (only_setCell (only_setCell h (p := ⟨V, 0, none⟩) (.inl rfl) a) (p := ⟨V, 1, none⟩) (.inl rfl) b) (p := ⟨V, 2, none⟩) (.inl rfl) c
theorem ret_ib {a b : Int} {q : Bool} (h : a = b) : Ending.returned (.tuple #[.int .i64 a, .bool q]) = .returned (.tuple #[.int .i64 b, .bool q]) := by rw [h]
theorem s9c {w w' : World} {p1 p2 p3 p4 p5 p6 p7 p8 p9 : Addr} {v1 v2 v3 v4 v5 v6 v7 v8 v9 : Value}
    (h : w.cell? p1 = some v1 ∧ w.cell? p2 = some v2 ∧ w.cell? p3 = some v3 ∧ w.cell? p4 = some v4 ∧ w.cell? p5 = some v5 ∧ w.cell? p6 = some v6 ∧ w.cell? p7 = some v7 ∧ w.cell? p8 = some v8 ∧ w.cell? p9 = some v9)
    (k : ∀ p v, w.cell? p = some v → w'.cell? p = some v) :
    w'.cell? p1 = some v1 ∧ w'.cell? p2 = some v2 ∧ w'.cell? p3 = some v3 ∧ w'.cell? p4 = some v4 ∧ w'.cell? p5 = some v5 ∧ w'.cell? p6 = some v6 ∧ w'.cell? p7 = some v7 ∧ w'.cell? p8 = some v8 ∧ w'.cell? p9 = some v9 :=
  ⟨k _ _ h.1, k _ _ h.2.1, k _ _ h.2.2.1, k _ _ h.2.2.2.1, k _ _ h.2.2.2.2.1, k _ _ h.2.2.2.2.2.1, k _ _ h.2.2.2.2.2.2.1, k _ _ h.2.2.2.2.2.2.2.1, k _ _ h.2.2.2.2.2.2.2.2⟩
/-- what shortest tells -/
def shortB (ws : List Int) (gs : List Rl) (B : Int) : Int × Bool := if 0 < B then (0, true) else if B ≤ (clWh ws gs).getD 1 0 then (0, false) else (fbF ws gs B gs.length (gs.length - 1) 0 + 1, true)
/-- between two rules on the way down: what is before lies in block V -/
def ShSt (ws : List Int) (gs : List Rl) (w5 : World) (V : Nat) (B R : Int) (nv rv : Value) (wr : World) : Prop :=
  ∃ (f r : Nat) (n : Int) (bef : List Int), nv = .int .i64 n ∧ rv = .int .i64 r ∧ r < f ∧ r < gs.length ∧ 0 ≤ n ∧ n + (lens gs).getD r 0 ≤ 1000000000000000 ∧ n + fbF ws gs B f r (bef.getD 0 0) = R ∧ B ≤ bef.getD 1 0 ∧ clOk n bef ∧
    wr.heap[V]? = some (.cells (clCs bef) 28 (0, 0)) ∧ w5.grownBy wr (some V)
set_option maxRecDepth 100000 in
set_option maxHeartbeats 6400000 in
theorem clShort_any (fv gv : Value) (gs : List Rl) (B : Int) (bb lo bw : Nat) (ws : List Int) (w : World) (hwo : wOk ws) (hok : gOk gs = true) (hr : Rules w gv gs) (h : IsCl w lo bw ws fv gv gs)
    (c1 : w.cell? ⟨bb, 0, none⟩ = some (.int .i64 B)) :
    Calls Try.prog 57 #[fv, beV bb] w fun e w' => e = .returned (.tuple #[.int .i64 (shortB ws gs B).1, .bool (shortB ws gs B).2]) ∧ Below w.heap.size w w' := by
  have hn400 := gOk_len hok
  have HEN := Lib.hid (fun x0 x1 x2 b W (hb : Below w.heap.size w W) (hd : decide (x1 < B) = b) => below_any x0 x1 x2 B bb b W ((hb.cell (lt_of_cell c1)).trans c1) hd)
  have HWH := Lib.hid (fun W (hb : Below w.heap.size w W) => clWhole_any fv gv gs lo bw ws W hwo hok (hr.kept hb) (h.kept hb))
  rw [clWh_part hwo hok] at HWH
  have HTC : Hid (clCs (clWh ws gs) = #[.int .i64 ((clWh ws gs).getD 0 0), .int .i64 ((clWh ws gs).getD 1 0), .int .i64 ((clWh ws gs).getD 2 0)]) := Lib.hid rfl
  rw [HTC.out] at HWH
  have HRU := Lib.hid (fun W (hb : Below w.heap.size w W) => hr.kept hb)
  obtain ⟨A1, c1', A2, c2', rfl, h1, h2⟩ := h.shape
  have HO1 := Lib.hid (fun W (hb : Below w.heap.size w W) => own_below h1 hb (Nat.le_refl _))
  have HO2 := Lib.hid (fun W (hb : Below w.heap.size w W) => own_below h2 hb (Nat.le_refl _))
  obtain ⟨Ag, cg, rfl, _⟩ := id hr
  have HOK := Lib.hid hok
  have HWO := Lib.hid hwo
  have hF1 := heap_alloc_new w (.cells (clAll bw (.slice Ag gs.length cg) (.slice A1 gs.length c1') (.slice A2 gs.length c2')) 67)
  have hb1 : Below w.heap.size w (w.alloc (.cells (clAll bw (.slice Ag gs.length cg) (.slice A1 gs.length c1') (.slice A2 gs.length c2')) 67)) := (Below.refl _ w).alloc (Nat.le_refl _) _
  have HF1 := Lib.hid hF1
  have HB1 := Lib.hid hb1
  unfold shortB
  have hz1 : gs.length = 0 → (clWh ws gs).getD 1 0 = 0 := fun e => by unfold clWh; rw [if_pos e]; rfl
  generalize (clWh ws gs).getD 0 0 = z0 at *
  generalize (clWh ws gs).getD 1 0 = z1 at *
  generalize (clWh ws gs).getD 2 0 = z2 at *
  by_cases hpos : 0 < B
  · rw [if_pos hpos]
    have HE0 := Lib.hid (fun W hb => HEN.out 0 0 0 true W hb (decide_eq_true hpos))
    clear HEN hF1 hb1 h h1 h2 hr hok hwo c1 hz1
    go_enter Try.func57, Try.ntmps57
    go_wp2_with fail
    refine (HE0.out _ HB1.out).mono ?_
    rintro e w2 ⟨rfl, hB2⟩
    have HB2 := Lib.hid (HB1.out.trans (hB2.mono HB1.out.size))
    clear hB2
    go_wp2_with fail
    go_ret2
    exact ⟨rfl, HB2.out⟩
  have HE0 := Lib.hid (fun W hb => HEN.out 0 0 0 false W hb (decide_eq_false hpos))
  rw [if_neg hpos]
  by_cases htot : B ≤ z1
  · rw [if_pos htot]
    have HEW := Lib.hid (fun W hb => HEN.out z0 z1 z2 false W hb (decide_eq_false (by omega)))
    clear HEN hF1 hb1 h h1 h2 hr hok hwo c1 hz1
    go_enter Try.func57, Try.ntmps57
    go_wp2_with fail
    refine (HE0.out _ HB1.out).mono ?_
    rintro e w2 ⟨rfl, hB2⟩
    have HB2 := Lib.hid (HB1.out.trans (hB2.mono HB1.out.size))
    have HF2 := Lib.hid ((hB2.block w.heap.size (by simp)).trans HF1.out)
    clear hB2
    obtain ⟨d, hu, hd⟩ := und_clFold
    have HU := Lib.hid (And.intro hu hd)
    have HSF := Lib.hid (size_clFold bw (.slice Ag gs.length cg) (.slice A1 gs.length c1') (.slice A2 gs.length c2'))
    clear hu hd
    go_wp2_with (with_reducible refine wpList_load_rowD HU.out.2 rfl 67 _ rfl w.heap.size rfl 67 _ _ HF2.out HU.out.1 HSF.out ?_)
    refine (HWH.out _ HB2.out).mono ?_
    rintro e w3 ⟨rfl, hB3⟩
    have HB3 := Lib.hid (HB2.out.trans (hB3.mono HB2.out.size))
    clear hB3
    go_wp2_with fail
    refine (HEW.out _ HB3.out).mono ?_
    rintro e w4 ⟨rfl, hB4⟩
    have HB4 := Lib.hid (HB3.out.trans (hB4.mono HB3.out.size))
    clear hB4
    go_wp2_with fail
    go_ret2
    exact ⟨rfl, HB4.out⟩
  · rw [if_neg htot]
    have hg : 0 < gs.length := by
      rcases Nat.eq_zero_or_pos gs.length with h0 | h0
      · exfalso
        have := hz1 h0
        omega
      · exact h0
    have HEW := Lib.hid (fun W hb => HEN.out z0 z1 z2 true W hb (decide_eq_true (by omega)))
    have hBn : B ≤ 0 := by omega
    obtain ⟨M, rfl, _, hMl⟩ := own_addr h2 hg
    have h1' : w.ownsRow lo 2 1 (.slice A1 gs.length c1') gs.length (iv (lens gs)) := by
      have := h1
      unfold OwnsI at this
      rw [lens_len] at this
      exact this
    obtain ⟨L, rfl, _, hLl⟩ := own_addr h1' hg
    have HL1 := Lib.hid (fun W (hb : Below w.heap.size w W) => own_below h1' hb (Nat.le_refl _))
    have hwl := small_at (gOk_iff.1 hok).2.2 (gs.length - 1) (by omega)
    have HLA := Lib.hid (fun W => lastA Ag gs.length cg (by omega) W)
    clear hF1 hb1 h h1 h1' h2 hr hok hwo c1 hz1
    obtain ⟨d, hu, hd⟩ := und_clFold
    have HU := Lib.hid (And.intro hu hd)
    have HSF := Lib.hid (size_clFold bw (.slice Ag gs.length cg) (.slice (some ⟨L, 0, none⟩) gs.length c1') (.slice (some ⟨M, 0, none⟩) gs.length c2'))
    clear hu hd
    go_enter Try.func57, Try.ntmps57
    go_wp2_with fail
    refine (HE0.out _ HB1.out).mono ?_
    rintro e w2 ⟨rfl, hB2⟩
    have HB2 := Lib.hid (HB1.out.trans (hB2.mono HB1.out.size))
    have HF2 := Lib.hid ((hB2.block w.heap.size (by simp)).trans HF1.out)
    clear hB2
    go_wp2_with (with_reducible refine wpList_load_rowD HU.out.2 rfl 67 _ rfl w.heap.size rfl 67 _ _ HF2.out HU.out.1 HSF.out ?_)
    refine (HWH.out _ HB2.out).mono ?_
    rintro e w3 ⟨rfl, hB3⟩
    have HB3 := Lib.hid (HB2.out.trans (hB3.mono HB2.out.size))
    have hFl2 : w.heap.size < w2.heap.size := (Array.getElem?_eq_some_iff.1 HF2.out).1
    have HF3 := Lib.hid ((hB3.block w.heap.size hFl2).trans HF2.out)
    clear hB3
    go_wp2_with fail
    refine (HEW.out _ HB3.out).mono ?_
    rintro e w4 ⟨rfl, hB4⟩
    have HB4 := Lib.hid (HB3.out.trans (hB4.mono HB3.out.size))
    have hFl3 : w.heap.size < w3.heap.size := (Array.getElem?_eq_some_iff.1 HF3.out).1
    have HF4 := Lib.hid ((hB4.block w.heap.size hFl3).trans HF3.out)
    have hFl4 : w.heap.size < w4.heap.size := (Array.getElem?_eq_some_iff.1 HF4.out).1
    clear hB4 hFl2 hFl3
    go_upto_region 5 with fail
    obtain ⟨M1, hM1⟩ : ∃ M1 : Nat, M1 = gs.length - 1 := ⟨_, rfl⟩
    have hlst : ((gs.length : Int) - 1) = (M1 : Int) := by omega
    go_cut [6, 7, 8] (fun s6 s7 s8 wx => ∃ V, s6 = .int .i64 0 ∧ s7 = .pointer (some ⟨V, 0, none⟩) ∧ s8 = .int .i64 (M1 : Int) ∧ wx.heap[V]? = some (.cells #[.int .i64 0, .int .i64 0, .int .i64 0] 28 (0, 0)) ∧ w4.heap.size ≤ V ∧ Below w4.heap.size w4 wx)
    case first =>
      have f0 : w4.cell? ⟨w.heap.size, 0, none⟩ = some (.int .i64 0) := cell_of_row _ _ 0 _ _ _ HF4.out
      have f1 : w4.cell? ⟨w.heap.size, 1, none⟩ = some (.int .i64 0) := cell_of_row _ _ 1 _ _ _ HF4.out
      have f2 : w4.cell? ⟨w.heap.size, 2, none⟩ = some (.int .i64 0) := cell_of_row _ _ 2 _ _ _ HF4.out
      have f6 : w4.cell? ⟨w.heap.size, 5, none⟩ = some (.slice Ag gs.length cg) := cell_of_row _ _ 5 _ _ _ HF4.out
      have HLB : Hid (∀ W, Calls Try.prog 100 #[.slice Ag gs.length cg] W fun e w' => e = .returned (.int .i64 (M1 : Int)) ∧ w' = W) := Lib.hid (fun W => (HLA.out W).mono fun e w' h => ⟨h.1.trans (ret_int hlst), h.2⟩)
      clear hlst hM1
      go_region_held3 (fun w' => w'.cell? ⟨w.heap.size, 0, none⟩ = some (.int .i64 0) ∧ w'.cell? ⟨w.heap.size, 1, none⟩ = some (.int .i64 0) ∧ w'.cell? ⟨w.heap.size, 2, none⟩ = some (.int .i64 0) ∧ w'.cell? ⟨w.heap.size, 5, none⟩ = some (.slice Ag gs.length cg))
        (first | go_keep)
        (first
          | (go_at_call 100
             refine (HLB.out _).mono ?_
             rintro e w9 ⟨rfl, rfl⟩))
      all_goals (go_wp2_with fail; go_meet)
      all_goals first | exact ⟨_, rfl, rfl, rfl, heap_alloc_new _ _, Nat.le_refl _, (Below.refl _ w4).drew.alloc (Nat.le_refl _) _⟩ | exact ⟨_, rfl, rfl, rfl, heap_alloc_new w4 _, Nat.le_refl _, ((Below.refl _ w4).alloc (Nat.le_refl _) _).drew⟩
    case rest =>
      obtain ⟨V, rfl, rfl, rfl, hV, hVl, hb5⟩ := hcut
      obtain ⟨w5, rfl⟩ : ∃ w5 : World, w5 = wc := ⟨_, rfl⟩
      have HB5 := Lib.hid (HB4.out.trans (hb5.mono HB4.out.size))
      have HF5 := Lib.hid ((hb5.block w.heap.size hFl4).trans HF4.out)
      have hFl5 : w.heap.size < w5.heap.size := (Array.getElem?_eq_some_iff.1 HF5.out).1
      have hVw : w.heap.size < V := by omega
      have hST : ShSt ws gs w5 V B (fbF ws gs B gs.length (gs.length - 1) 0) (.int .i64 0) (.int .i64 (M1 : Int)) w5 := ⟨gs.length, M1, 0, clNil, rfl, rfl, by omega, by omega, Int.le_refl _, by rw [hM1]; omega, by rw [hM1]; exact Int.zero_add _, hBn, clNil_ok, hV, World.grownBy.refl _ _⟩
      have HST := Lib.hid hST
      have HAL : Hid (∀ i, i < gs.length → clOk ((lens gs).getD i 0) (clAt ws gs i) ∧ (lens gs).getD i 0 ≤ 1000000000000000) := Lib.hid (fun i hi => ⟨clAt_ok HWO.out HOK.out hi, small_at (gOk_iff.1 HOK.out).2.2 i hi⟩)
      obtain ⟨R, hRe⟩ : ∃ R, R = fbF ws gs B gs.length (gs.length - 1) 0 := ⟨_, rfl⟩
      have HRE := Lib.hid hRe
      rw [← hRe] at HST
      clear hRe hST hV hb5 hlst hM1 hwl htot
      go_wp2_with fail
      go_loopw [6, 8, 9, 10, 11] (fun nv rv _ _ _ wr => ShSt ws gs w5 V B R nv rv wr) (fun _ rv _ _ _ _ => (intOf rv).toNat)
      case atStart => exact HST.out
      case round =>
        obtain ⟨f, r, n, bef, rfl, rfl, hrf, hr, hn0, hnl, hR, hbk, hbo, hV, hgr⟩ := hrel
        obtain ⟨wo, rfl⟩ : ∃ wo : World, wo = wr := ⟨_, rfl⟩
        have hbw : Below w.heap.size w wo := HB5.out.grown hgr HB5.out.size (fun q hq => by injection hq with hq; omega)
        have hFo := (hgr.block w.heap.size hFl5 (by intro e; injection e with e; omega)).trans HF5.out
        have f5 : wo.cell? ⟨w.heap.size, 4, none⟩ = some clT := cell_of_row _ _ 4 _ _ _ hFo
        have f6 : wo.cell? ⟨w.heap.size, 5, none⟩ = some (.slice Ag gs.length cg) := cell_of_row _ _ 5 _ _ _ hFo
        have f7 : wo.cell? ⟨w.heap.size, 6, none⟩ = some (.slice (some ⟨L, 0, none⟩) gs.length c1') := cell_of_row _ _ 6 _ _ _ hFo
        have f8 : wo.cell? ⟨w.heap.size, 7, none⟩ = some (.slice (some ⟨M, 0, none⟩) gs.length c2') := cell_of_row _ _ 7 _ _ _ hFo
        obtain ⟨Ay, cy, hvy, hcy⟩ := HRU.out wo hbw
        injection hvy with hvA _ hvc
        subst hvA hvc
        rcases hcy with hn0' | ⟨g, rfl, hg', hc⟩
        · rw [hn0'] at hr; simp at hr
        obtain ⟨a0, a1, a2⟩ := rules_cells hc hr
        obtain ⟨f', rfl⟩ : ∃ f', f = f' + 1 := ⟨f - 1, by omega⟩
        have HBW := Lib.hid hbw
        have r0 : (0 : Int) ≤ (r : Int) := by omega
        have r1 : (r : Int) < (gs.length : Int) := by omega
        by_cases h0 : gs[r].L.size = 0
        · obtain ⟨a, b, ha, hb, hak, hbk', hs2, p1, p3, p2, p4⟩ := pair_parts HOK.out hr h0
          have hva := (HAL.out a (by omega)).1
          have hla := (HAL.out a (by omega)).2
          have HK := Lib.hid (fun W => kind_pair gs[r] h0 W)
          have HT := tt_pp
          have HMo := Lib.hid (HO2.out wo hbw)
          have HLo := Lib.hid (HL1.out wo hbw)
          obtain ⟨m0, m1, m2⟩ := clSt_cells (fun i hi => (HAL.out i hi).1.1) HMo.out (show a < gs.length by omega)
          obtain ⟨⟨v0, v1, v2⟩, _⟩ := blk3_cells hV
          have hVo : V < wo.heap.size := (Array.getElem?_eq_some_iff.1 hV).1
          have ha0 := hbo.2.1
          have hq0 := hva.2
          have hx0 : -10000000000000000 ≤ bef.getD 0 0 ∧ bef.getD 0 0 ≤ 10000000000000000 := by omega
          have hy0 : -10000000000000000 ≤ (clAt ws gs a).getD 0 0 ∧ (clAt ws gs a).getD 0 0 ≤ 10000000000000000 := by omega
          have hy1 : -10000000000000000 ≤ (clAt ws gs a).getD 1 0 ∧ (clAt ws gs a).getD 1 0 ≤ 10000000000000000 := by omega
          have hy2 : -10000000000000000 ≤ (clAt ws gs a).getD 2 0 ∧ (clAt ws gs a).getD 2 0 ≤ 10000000000000000 := by omega
          have HTH := Lib.hid (fun W => joined_any (bef.getD 0 0) (bef.getD 1 0) (bef.getD 2 0) ((clAt ws gs a).getD 0 0) ((clAt ws gs a).getD 1 0) ((clAt ws gs a).getD 2 0) W hx0 hy0 hy1 hy2)
          have lc : wo.cell? ⟨L, a, none⟩ = some (.int .i64 ((lens gs).getD a 0)) := by
            rw [HLo.out.cellAt a (by omega)]; exact iv_at (by rw [lens_len]; omega)
          have HLEFT : Hid (bef.getD 0 0 + (clAt ws gs a).getD 1 0 < B → ∀ W, wo.grownBy W (some V) → W.heap[V]? = wo.heap[V]? → ShSt ws gs w5 V B R (.int .i64 n) (.int .i64 (a : Int)) W) := Lib.hid (fun hlt W h1 h2 => by
            rw [fb_left hr h0 ha hlt] at hR
            exact ⟨f', a, n, bef, rfl, rfl, by omega, by omega, hn0, by omega, hR, hbk, hbo, h2.trans hV, gbTrans hgr h1⟩)
          have HRIGHT : Hid (¬ bef.getD 0 0 + (clAt ws gs a).getD 1 0 < B → ∀ W, wo.grownBy W (some V) → W.heap[V]? = some (.cells (clCs (clJ bef (clAt ws gs a))) 28 (0, 0)) → ShSt ws gs w5 V B R (.int .i64 (n + (lens gs).getD a 0)) (.int .i64 (b : Int)) W) := Lib.hid (fun hlt W h1 h2 => by
            rw [fb_right hr h0 ha hb hlt] at hR
            exact ⟨f', b, n + (lens gs).getD a 0, clJ bef (clAt ws gs a), rfl, rfl, by omega, by omega, by omega, by omega, by show n + (lens gs).getD a 0 + fbF ws gs B f' b (bef.getD 0 0 + (clAt ws gs a).getD 0 0) = R; omega, by show B ≤ min (bef.getD 1 0) (bef.getD 0 0 + (clAt ws gs a).getD 1 0); omega, clOk_J0 _ _ _ _ hn0 p1 hbo hva, h2, gbTrans hgr h1⟩)
          have HTCJ : Hid (clCs (clJ bef (clAt ws gs a)) = #[.int .i64 (bef.getD 0 0 + (clAt ws gs a).getD 0 0), .int .i64 (min (bef.getD 1 0) (bef.getD 0 0 + (clAt ws gs a).getD 1 0)), .int .i64 (max (bef.getD 2 0) (bef.getD 0 0 + (clAt ws gs a).getD 2 0))]) := Lib.hid rfl
          rw [HTCJ.out] at HRIGHT
          have HBK : Hid (B ≤ bef.getD 1 0) := Lib.hid hbk
          have hz : (lens gs).getD a 0 + n ≤ 1000000000000000 := by omega
          have hVc : wo.heap[V]? = some (.cells #[.int .i64 (bef.getD 0 0), .int .i64 (bef.getD 1 0), .int .i64 (bef.getD 2 0)] 28 (0, 0)) := hV
          clear hx0 hy0 hy1 hy2 ha0 hq0 hva hbo hbk hR
          generalize bef.getD 0 0 = x0 at *
          generalize bef.getD 1 0 = x1 at *
          generalize bef.getD 2 0 = x2 at *
          generalize (clAt ws gs a).getD 0 0 = y0 at *
          generalize (clAt ws gs a).getD 1 0 = y1 at *
          generalize (clAt ws gs a).getD 2 0 = y2 at *
          generalize (lens gs).getD a 0 = la at *
          rw [ha] at a1
          rw [hb] at a2
          generalize gs[r] = Rk at *
          obtain ⟨Lt, lt, rt⟩ := Rk
          simp only at ha hb a0
          have HKX : Hid (∀ W, Calls Try.prog 101 #[.agg #[.string Lt, .int .i64 (a : Int), .int .i64 (b : Int)]] W fun e w' => e = .returned (.iface 147 (.agg #[.string Lt, .int .i64 (a : Int), .int .i64 (b : Int)])) ∧ Below W.heap.size W w') := Lib.hid (fun W => by
            have := HK.out W
            unfold agg3 at this
            rw [ha, hb] at this
            exact this)
          clear ha hb hc hFo HK h0 hbw hV
          go_wp2_with fail
          refine (HKX.out _).mono ?_
          rintro e w7 ⟨rfl, hB7⟩
          have hb8 := hB7.alloc hB7.size (.cells #[.string Lt, .int .i64 a, .int .i64 b] 147)
          have kcs := heap_alloc_new w7 (.cells #[.string Lt, .int .i64 a, .int .i64 b] 147)
          have kc1 : (w7.alloc (.cells #[.string Lt, .int .i64 a, .int .i64 b] 147)).cell? ⟨w7.heap.size, 1, none⟩ = some (.int .i64 a) := by rw [cell_of_row _ _ _ _ _ _ kcs]; rfl
          have kc2 : (w7.alloc (.cells #[.string Lt, .int .i64 a, .int .i64 b] 147)).cell? ⟨w7.heap.size, 2, none⟩ = some (.int .i64 b) := by rw [cell_of_row _ _ _ _ _ _ kcs]; rfl
          have HB8 := Lib.hid hb8
          obtain ⟨Kp, hKp⟩ : ∃ Kp, Kp = w7.heap.size := ⟨_, rfl⟩
          have hwo7 : wo.heap.size ≤ w7.heap.size := hB7.size
          clear a0 a1 a2 hB7 kcs f6
          go_upto_region 10 with fail
          have hKV : Kp ≠ V := by omega
          have hK8 : Kp < (w7.alloc (.cells #[.string Lt, .int .i64 a, .int .i64 b] 147)).heap.size := by simp; omega
          rw [← hKp] at kc1 kc2 ⊢
          generalize w7.alloc (.cells #[.string Lt, .int .i64 a, .int .i64 b] 147) = w8 at *
          have HS1 : Hid (w8.cell? ⟨w.heap.size, 4, none⟩ = some clT ∧ w8.cell? ⟨w.heap.size, 7, none⟩ = some (.slice (some ⟨M, 0, none⟩) gs.length c2') ∧ w8.cell? ⟨Kp, 1, none⟩ = some (.int .i64 (a : Int)) ∧ w8.cell? ⟨V, 0, none⟩ = some (.int .i64 x0) ∧ w8.cell? ⟨V, 1, none⟩ = some (.int .i64 x1) ∧ w8.cell? ⟨V, 2, none⟩ = some (.int .i64 x2) ∧ w8.cell? ⟨M, a * 3, none⟩ = some (.int .i64 y0) ∧ w8.cell? ⟨M, a * 3 + 1, none⟩ = some (.int .i64 y1) ∧ w8.cell? ⟨M, a * 3 + 2, none⟩ = some (.int .i64 y2)) := Lib.hid ⟨cells_below hb8 _ _ f5, cells_below hb8 _ _ f8, kc1, cells_below hb8 _ _ v0, cells_below hb8 _ _ v1, cells_below hb8 _ _ v2, cells_below hb8 _ _ m0, cells_below hb8 _ _ m1, cells_below hb8 _ _ m2⟩
          have HKC2 := Lib.hid kc2
          have HF7 := Lib.hid (cells_below hb8 _ _ f7)
          have HLC := Lib.hid (cells_below hb8 _ _ lc)
          have HV8 := Lib.hid ((hb8.block V hVo).trans hVc)
          clear hKp hwo7 kc1 kc2 f5 f7 f8 v0 v1 v2 m0 m1 m2 lc hb8 hVc
          go_cut [11] (fun s9c wx => ∃ Q, s9c = .pointer (some ⟨Q, 0, none⟩) ∧ wx.heap[Q]? = some (.cells #[.int .i64 (x0 + y0), .int .i64 (min x1 (x0 + y1)), .int .i64 (max x2 (x0 + y2))] 28 (0, 0)) ∧ w8.heap.size ≤ Q ∧ Below w8.heap.size w8 wx)
          case first =>
            have HS0 : Hid (w8.drew.cell? ⟨w.heap.size, 4, none⟩ = some clT ∧ w8.drew.cell? ⟨w.heap.size, 7, none⟩ = some (.slice (some ⟨M, 0, none⟩) gs.length c2') ∧ w8.drew.cell? ⟨Kp, 1, none⟩ = some (.int .i64 (a : Int)) ∧ w8.drew.cell? ⟨V, 0, none⟩ = some (.int .i64 x0) ∧ w8.drew.cell? ⟨V, 1, none⟩ = some (.int .i64 x1) ∧ w8.drew.cell? ⟨V, 2, none⟩ = some (.int .i64 x2) ∧ w8.drew.cell? ⟨M, a * 3, none⟩ = some (.int .i64 y0) ∧ w8.drew.cell? ⟨M, a * 3 + 1, none⟩ = some (.int .i64 y1) ∧ w8.drew.cell? ⟨M, a * 3 + 2, none⟩ = some (.int .i64 y2)) := HS1
            have HSZA : Hid ((Try.prog.info? 28).map (·.size) = some (#[.int .i64 (x0 + y0), .int .i64 (min x1 (x0 + y1)), .int .i64 (max x2 (x0 + y2))] : Array Value).size) := Lib.hid size_cl
            have HONE := Lib.hid (fun a b c => (all_oneCell_toArray (one3c a b c)))
            have HBA : Hid (∀ o, Below w8.heap.size w8 (w8.drew.alloc o)) := Lib.hid (fun o => (Below.refl _ w8).drew.alloc (Nat.le_refl _) o)
            have a0' : (0 : Int) ≤ (a : Int) := by omega
            have a1' : (a : Int) < (gs.length : Int) := by omega
            refine wp_region_held_drew (S := fun w' : World => w'.cell? ⟨w.heap.size, 4, none⟩ = some clT ∧ w'.cell? ⟨w.heap.size, 7, none⟩ = some (.slice (some ⟨M, 0, none⟩) gs.length c2') ∧ w'.cell? ⟨Kp, 1, none⟩ = some (.int .i64 (a : Int)) ∧ w'.cell? ⟨V, 0, none⟩ = some (.int .i64 x0) ∧ w'.cell? ⟨V, 1, none⟩ = some (.int .i64 x1) ∧ w'.cell? ⟨V, 2, none⟩ = some (.int .i64 x2) ∧ w'.cell? ⟨M, a * 3, none⟩ = some (.int .i64 y0) ∧ w'.cell? ⟨M, a * 3 + 1, none⟩ = some (.int .i64 y1) ∧ w'.cell? ⟨M, a * 3 + 2, none⟩ = some (.int .i64 y2)) (by kernel_rfl) HS0.out (fun hHeld => ?_)
            refine takeH (i := 0) (dst := some 44) (v := ?_) rfl (by kernel_rfl) (by kernel_rfl) (by kernel_rfl) (fun _ _ _ h => h) (Or.inl ⟨by rfl, ?_⟩) (by assumption) ?_
            rotate_left 1
            · (intro w hSw; (try dsimp only at hSw); go_simp; try (with_reducible rfl))
            try simp only [Act.put, List.setIfInBounds_toArray, List.set_cons_zero, List.set_cons_succ]
            refine takeH (i := 1) (dst := some 45) (v := ?_) rfl (by kernel_rfl) (by kernel_rfl) (by kernel_rfl) (fun _ _ _ h => h) (Or.inl ⟨by rfl, ?_⟩) (by assumption) ?_
            rotate_left 1
            · (intro w hSw; (try dsimp only at hSw); go_simp; try (with_reducible rfl))
            try simp only [Act.put, List.setIfInBounds_toArray, List.set_cons_zero, List.set_cons_succ]
            refine takeH (i := 2) (dst := some 46) (v := ?_) rfl (by kernel_rfl) (by kernel_rfl) (by kernel_rfl) (fun _ _ _ h => h) (Or.inl ⟨by rfl, ?_⟩) (by assumption) ?_
            rotate_left 1
            · (intro w hSw; (try dsimp only at hSw); go_simp; try (with_reducible rfl))
            try simp only [Act.put, List.setIfInBounds_toArray, List.set_cons_zero, List.set_cons_succ]
            refine takeH (i := 3) (dst := some 47) (v := ?_) rfl (by kernel_rfl) (by kernel_rfl) (by kernel_rfl) (fun _ _ _ h => h) (Or.inl ⟨by rfl, ?_⟩) (by assumption) ?_
            rotate_left 1
            · (intro w hSw; (try dsimp only at hSw); go_simp; try (with_reducible rfl))
            try simp only [Act.put, List.setIfInBounds_toArray, List.set_cons_zero, List.set_cons_succ]
            refine takeH (i := 4) (dst := some 48) (v := ?_) rfl (by kernel_rfl) (by kernel_rfl) (by kernel_rfl) (fun _ _ _ h => h) (Or.inl ⟨by rfl, ?_⟩) (by assumption) ?_
            rotate_left 1
            · (intro w hSw; (try dsimp only at hSw); go_simp; try (with_reducible rfl))
            try simp only [Act.put, List.setIfInBounds_toArray, List.set_cons_zero, List.set_cons_succ]
            refine takeH (i := 5) (dst := some 49) (v := ?_) rfl (by kernel_rfl) (by kernel_rfl) (by kernel_rfl) (fun _ _ _ h => h) (Or.inl ⟨by rfl, ?_⟩) (by assumption) ?_
            rotate_left 1
            · (intro w hSw; (try dsimp only at hSw); go_simp; try (with_reducible rfl))
            try simp only [Act.put, List.setIfInBounds_toArray, List.set_cons_zero, List.set_cons_succ]
            refine takeH (i := 6) (dst := some 50) (v := ?_) rfl (by kernel_rfl) (by kernel_rfl) (by kernel_rfl) (fun _ _ _ h => h) (Or.inl ⟨by rfl, ?_⟩) (by assumption) ?_
            rotate_left 1
            · (intro w hSw; (try dsimp only at hSw); go_simp; try (with_reducible rfl))
            try simp only [Act.put, List.setIfInBounds_toArray, List.set_cons_zero, List.set_cons_succ]
            refine takeH (i := 7) (dst := some 51) (v := ?_) rfl (by kernel_rfl) (by kernel_rfl) (by kernel_rfl) (fun _ _ _ h => h) (Or.inl ⟨by rfl, ?_⟩) (by assumption) ?_
            rotate_left 1
            · (intro w hSw; (try dsimp only at hSw); go_simp; try (with_reducible rfl))
            try simp only [Act.put, List.setIfInBounds_toArray, List.set_cons_zero, List.set_cons_succ]
            refine takeH (i := 8) (dst := some 52) (v := ?_) rfl (by kernel_rfl) (by kernel_rfl) (by kernel_rfl) (fun _ _ _ h => h) (Or.inl ⟨by rfl, ?_⟩) (by assumption) ?_
            rotate_left 1
            · (intro w hSw; (try dsimp only at hSw); go_simp; try (with_reducible rfl))
            try simp only [Act.put, List.setIfInBounds_toArray, List.set_cons_zero, List.set_cons_succ]
            refine takeH (i := 9) (dst := some 53) (v := ?_) rfl (by kernel_rfl) (by kernel_rfl) (by kernel_rfl) (fun _ _ _ h => h) (Or.inl ⟨by rfl, ?_⟩) (by assumption) ?_
            rotate_left 1
            · (intro w hSw; (try dsimp only at hSw); go_simp; try (with_reducible rfl))
            try simp only [Act.put, List.setIfInBounds_toArray, List.set_cons_zero, List.set_cons_succ]
            refine wpAnyH_ready (rs := [10, 11]) (by kernel_rfl) (by simp) ?_
            refine AllReadyH.cons (o := ⟨some 54, _, _, _, _, none⟩) rfl (fun K hK => ?_) (AllReadyH.cons (o := ⟨some 11, _, _, _, _, none⟩) rfl (fun K hK => ?_) AllReadyH.nil)
            · go_simp
              go_at_call 93
              refine (HTH.out _).mono ?_
              rintro e w9 ⟨rfl, hB9⟩
              have hB9 : Below w8.heap.size w8 w9 := below_undrew hB9
              have HB9 := Lib.hid hB9
              have HS9 := Lib.hid (s9c HS1.out (cells_below hB9))
              clear hB9
              refine hK.out _ _ HS9.out (fun hHeld => ?_)
              clear hK K
              try simp only [Act.put, List.setIfInBounds_toArray, List.set_cons_zero, List.set_cons_succ]
              refine wpAnyH_ready (rs := [11]) (by kernel_rfl) (by simp) ?_
              refine AllReadyH.cons (o := ⟨some 11, _, _, _, _, none⟩) rfl (fun K hK => ?_) AllReadyH.nil
              go_simp
              refine hK.out _ _ (s9c HS9.out (cells_below ((Below.refl _ w9).alloc (Nat.le_refl _) _))) (fun hHeld => ?_)
              clear hK K
              try simp only [Act.put, List.setIfInBounds_toArray, List.set_cons_zero, List.set_cons_succ]
              refine wpAnyH_ready (rs := [12]) (by kernel_rfl) (by simp) ?_
              refine AllReadyH.cons (o := ⟨none, _, _, _, _, none⟩) rfl (fun K hK => ?_) AllReadyH.nil
              refine step_store_mid (by rfl) 28 _ _ (by rfl) w9.heap.size 0 #[.int .i64 (x0 + y0), .int .i64 (min x1 (x0 + y1)), .int .i64 (max x2 (x0 + y2))] (by rfl) (by rfl) (there3 (heap_alloc_new w9 _)) HSZA.out (HONE.out _ _ _) ?_
              refine hK.out _ _ (s9c HS9.out (fun p v h => (World.cell?_setCells_out _ _ _ _ _ (fun e _ => absurd e (Nat.ne_of_lt (lt_of_cell h)))).trans (cells_below ((Below.refl _ w9).alloc (Nat.le_refl _) _) p v h))) (fun hHeld => ?_)
              clear hK K
              refine wpAnyH_done (by kernel_rfl) ?_ _
              go_wp2_with fail
              go_meet
              exact ⟨_, rfl, blk3 (heap_alloc_new w9 _), HB9.out.size, (((HB9.out.alloc HB9.out.size _).setCell HB9.out.size _).setCell HB9.out.size _).setCell HB9.out.size _⟩
            · go_simp
              refine hK.out _ _ (s9c HS1.out (cells_below (HBA.out _))) (fun hHeld => ?_)
              clear hK K
              try simp only [Act.put, List.setIfInBounds_toArray, List.set_cons_zero, List.set_cons_succ]
              refine wpAnyH_ready (rs := [10]) (by kernel_rfl) (by simp) ?_
              refine AllReadyH.cons (o := ⟨some 54, _, _, _, _, none⟩) rfl (fun K hK => ?_) AllReadyH.nil
              go_simp
              go_at_call 93
              refine (HTH.out _).mono ?_
              rintro e w9 ⟨rfl, hB9⟩
              have HB9 := Lib.hid ((HBA.out _).trans (hB9.mono (by simp)))
              have HQ9 := Lib.hid ((hB9.block w8.heap.size (by simp)).trans (heap_alloc_new w8.drew _))
              have HS9 := Lib.hid (s9c HS1.out (cells_below HB9.out))
              clear hB9
              refine hK.out _ _ HS9.out (fun hHeld => ?_)
              clear hK K
              try simp only [Act.put, List.setIfInBounds_toArray, List.set_cons_zero, List.set_cons_succ]
              refine wpAnyH_ready (rs := [12]) (by kernel_rfl) (by simp) ?_
              refine AllReadyH.cons (o := ⟨none, _, _, _, _, none⟩) rfl (fun K hK => ?_) AllReadyH.nil
              refine step_store_mid (by rfl) 28 _ _ (by rfl) w8.heap.size 0 #[.int .i64 (x0 + y0), .int .i64 (min x1 (x0 + y1)), .int .i64 (max x2 (x0 + y2))] (by rfl) (by rfl) (there3 HQ9.out) HSZA.out (HONE.out _ _ _) ?_
              refine hK.out _ _ (s9c HS1.out (fun p v h => (World.cell?_setCells_out _ _ _ _ _ (fun e _ => absurd e (Nat.ne_of_lt (lt_of_cell h)))).trans (cells_below HB9.out p v h))) (fun hHeld => ?_)
              clear hK K
              refine wpAnyH_done (by kernel_rfl) ?_ _
              go_wp2_with fail
              go_meet
              exact ⟨_, rfl, blk3 HQ9.out, Nat.le_refl _, ((HB9.out.setCell (Nat.le_refl _) _).setCell (Nat.le_refl _) _).setCell (Nat.le_refl _) _⟩
          case rest =>
            obtain ⟨Q, rfl, hQ, hQl, hb9⟩ := hcut
            obtain ⟨w9, rfl⟩ : ∃ w9 : World, w9 = wc := ⟨_, rfl⟩
            obtain ⟨⟨q0, q1, q2⟩, _⟩ := blk3_cells hQ
            have HB98 := Lib.hid hb9
            have hbo9 := HB8.out.trans (hb9.mono HB8.out.size)
            have HBO9 := Lib.hid hbo9
            have hw9 := HBW.out.trans (hbo9.mono HBW.out.size)
            have HW9 := Lib.hid hw9
            have hQ9 : Q < w9.heap.size := (Array.getElem?_eq_some_iff.1 hQ).1
            by_cases hlt : x0 + y1 < B
            · have HE1 := Lib.hid (HEN.out (x0 + y0) (min x1 (x0 + y1)) (max x2 (x0 + y2)) true w9 hw9 (decide_eq_true (by omega)))
              have HL9 := Lib.hid (HLEFT.out hlt)
              clear hQ hb9 hbo9 hw9 hlt
              go_wp2_with fail
              refine HE1.out.mono ?_
              rintro e w10 ⟨rfl, hB10⟩
              have HNX : Hid (ShSt ws gs w5 V B R (.int .i64 n) (.int .i64 (a : Int)) w10) := Lib.hid (by
                have hb10 := HBO9.out.trans (hB10.mono HBO9.out.size)
                exact HL9.out w10 (gbOf hb10 _) (hb10.block V hVo))
              clear hB10
              go_wp2_with fail
              go_roundw
              all_goals first | exact HNX.out | ((repeat apply Exists.intro); exact ⟨HNX.out, rfl⟩) | (simp [intOf]; done) | (simp [intOf]; omega) | omega
            · have HE1 := Lib.hid (HEN.out (x0 + y0) (min x1 (x0 + y1)) (max x2 (x0 + y2)) false w9 hw9 (decide_eq_false (by have := HBK.out; omega)))
              have HR9 := Lib.hid (HRIGHT.out (by omega))
              have HQ := Lib.hid hQ
              clear hQ hb9 hbo9 hw9 hlt
              go_wp2_with fail
              refine HE1.out.mono ?_
              rintro e w10 ⟨rfl, hB10⟩
              have hb10 := HBO9.out.trans (hB10.mono HBO9.out.size)
              have hq10 := (hB10.block Q hQ9).trans HQ.out
              obtain ⟨⟨p0, p1', p2'⟩, _⟩ := blk3_cells hq10
              have h8 : Below w8.heap.size w8 w10 := HB98.out.trans (hB10.mono HB98.out.size)
              have g7 := cells_below h8 _ _ HF7.out
              have gl := cells_below h8 _ _ HLC.out
              have gk1 := cells_below h8 _ _ HS1.out.2.2.1
              have gk2 := cells_below h8 _ _ HKC2.out
              have gv := (h8.block V (by have := (Array.getElem?_eq_some_iff.1 HV8.out).1; exact this)).trans HV8.out
              obtain ⟨⟨t0, t1, t2⟩, e0, e1, e2⟩ := blk3_cells gv
              have HNX : Hid (ShSt ws gs w5 V B R (.int .i64 (n + la)) (.int .i64 (b : Int)) (((w10.drew.setCell ⟨V, 0, none⟩ (.int .i64 (x0 + y0))).setCell ⟨V, 1, none⟩ (.int .i64 (min x1 (x0 + y1)))).setCell ⟨V, 2, none⟩ (.int .i64 (max x2 (x0 + y2))))) := Lib.hid (by
                have gvd : (w10.drew).heap[V]? = some (.cells #[.int .i64 x0, .int .i64 x1, .int .i64 x2] 28 (0, 0)) := gv
                exact HR9.out _ (set3_grown (gbOf hb10.drew _) _ _ _) (blk3 gvd))
              have a0' : (0 : Int) ≤ (a : Int) := by omega
              have a1' : (a : Int) < (gs.length : Int) := by omega
              have HGV := Lib.hid gv
              have hVQ : V ≠ Q := by have := HB8.out.size; omega
              have hVL : V ≠ L := by omega
              have hVF : V ≠ w.heap.size := by omega
              have HT1 : Hid (w10.cell? ⟨w.heap.size, 6, none⟩ = some (.slice (some ⟨L, 0, none⟩) gs.length c1') ∧ w10.cell? ⟨Kp, 1, none⟩ = some (.int .i64 (a : Int)) ∧ w10.cell? ⟨Kp, 2, none⟩ = some (.int .i64 (b : Int)) ∧ w10.cell? ⟨L, a, none⟩ = some (.int .i64 la) ∧ w10.cell? ⟨Q, 0, none⟩ = some (.int .i64 (x0 + y0)) ∧ w10.cell? ⟨Q, 1, none⟩ = some (.int .i64 (min x1 (x0 + y1))) ∧ w10.cell? ⟨Q, 2, none⟩ = some (.int .i64 (max x2 (x0 + y2)))) := Lib.hid ⟨g7, gk1, gk2, gl, p0, p1', p2'⟩
              have HT0 : Hid (w10.drew.cell? ⟨w.heap.size, 6, none⟩ = some (.slice (some ⟨L, 0, none⟩) gs.length c1') ∧ w10.drew.cell? ⟨Kp, 1, none⟩ = some (.int .i64 (a : Int)) ∧ w10.drew.cell? ⟨Kp, 2, none⟩ = some (.int .i64 (b : Int)) ∧ w10.drew.cell? ⟨L, a, none⟩ = some (.int .i64 la) ∧ w10.drew.cell? ⟨Q, 0, none⟩ = some (.int .i64 (x0 + y0)) ∧ w10.drew.cell? ⟨Q, 1, none⟩ = some (.int .i64 (min x1 (x0 + y1))) ∧ w10.drew.cell? ⟨Q, 2, none⟩ = some (.int .i64 (max x2 (x0 + y2)))) := HT1
              have HFAR : Hid (∀ (p : Addr) (v : Value), w10.cell? p = some v → p.block ≠ V → (w10.drew.setCells V 0 [.int .i64 (x0 + y0), .int .i64 (min x1 (x0 + y1)), .int .i64 (max x2 (x0 + y2))]).cell? p = some v) := Lib.hid (fun p v h hne => (World.cell?_setCells_out _ _ _ _ _ (fun e _ => absurd e hne)).trans h)
              have HSZA : Hid ((Try.prog.info? 28).map (·.size) = some (#[.int .i64 (x0 + y0), .int .i64 (min x1 (x0 + y1)), .int .i64 (max x2 (x0 + y2))] : Array Value).size) := Lib.hid size_cl
              have HONE := Lib.hid (fun a b c => (all_oneCell_toArray (one3c a b c)))
              have hwr : IntKind.i64.wrap (n + la) = n + la := by rw [IntKind.wrap_i64]; omega
              clear hB10 hb10 hq10 h8 gv q0 q1 q2 g7 gl gk1 gk2 t0 t1 t2 e0 e1 e2 p0 p1' p2'
              go_upto_region 12 with fail
              refine wp_region_held_drew (S := fun w' : World => w'.cell? ⟨w.heap.size, 6, none⟩ = some (.slice (some ⟨L, 0, none⟩) gs.length c1') ∧ w'.cell? ⟨Kp, 1, none⟩ = some (.int .i64 (a : Int)) ∧ w'.cell? ⟨Kp, 2, none⟩ = some (.int .i64 (b : Int)) ∧ w'.cell? ⟨L, a, none⟩ = some (.int .i64 la) ∧ w'.cell? ⟨Q, 0, none⟩ = some (.int .i64 (x0 + y0)) ∧ w'.cell? ⟨Q, 1, none⟩ = some (.int .i64 (min x1 (x0 + y1))) ∧ w'.cell? ⟨Q, 2, none⟩ = some (.int .i64 (max x2 (x0 + y2)))) (by kernel_rfl) HT0.out (fun hHeld => ?_)
              refine takeH (i := 0) (dst := some 59) (v := ?_) rfl (by kernel_rfl) (by kernel_rfl) (by kernel_rfl) (fun _ _ _ h => h) (Or.inl ⟨by rfl, ?_⟩) (by assumption) ?_
              rotate_left 1
              · (intro w hSw; (try dsimp only at hSw); go_simp; try (with_reducible rfl))
              try simp only [Act.put, List.setIfInBounds_toArray, List.set_cons_zero, List.set_cons_succ]
              refine takeH (i := 1) (dst := some 60) (v := ?_) rfl (by kernel_rfl) (by kernel_rfl) (by kernel_rfl) (fun _ _ _ h => h) (Or.inl ⟨by rfl, ?_⟩) (by assumption) ?_
              rotate_left 1
              · (intro w hSw; (try dsimp only at hSw); go_simp; try (with_reducible rfl))
              try simp only [Act.put, List.setIfInBounds_toArray, List.set_cons_zero, List.set_cons_succ]
              refine takeH (i := 2) (dst := some 61) (v := ?_) rfl (by kernel_rfl) (by kernel_rfl) (by kernel_rfl) (fun _ _ _ h => h) (Or.inl ⟨by rfl, ?_⟩) (by assumption) ?_
              rotate_left 1
              · (intro w hSw; (try dsimp only at hSw); go_simp; try (with_reducible rfl))
              try simp only [Act.put, List.setIfInBounds_toArray, List.set_cons_zero, List.set_cons_succ]
              refine takeH (i := 3) (dst := some 62) (v := ?_) rfl (by kernel_rfl) (by kernel_rfl) (by kernel_rfl) (fun _ _ _ h => h) (Or.inl ⟨by rfl, ?_⟩) (by assumption) ?_
              rotate_left 1
              · (intro w hSw; (try dsimp only at hSw); go_simp; try (with_reducible rfl))
              try simp only [Act.put, List.setIfInBounds_toArray, List.set_cons_zero, List.set_cons_succ]
              refine takeH (i := 4) (dst := some 63) (v := ?_) rfl (by kernel_rfl) (by kernel_rfl) (by kernel_rfl) (fun _ _ _ h => h) (Or.inl ⟨by rfl, ?_⟩) (by assumption) ?_
              rotate_left 1
              · (intro w hSw; (try dsimp only at hSw); go_simp; try (with_reducible rfl))
              try simp only [Act.put, List.setIfInBounds_toArray, List.set_cons_zero, List.set_cons_succ]
              refine takeH (i := 5) (dst := some 64) (v := ?_) rfl (by kernel_rfl) (by kernel_rfl) (by kernel_rfl) (fun _ _ _ h => h) (Or.inl ⟨by rfl, ?_⟩) (by assumption) ?_
              rotate_left 1
              · (intro w hSw; (try dsimp only at hSw); go_simp; try (with_reducible rfl))
              try simp only [Act.put, List.setIfInBounds_toArray, List.set_cons_zero, List.set_cons_succ]
              refine takeH (i := 6) (dst := some 65) (v := ?_) rfl (by kernel_rfl) (by kernel_rfl) (by kernel_rfl) (fun _ _ _ h => h) (Or.inl ⟨by rfl, ?_⟩) (by assumption) ?_
              rotate_left 1
              · (intro w hSw; (try dsimp only at hSw); go_simp; try (with_reducible rfl))
              try simp only [Act.put, List.setIfInBounds_toArray, List.set_cons_zero, List.set_cons_succ]
              refine takeH (i := 7) (dst := some 66) (v := ?_) rfl (by kernel_rfl) (by kernel_rfl) (by kernel_rfl) (fun _ _ _ h => h) (Or.inl ⟨by rfl, ?_⟩) (by assumption) ?_
              rotate_left 1
              · (intro w hSw; (try dsimp only at hSw); go_simp; try (with_reducible rfl))
              try simp only [Act.put, List.setIfInBounds_toArray, List.set_cons_zero, List.set_cons_succ]
              refine takeH (i := 8) (dst := some 67) (v := ?_) rfl (by kernel_rfl) (by kernel_rfl) (by kernel_rfl) (fun _ _ _ h => h) (Or.inl ⟨by rfl, ?_⟩) (by assumption) ?_
              rotate_left 1
              · (intro w hSw; (try dsimp only at hSw); go_simp; try (with_reducible rfl))
              try simp only [Act.put, List.setIfInBounds_toArray, List.set_cons_zero, List.set_cons_succ]
              refine takeH (i := 9) (dst := some 68) (v := ?_) rfl (by kernel_rfl) (by kernel_rfl) (by kernel_rfl) (fun _ _ _ h => h) (Or.inl ⟨by rfl, ?_⟩) (by assumption) ?_
              rotate_left 1
              · (intro w hSw; (try dsimp only at hSw); go_simp; try (with_reducible rfl))
              try simp only [Act.put, List.setIfInBounds_toArray, List.set_cons_zero, List.set_cons_succ]
              refine takeH (i := 10) (dst := some 69) (v := ?_) rfl (by kernel_rfl) (by kernel_rfl) (by kernel_rfl) (fun _ _ _ h => h) (Or.inl ⟨by rfl, ?_⟩) (by assumption) ?_
              rotate_left 1
              · (intro w hSw; (try dsimp only at hSw); go_simp; try (with_reducible rfl))
              try simp only [Act.put, List.setIfInBounds_toArray, List.set_cons_zero, List.set_cons_succ]
              refine takeH (i := 11) (dst := some 6) (v := ?_) rfl (by kernel_rfl) (by kernel_rfl) (by kernel_rfl) (fun _ _ _ h => h) (Or.inl ⟨by rfl, ?_⟩) (by assumption) ?_
              rotate_left 1
              · (intro w hSw; (try dsimp only at hSw); go_simp; try (with_reducible rfl))
              try simp only [Act.put, List.setIfInBounds_toArray, List.set_cons_zero, List.set_cons_succ]
              refine wpAnyH_ready (rs := [12]) (by kernel_rfl) (by simp) ?_
              refine AllReadyH.cons (o := ⟨none, _, _, _, _, none⟩) rfl (fun K hK => ?_) AllReadyH.nil
              refine step_store_mid (by rfl) 28 _ _ (by rfl) V 0 #[.int .i64 (x0 + y0), .int .i64 (min x1 (x0 + y1)), .int .i64 (max x2 (x0 + y2))] (by rfl) (by rfl) (there3 (w := w10.drew) HGV.out) HSZA.out (HONE.out _ _ _) ?_
              refine hK.out _ _ (⟨HFAR.out _ _ HT1.out.1 (Ne.symm hVF), HFAR.out _ _ HT1.out.2.1 hKV, HFAR.out _ _ HT1.out.2.2.1 hKV, HFAR.out _ _ HT1.out.2.2.2.1 (Ne.symm hVL), HFAR.out _ _ HT1.out.2.2.2.2.1 (Ne.symm hVQ), HFAR.out _ _ HT1.out.2.2.2.2.2.1 (Ne.symm hVQ), HFAR.out _ _ HT1.out.2.2.2.2.2.2 (Ne.symm hVQ)⟩) (fun hHeld => ?_)
              clear hK K
              refine takeH (i := 13) (dst := some 8) (v := ?_) rfl (by kernel_rfl) (by kernel_rfl) (by kernel_rfl) (fun _ _ _ h => h) (Or.inl ⟨by rfl, ?_⟩) (by assumption) ?_
              rotate_left 1
              · (intro w hSw; (try dsimp only at hSw); go_simp; try (with_reducible rfl))
              try simp only [Act.put, List.setIfInBounds_toArray, List.set_cons_zero, List.set_cons_succ]
              refine wpAnyH_done (by kernel_rfl) ?_ _
              go_wp2_with fail
              go_roundw
              all_goals first | exact HNX.out | ((repeat apply Exists.intro); exact ⟨HNX.out, rfl⟩) | (simp [intOf]; done) | (simp [intOf]; omega) | omega
        · rw [fb_letter hr h0] at hR
          have HR : Hid (n = R) := Lib.hid (by omega)
          have HK := Lib.hid (fun W => kind_letter gs[r] h0 W)
          have HT := tt_lp
          have hn15 : n ≤ 1000000000000000 := by
            have := lens_pos hr fun q hq _ => fits_at (gOk_iff.1 HOK.out).2.1 q hq
            omega
          generalize gs[r] = Rk at *
          clear hR hc hV hgr hbo hbk hbw hFo f5 f7 f8 h0
          go_wp2_with fail
          refine (HK.out _).mono ?_
          rintro e w7 ⟨rfl, hB7⟩
          have HB7 := Lib.hid (HBW.out.trans (hB7.mono HBW.out.size))
          clear hB7
          go_wp2_with fail
          go_ret2
          exact ⟨ret_ib (by rw [HR.out, HRE.out]), HB7.out.alloc HB7.out.size _⟩
end Go.Proofs.Ytkkbanbhiojllaa
