/-
  Walks: shortest of a fold of tallies, with placeIn's closure.
-/
import Derived.Test.YtnhobcfpipedmaaTaW
import Derived.Test.YtnhobcfpipedmaaTaT
import Derived.BigQuiet
import Derived.Deep.DeepCutAuto
import Derived.StillTailTactics
import Derived.Deep.QuietTactic
namespace Go.Proofs.Ytnhobcfpipedmaa
open Go.RowKit
open Wd
set_option linter.unusedVariables false
/-- placeIn's closure: are there more than k of the letter? -/
abbrev enV (bl bk : Nat) : Value := .func (.func 174) #[] #[.pointer (some ⟨bl, 0, none⟩), .pointer (some ⟨bk, 0, none⟩)]
set_option maxRecDepth 100000 in
set_option maxHeartbeats 800000 in
theorem enough_any (x0 x1 x2 x3 : Int) (l : Nat) (k : Int) (bl bk : Nat) (b : Bool) (w : World) (hl : l < 4) (c1 : w.cell? ⟨bl, 0, none⟩ = some (.int .i64 (l : Int))) (c2 : w.cell? ⟨bk, 0, none⟩ = some (.int .i64 k)) (hb : decide (k < [x0, x1, x2, x3].getD l 0) = b) :
    Calls Try.prog 174 #[ag4 x0 x1 x2 x3, .pointer (some ⟨bl, 0, none⟩), .pointer (some ⟨bk, 0, none⟩)] w fun e w' => e = .returned (.bool b) ∧ Below w.heap.size w w' := by
  have HB := Lib.hid hb
  clear hb
  have hbl := lt_of_cell c1
  have hbk := lt_of_cell c2
  obtain ⟨z, hz⟩ : ∃ z, z = [x0, x1, x2, x3].getD l 0 := ⟨_, rfl⟩
  have HZ := Lib.hid hz
  have b1 := (Below.refl _ w).alloc (Nat.le_refl _) (.cells #[.int .i64 x0, .int .i64 x1, .int .i64 x2, .int .i64 x3] 147)
  have d1 := (b1.cell (p := ⟨bl, 0, none⟩) hbl).trans c1
  have d2 := (b1.cell (p := ⟨bk, 0, none⟩) hbk).trans c2
  have d3 : (w.alloc (.cells #[.int .i64 x0, .int .i64 x1, .int .i64 x2, .int .i64 x3] 147)).cell? ⟨w.heap.size, l, none⟩ = some (.int .i64 z) := by
    rw [cell_of_row _ _ _ _ _ _ (heap_alloc_new w _), hz]
    obtain rfl | rfl | rfl | rfl : l = 0 ∨ l = 1 ∨ l = 2 ∨ l = 3 := by omega
    all_goals rfl
  have HB1 := Lib.hid b1
  have l0 : (0 : Int) ≤ (l : Int) := by omega
  have l1 : (l : Int) < 4 := by omega
  clear hz b1 c1 c2 hbl hbk
  go_enter Try.func174, Try.ntmps174
  go_upto_region 1 with fail
  generalize w.alloc (.cells #[.int .i64 x0, .int .i64 x1, .int .i64 x2, .int .i64 x3] 147) = w1 at *
  go_quiet (fail)
  go_wp2_with fail
  go_ret
  exact ⟨ret_bool (by have := HB.out; rw [← HZ.out] at this; exact this), below_drewN HB1.out _⟩
theorem whole_get {gs : List Rl} (hok : gOk gs = true) {l : Nat} (hl : l < 4) : (taPart gs 0 (wordLen gs)).getD l 0 = totT gs l := by
  unfold totT
  split
  · next h0 =>
    rw [wordLen_zero h0]
    unfold taPart
    rw [if_pos rfl, taNil_get l hl]
  · next h0 => rw [taPart_whole hok (by omega)]
theorem ret_ib {a b : Int} {q : Bool} (h : a = b) : Ending.returned (.tuple #[.int .i64 a, .bool q]) = .returned (.tuple #[.int .i64 b, .bool q]) := by rw [h]
theorem set4_grown {w w9 : World} {V : Nat} (h : w.grownBy w9 (some V)) (a b c d : Value) : w.grownBy ((((w9.setCell ⟨V, 0, none⟩ a).setCell ⟨V, 1, none⟩ b).setCell ⟨V, 2, none⟩ c).setCell ⟨V, 3, none⟩ d) (some V) := by
  have h1 := only_setCell h (p := ⟨V, 0, none⟩) (.inl rfl) a
  have h2 := only_setCell h1 (p := ⟨V, 1, none⟩) (.inl rfl) b
  have h3 := only_setCell h2 (p := ⟨V, 2, none⟩) (.inl rfl) c
  exact only_setCell h3 (p := ⟨V, 3, none⟩) (.inl rfl) d
/-- what shortest tells -/
def shortT (gs : List Rl) (l : Nat) (k : Int) : Int := if totT gs l ≤ k then 0 else selF gs l gs.length (gs.length - 1) k + 1
/-- between two rules on the way down: what is before lies in block V -/
def ShSt (gs : List Rl) (w5 : World) (V l : Nat) (k R : Int) (nv rv : Value) (wr : World) : Prop :=
  ∃ (f r : Nat) (c n : Int) (bef : List Int), nv = .int .i64 n ∧ rv = .int .i64 r ∧ r < f ∧ r < gs.length ∧ 0 ≤ c ∧ 0 ≤ n ∧ n + (lens gs).getD r 0 ≤ 1000000000000000 ∧ n + selF gs l f r c = R ∧ bef.getD l 0 + c = k ∧ taOk n bef ∧
    wr.heap[V]? = some (.cells (taCs bef) 147 (0, 0)) ∧ w5.grownBy wr (some V)
set_option maxRecDepth 100000 in
set_option maxHeartbeats 6400000 in
theorem taShort_any (fv gv : Value) (gs : List Rl) (l : Nat) (k : Int) (bl bk lo : Nat) (w : World) (hok : gOk gs = true) (hr : Rules w gv gs) (h : IsTa w lo fv gv gs) (hl : l < 4) (hk : 0 ≤ k ∧ k ≤ 9223372036854775807)
    (c1 : w.cell? ⟨bl, 0, none⟩ = some (.int .i64 (l : Int))) (c2 : w.cell? ⟨bk, 0, none⟩ = some (.int .i64 k)) :
    Calls Try.prog 173 #[fv, enV bl bk] w fun e w' => e = .returned (.tuple #[.int .i64 (shortT gs l k), .bool (decide (k < totT gs l))]) ∧ Below w.heap.size w w' := by
  have hn400 := gOk_len hok
  have HE0 := Lib.hid (fun W (hb : Below w.heap.size w W) => enough_any 0 0 0 0 l k bl bk false W hl ((hb.cell (lt_of_cell c1)).trans c1) ((hb.cell (lt_of_cell c2)).trans c2) (by
    have : [(0 : Int), 0, 0, 0].getD l 0 = 0 := by
      obtain rfl | rfl | rfl | rfl : l = 0 ∨ l = 1 ∨ l = 2 ∨ l = 3 := by omega
      all_goals rfl
    rw [this]
    simp
    omega))
  have HEN := Lib.hid (fun x0 x1 x2 x3 b W (hb : Below w.heap.size w W) (hd : decide (k < [x0, x1, x2, x3].getD l 0) = b) => enough_any x0 x1 x2 x3 l k bl bk b W hl ((hb.cell (lt_of_cell c1)).trans c1) ((hb.cell (lt_of_cell c2)).trans c2) hd)
  have HWH := Lib.hid (fun W (hb : Below w.heap.size w W) => taWhole_any fv gv gs lo W hok (hr.kept hb) (h.kept hb))
  have hwg : [(taPart gs 0 (wordLen gs)).getD 0 0, (taPart gs 0 (wordLen gs)).getD 1 0, (taPart gs 0 (wordLen gs)).getD 2 0, (taPart gs 0 (wordLen gs)).getD 3 0].getD l 0 = totT gs l := by
    have h4 : (taPart gs 0 (wordLen gs)).length = 4 := by
      rcases Nat.eq_zero_or_pos gs.length with h0 | h0
      · rw [wordLen_zero h0]
        unfold taPart
        rw [if_pos rfl]
        rfl
      · exact (taPart_ok hok h0 0 _).1
    rw [← four_of h4]
    exact whole_get hok hl
  have HTC : Hid (taCs (taPart gs 0 (wordLen gs)) = #[.int .i64 ((taPart gs 0 (wordLen gs)).getD 0 0), .int .i64 ((taPart gs 0 (wordLen gs)).getD 1 0), .int .i64 ((taPart gs 0 (wordLen gs)).getD 2 0), .int .i64 ((taPart gs 0 (wordLen gs)).getD 3 0)]) := Lib.hid rfl
  rw [HTC.out] at HWH
  have HRU := Lib.hid (fun W (hb : Below w.heap.size w W) => hr.kept hb)
  obtain ⟨A1, c1', A2, c2', rfl, h1, h2⟩ := h.shape
  have HO1 := Lib.hid (fun W (hb : Below w.heap.size w W) => own_below h1 hb (Nat.le_refl _))
  have HO2 := Lib.hid (fun W (hb : Below w.heap.size w W) => own_below h2 hb (Nat.le_refl _))
  obtain ⟨Ag, cg, rfl, _⟩ := id hr
  have HOK := Lib.hid hok
  have hF1 := heap_alloc_new w (.cells (taAll (.slice Ag gs.length cg) (.slice A1 gs.length c1') (.slice A2 gs.length c2')) 154)
  have hb1 : Below w.heap.size w (w.alloc (.cells (taAll (.slice Ag gs.length cg) (.slice A1 gs.length c1') (.slice A2 gs.length c2')) 154)) := (Below.refl _ w).alloc (Nat.le_refl _) _
  have HF1 := Lib.hid hF1
  have HB1 := Lib.hid hb1
  unfold shortT
  have hm : [(taPart gs 0 (wordLen gs)).getD 0 0, (taPart gs 0 (wordLen gs)).getD 1 0, (taPart gs 0 (wordLen gs)).getD 2 0, (taPart gs 0 (wordLen gs)).getD 3 0].getD l 0 = totT gs l := hwg
  generalize (taPart gs 0 (wordLen gs)).getD 0 0 = z0 at *
  generalize (taPart gs 0 (wordLen gs)).getD 1 0 = z1 at *
  generalize (taPart gs 0 (wordLen gs)).getD 2 0 = z2 at *
  generalize (taPart gs 0 (wordLen gs)).getD 3 0 = z3 at *
  by_cases htot : totT gs l ≤ k
  · rw [if_pos htot, show decide (k < totT gs l) = false from decide_eq_false (by omega)]
    have HEW := Lib.hid (fun W (hb : Below w.heap.size w W) => HEN.out z0 z1 z2 z3 false W hb (by rw [hwg]; exact decide_eq_false (by omega)))
    clear hwg hm HEN hF1 hb1 h h1 h2 hr hok c1 c2
    go_enter Try.func173, Try.ntmps173
    go_wp2_with fail
    refine (HE0.out _ HB1.out).mono ?_
    rintro e w2 ⟨rfl, hB2⟩
    have HB2 := Lib.hid (HB1.out.trans (hB2.mono HB1.out.size))
    have HF2 := Lib.hid ((hB2.block w.heap.size (by simp)).trans HF1.out)
    clear hB2
    obtain ⟨d, hu, hd⟩ := und_taFold
    have HU := Lib.hid (And.intro hu hd)
    have HSF := Lib.hid (size_taFold (.slice Ag gs.length cg) (.slice A1 gs.length c1') (.slice A2 gs.length c2'))
    clear hu hd
    go_wp2_with (with_reducible refine wpList_load_rowD HU.out.2 rfl 154 _ rfl w.heap.size rfl 154 _ _ HF2.out HU.out.1 HSF.out ?_)
    refine (HWH.out _ HB2.out).mono ?_
    rintro e w3 ⟨rfl, hB3⟩
    have HB3 := Lib.hid (HB2.out.trans (hB3.mono HB2.out.size))
    clear hB3
    go_wp2_with fail
    refine (HEW.out _ HB3.out).mono ?_
    rintro e w4 ⟨rfl, hB4⟩
    have HB4 := Lib.hid (HB3.out.trans (hB4.mono HB3.out.size))
    clear hB4
    go_wp2_with fail
    go_ret2
    exact ⟨rfl, HB4.out⟩
  · rw [if_neg htot, show decide (k < totT gs l) = true from decide_eq_true (by omega)]
    have hg : 0 < gs.length := by
      rcases Nat.eq_zero_or_pos gs.length with h0 | h0
      · exfalso
        apply htot
        unfold totT
        rw [if_pos h0]
        exact hk.1
      · exact h0
    have HEW := Lib.hid (fun W (hb : Below w.heap.size w W) => HEN.out z0 z1 z2 z3 true W hb (by rw [hwg]; exact decide_eq_true (by omega)))
    obtain ⟨M, rfl, _, hMl⟩ := own_addr h2 hg
    have h1' : w.ownsRow lo 2 1 (.slice A1 gs.length c1') gs.length (iv (lens gs)) := by
      have := h1
      unfold OwnsI at this
      rw [lens_len] at this
      exact this
    obtain ⟨L, rfl, _, hLl⟩ := own_addr h1' hg
    have HL1 := Lib.hid (fun W (hb : Below w.heap.size w W) => own_below h1' hb (Nat.le_refl _))
    have hwl := small_at (gOk_iff.1 hok).2.2 (gs.length - 1) (by omega)
    have HLA := Lib.hid (fun W => lastA Ag gs.length cg (by omega) W)
    clear hwg hm hF1 hb1 h h1 h1' h2 hr hok c1 c2
    obtain ⟨d, hu, hd⟩ := und_taFold
    have HU := Lib.hid (And.intro hu hd)
    have HSF := Lib.hid (size_taFold (.slice Ag gs.length cg) (.slice (some ⟨L, 0, none⟩) gs.length c1') (.slice (some ⟨M, 0, none⟩) gs.length c2'))
    clear hu hd
    go_enter Try.func173, Try.ntmps173
    go_wp2_with fail
    refine (HE0.out _ HB1.out).mono ?_
    rintro e w2 ⟨rfl, hB2⟩
    have HB2 := Lib.hid (HB1.out.trans (hB2.mono HB1.out.size))
    have HF2 := Lib.hid ((hB2.block w.heap.size (by simp)).trans HF1.out)
    clear hB2
    go_wp2_with (with_reducible refine wpList_load_rowD HU.out.2 rfl 154 _ rfl w.heap.size rfl 154 _ _ HF2.out HU.out.1 HSF.out ?_)
    refine (HWH.out _ HB2.out).mono ?_
    rintro e w3 ⟨rfl, hB3⟩
    have HB3 := Lib.hid (HB2.out.trans (hB3.mono HB2.out.size))
    have hFl2 : w.heap.size < w2.heap.size := (Array.getElem?_eq_some_iff.1 HF2.out).1
    have HF3 := Lib.hid ((hB3.block w.heap.size hFl2).trans HF2.out)
    clear hB3
    go_wp2_with fail
    refine (HEW.out _ HB3.out).mono ?_
    rintro e w4 ⟨rfl, hB4⟩
    have HB4 := Lib.hid (HB3.out.trans (hB4.mono HB3.out.size))
    have hFl3 : w.heap.size < w3.heap.size := (Array.getElem?_eq_some_iff.1 HF3.out).1
    have HF4 := Lib.hid ((hB4.block w.heap.size hFl3).trans HF3.out)
    have hFl4 : w.heap.size < w4.heap.size := (Array.getElem?_eq_some_iff.1 HF4.out).1
    clear hB4 hFl2 hFl3
    go_upto_region 5 with fail
    obtain ⟨M1, hM1⟩ : ∃ M1 : Nat, M1 = gs.length - 1 := ⟨_, rfl⟩
    have hlst : ((gs.length : Int) - 1) = (M1 : Int) := by omega
    go_cut [6, 7, 8] (fun s6 s7 s8 wx => ∃ V, s6 = .int .i64 0 ∧ s7 = .pointer (some ⟨V, 0, none⟩) ∧ s8 = .int .i64 (M1 : Int) ∧ wx.heap[V]? = some (.cells #[.int .i64 0, .int .i64 0, .int .i64 0, .int .i64 0] 147 (0, 0)) ∧ w4.heap.size ≤ V ∧ Below w4.heap.size w4 wx)
    case first =>
      have f0 : w4.cell? ⟨w.heap.size, 0, none⟩ = some (.int .i64 0) := cell_of_row _ _ 0 _ _ _ HF4.out
      have f1 : w4.cell? ⟨w.heap.size, 1, none⟩ = some (.int .i64 0) := cell_of_row _ _ 1 _ _ _ HF4.out
      have f2 : w4.cell? ⟨w.heap.size, 2, none⟩ = some (.int .i64 0) := cell_of_row _ _ 2 _ _ _ HF4.out
      have f3 : w4.cell? ⟨w.heap.size, 3, none⟩ = some (.int .i64 0) := cell_of_row _ _ 3 _ _ _ HF4.out
      have f6 : w4.cell? ⟨w.heap.size, 6, none⟩ = some (.slice Ag gs.length cg) := cell_of_row _ _ 6 _ _ _ HF4.out
      have HLB : Hid (∀ W, Calls Try.prog 107 #[.slice Ag gs.length cg] W fun e w' => e = .returned (.int .i64 (M1 : Int)) ∧ w' = W) := Lib.hid (fun W => (HLA.out W).mono fun e w' h => ⟨h.1.trans (ret_int hlst), h.2⟩)
      clear hlst hM1
      go_region_held3 (fun w' => w'.cell? ⟨w.heap.size, 0, none⟩ = some (.int .i64 0) ∧ w'.cell? ⟨w.heap.size, 1, none⟩ = some (.int .i64 0) ∧ w'.cell? ⟨w.heap.size, 2, none⟩ = some (.int .i64 0) ∧ w'.cell? ⟨w.heap.size, 3, none⟩ = some (.int .i64 0) ∧ w'.cell? ⟨w.heap.size, 6, none⟩ = some (.slice Ag gs.length cg))
        (first | go_keep)
        (first
          | (go_at_call 107
             refine (HLB.out _).mono ?_
             rintro e w9 ⟨rfl, rfl⟩))
      all_goals (go_wp2_with fail; go_meet)
      all_goals first | exact ⟨_, rfl, rfl, rfl, heap_alloc_new _ _, Nat.le_refl _, (Below.refl _ w4).drew.alloc (Nat.le_refl _) _⟩ | exact ⟨_, rfl, rfl, rfl, heap_alloc_new w4 _, Nat.le_refl _, ((Below.refl _ w4).alloc (Nat.le_refl _) _).drew⟩
    case rest =>
      obtain ⟨V, rfl, rfl, rfl, hV, hVl, hb5⟩ := hcut
      obtain ⟨w5, rfl⟩ : ∃ w5 : World, w5 = wc := ⟨_, rfl⟩
      have HB5 := Lib.hid (HB4.out.trans (hb5.mono HB4.out.size))
      have HF5 := Lib.hid ((hb5.block w.heap.size hFl4).trans HF4.out)
      have hFl5 : w.heap.size < w5.heap.size := (Array.getElem?_eq_some_iff.1 HF5.out).1
      have hVw : w.heap.size < V := by omega
      have hST : ShSt gs w5 V l k (selF gs l gs.length (gs.length - 1) k) (.int .i64 0) (.int .i64 (M1 : Int)) w5 := ⟨gs.length, M1, k, 0, taNil, rfl, rfl, by omega, by omega, hk.1, Int.le_refl _, by rw [hM1]; omega, by rw [hM1]; omega, by rw [taNil_get l hl]; omega, taNil_ok, hV, World.grownBy.refl _ _⟩
      have HST := Lib.hid hST
      have HAL : Hid (∀ i, i < gs.length → taOk ((lens gs).getD i 0) (taAt gs i) ∧ (lens gs).getD i 0 ≤ 1000000000000000) := Lib.hid (fun i hi => ⟨taAt_ok HOK.out hi, small_at (gOk_iff.1 HOK.out).2.2 i hi⟩)
      obtain ⟨R, hRe⟩ : ∃ R, R = selF gs l gs.length (gs.length - 1) k := ⟨_, rfl⟩
      have HRE := Lib.hid hRe
      rw [← hRe] at HST
      clear hRe hST hV hb5 hlst hM1 hwl htot
      go_wp2_with fail
      go_loopw [6, 8, 9, 10, 11] (fun nv rv _ _ _ wr => ShSt gs w5 V l k R nv rv wr) (fun _ rv _ _ _ _ => (intOf rv).toNat)
      case atStart => exact HST.out
      case round =>
        obtain ⟨f, r, c, n, bef, rfl, rfl, hrf, hr, hc0, hn0, hnl, hR, hbk, hbo, hV, hgr⟩ := hrel
        obtain ⟨wo, rfl⟩ : ∃ wo : World, wo = wr := ⟨_, rfl⟩
        have hbw : Below w.heap.size w wo := HB5.out.grown hgr HB5.out.size (fun q hq => by injection hq with hq; omega)
        have hFo := (hgr.block w.heap.size hFl5 (by intro e; injection e with e; omega)).trans HF5.out
        have f5 : wo.cell? ⟨w.heap.size, 5, none⟩ = some taT := cell_of_row _ _ 5 _ _ _ hFo
        have f6 : wo.cell? ⟨w.heap.size, 6, none⟩ = some (.slice Ag gs.length cg) := cell_of_row _ _ 6 _ _ _ hFo
        have f7 : wo.cell? ⟨w.heap.size, 7, none⟩ = some (.slice (some ⟨L, 0, none⟩) gs.length c1') := cell_of_row _ _ 7 _ _ _ hFo
        have f8 : wo.cell? ⟨w.heap.size, 8, none⟩ = some (.slice (some ⟨M, 0, none⟩) gs.length c2') := cell_of_row _ _ 8 _ _ _ hFo
        obtain ⟨Ay, cy, hvy, hcy⟩ := HRU.out wo hbw
        injection hvy with hvA _ hvc
        subst hvA hvc
        rcases hcy with hn0' | ⟨g, rfl, hg', hc⟩
        · rw [hn0'] at hr; simp at hr
        obtain ⟨a0, a1, a2⟩ := rules_cells hc hr
        obtain ⟨f', rfl⟩ : ∃ f', f = f' + 1 := ⟨f - 1, by omega⟩
        have HBW := Lib.hid hbw
        have r0 : (0 : Int) ≤ (r : Int) := by omega
        have r1 : (r : Int) < (gs.length : Int) := by omega
        by_cases h0 : gs[r].L.size = 0
        · obtain ⟨a, b, ha, hb, hak, hbk', hs2, p1, p3, p2, p4⟩ := pair_parts HOK.out hr h0
          have hva := (HAL.out a (by omega)).1
          have hla := (HAL.out a (by omega)).2
          have HK := Lib.hid (fun W => kind_pair gs[r] h0 W)
          have HT := tt_pp
          have HMo := Lib.hid (HO2.out wo hbw)
          have HLo := Lib.hid (HL1.out wo hbw)
          obtain ⟨m0, m1, m2, m3⟩ := taSt_cells (fun i hi => (HAL.out i hi).1.1) HMo.out (show a < gs.length by omega)
          obtain ⟨⟨v0, v1, v2, v3⟩, _⟩ := blk4_cells hV
          have hVo : V < wo.heap.size := (Array.getElem?_eq_some_iff.1 hV).1
          have hxa := hbo.2
          have hxb := hva.2
          have e1 := four_of hbo.1
          have e2 := four_of hva.1
          have hgl : bef.getD l 0 + (taAt gs a).getD l 0 = [bef.getD 0 0 + (taAt gs a).getD 0 0, bef.getD 1 0 + (taAt gs a).getD 1 0, bef.getD 2 0 + (taAt gs a).getD 2 0, bef.getD 3 0 + (taAt gs a).getD 3 0].getD l 0 := by
            obtain rfl | rfl | rfl | rfl : l = 0 ∨ l = 1 ∨ l = 2 ∨ l = 3 := by omega
            all_goals rfl
          have HGL := Lib.hid hgl
          have hx : ∀ i, i < 4 → 0 ≤ [bef.getD 0 0, bef.getD 1 0, bef.getD 2 0, bef.getD 3 0].getD i 0 ∧ [bef.getD 0 0, bef.getD 1 0, bef.getD 2 0, bef.getD 3 0].getD i 0 ≤ 1000000000000000 := fun i hi => by
            rw [← e1]; have := hxa i hi; omega
          have hy : ∀ i, i < 4 → 0 ≤ [(taAt gs a).getD 0 0, (taAt gs a).getD 1 0, (taAt gs a).getD 2 0, (taAt gs a).getD 3 0].getD i 0 ∧ [(taAt gs a).getD 0 0, (taAt gs a).getD 1 0, (taAt gs a).getD 2 0, (taAt gs a).getD 3 0].getD i 0 ≤ 1000000000000000 := fun i hi => by
            rw [← e2]; have := hxb i hi; omega
          have HTH := Lib.hid (fun W => taThen_any _ _ _ _ _ _ _ _ W hx hy)
          have lc : wo.cell? ⟨L, a, none⟩ = some (.int .i64 ((lens gs).getD a 0)) := by
            rw [HLo.out.cellAt a (by omega)]; exact iv_at (by rw [lens_len]; omega)
          have HLEFT : Hid (c < (taAt gs a).getD l 0 → ∀ W, wo.grownBy W (some V) → W.heap[V]? = wo.heap[V]? → ShSt gs w5 V l k R (.int .i64 n) (.int .i64 (a : Int)) W) := Lib.hid (fun hlt W h1 h2 => by
            rw [sel_left hr h0 ha hlt] at hR
            exact ⟨f', a, c, n, bef, rfl, rfl, by omega, by omega, hc0, hn0, by omega, hR, hbk, hbo, h2.trans hV, gbTrans hgr h1⟩)
          have HRIGHT : Hid ((taAt gs a).getD l 0 ≤ c → ∀ W, wo.grownBy W (some V) → W.heap[V]? = some (.cells (taCs (taJ bef (taAt gs a))) 147 (0, 0)) → ShSt gs w5 V l k R (.int .i64 (n + (lens gs).getD a 0)) (.int .i64 (b : Int)) W) := Lib.hid (fun hlt W h1 h2 => by
            rw [sel_right hr h0 ha hb (by omega)] at hR
            exact ⟨f', b, c - (taAt gs a).getD l 0, n + (lens gs).getD a 0, taJ bef (taAt gs a), rfl, rfl, by omega, by omega, by omega, by omega, by omega, by omega, by rw [taJ_get _ _ l hl]; omega, taOk_J0 _ _ _ _ hn0 p1 hbo hva, h2, gbTrans hgr h1⟩)
          have HTCJ : Hid (taCs (taJ bef (taAt gs a)) = #[.int .i64 (bef.getD 0 0 + (taAt gs a).getD 0 0), .int .i64 (bef.getD 1 0 + (taAt gs a).getD 1 0), .int .i64 (bef.getD 2 0 + (taAt gs a).getD 2 0), .int .i64 (bef.getD 3 0 + (taAt gs a).getD 3 0)]) := Lib.hid rfl
          rw [HTCJ.out] at HRIGHT
          have HBK : Hid (k = bef.getD l 0 + c) := Lib.hid (by omega)
          have hz : (lens gs).getD a 0 + n ≤ 1000000000000000 := by omega
          have hVc : wo.heap[V]? = some (.cells #[.int .i64 (bef.getD 0 0), .int .i64 (bef.getD 1 0), .int .i64 (bef.getD 2 0), .int .i64 (bef.getD 3 0)] 147 (0, 0)) := hV
          clear hx hy e1 e2 hgl hva hbo hxa hxb hbk hR
          generalize bef.getD 0 0 = x0 at *
          generalize bef.getD 1 0 = x1 at *
          generalize bef.getD 2 0 = x2 at *
          generalize bef.getD 3 0 = x3 at *
          generalize (taAt gs a).getD 0 0 = y0 at *
          generalize (taAt gs a).getD 1 0 = y1 at *
          generalize (taAt gs a).getD 2 0 = y2 at *
          generalize (taAt gs a).getD 3 0 = y3 at *
          generalize (lens gs).getD a 0 = la at *
          rw [ha] at a1
          rw [hb] at a2
          generalize gs[r] = Rk at *
          obtain ⟨Lt, lt, rt⟩ := Rk
          simp only at ha hb a0
          have HKX : Hid (∀ W, Calls Try.prog 117 #[.agg #[.string Lt, .int .i64 (a : Int), .int .i64 (b : Int)]] W fun e w' => e = .returned (.iface 171 (.agg #[.string Lt, .int .i64 (a : Int), .int .i64 (b : Int)])) ∧ Below W.heap.size W w') := Lib.hid (fun W => by
            have := HK.out W
            unfold agg3 at this
            rw [ha, hb] at this
            exact this)
          clear ha hb hc hFo HK h0 hbw hV
          go_wp2_with fail
          refine (HKX.out _).mono ?_
          rintro e w7 ⟨rfl, hB7⟩
          have hb8 := hB7.alloc hB7.size (.cells #[.string Lt, .int .i64 a, .int .i64 b] 171)
          have kcs := heap_alloc_new w7 (.cells #[.string Lt, .int .i64 a, .int .i64 b] 171)
          have kc1 : (w7.alloc (.cells #[.string Lt, .int .i64 a, .int .i64 b] 171)).cell? ⟨w7.heap.size, 1, none⟩ = some (.int .i64 a) := by rw [cell_of_row _ _ _ _ _ _ kcs]; rfl
          have kc2 : (w7.alloc (.cells #[.string Lt, .int .i64 a, .int .i64 b] 171)).cell? ⟨w7.heap.size, 2, none⟩ = some (.int .i64 b) := by rw [cell_of_row _ _ _ _ _ _ kcs]; rfl
          have HB8 := Lib.hid hb8
          obtain ⟨Kp, hKp⟩ : ∃ Kp, Kp = w7.heap.size := ⟨_, rfl⟩
          have hwo7 : wo.heap.size ≤ w7.heap.size := hB7.size
          clear a0 a1 a2 hB7 kcs f6
          go_upto_region 10 with fail
          have hKV : Kp ≠ V := by omega
          have hK8 : Kp < (w7.alloc (.cells #[.string Lt, .int .i64 a, .int .i64 b] 171)).heap.size := by simp; omega
          rw [← hKp] at kc1 kc2 ⊢
          generalize w7.alloc (.cells #[.string Lt, .int .i64 a, .int .i64 b] 171) = w8 at *
          have HS1 : Hid (w8.cell? ⟨w.heap.size, 5, none⟩ = some taT ∧ w8.cell? ⟨w.heap.size, 8, none⟩ = some (.slice (some ⟨M, 0, none⟩) gs.length c2') ∧ w8.cell? ⟨Kp, 1, none⟩ = some (.int .i64 (a : Int)) ∧ w8.cell? ⟨V, 0, none⟩ = some (.int .i64 x0) ∧ w8.cell? ⟨V, 1, none⟩ = some (.int .i64 x1) ∧ w8.cell? ⟨V, 2, none⟩ = some (.int .i64 x2) ∧ w8.cell? ⟨V, 3, none⟩ = some (.int .i64 x3) ∧ w8.cell? ⟨M, a * 4, none⟩ = some (.int .i64 y0) ∧ w8.cell? ⟨M, a * 4 + 1, none⟩ = some (.int .i64 y1) ∧ w8.cell? ⟨M, a * 4 + 2, none⟩ = some (.int .i64 y2) ∧ w8.cell? ⟨M, a * 4 + 3, none⟩ = some (.int .i64 y3)) := Lib.hid ⟨cells_below hb8 _ _ f5, cells_below hb8 _ _ f8, kc1, cells_below hb8 _ _ v0, cells_below hb8 _ _ v1, cells_below hb8 _ _ v2, cells_below hb8 _ _ v3, cells_below hb8 _ _ m0, cells_below hb8 _ _ m1, cells_below hb8 _ _ m2, cells_below hb8 _ _ m3⟩
          have HKC2 := Lib.hid kc2
          have HF7 := Lib.hid (cells_below hb8 _ _ f7)
          have HLC := Lib.hid (cells_below hb8 _ _ lc)
          have HV8 := Lib.hid ((hb8.block V hVo).trans hVc)
          clear hKp hwo7 kc1 kc2 f5 f7 f8 v0 v1 v2 v3 m0 m1 m2 m3 lc hb8 hVc
          go_cut [11] (fun s11 wx => ∃ Q, s11 = .pointer (some ⟨Q, 0, none⟩) ∧ wx.heap[Q]? = some (.cells #[.int .i64 (x0 + y0), .int .i64 (x1 + y1), .int .i64 (x2 + y2), .int .i64 (x3 + y3)] 147 (0, 0)) ∧ w8.heap.size ≤ Q ∧ Below w8.heap.size w8 wx)
          case first =>
            have HS0 : Hid (w8.drew.cell? ⟨w.heap.size, 5, none⟩ = some taT ∧ w8.drew.cell? ⟨w.heap.size, 8, none⟩ = some (.slice (some ⟨M, 0, none⟩) gs.length c2') ∧ w8.drew.cell? ⟨Kp, 1, none⟩ = some (.int .i64 (a : Int)) ∧ w8.drew.cell? ⟨V, 0, none⟩ = some (.int .i64 x0) ∧ w8.drew.cell? ⟨V, 1, none⟩ = some (.int .i64 x1) ∧ w8.drew.cell? ⟨V, 2, none⟩ = some (.int .i64 x2) ∧ w8.drew.cell? ⟨V, 3, none⟩ = some (.int .i64 x3) ∧ w8.drew.cell? ⟨M, a * 4, none⟩ = some (.int .i64 y0) ∧ w8.drew.cell? ⟨M, a * 4 + 1, none⟩ = some (.int .i64 y1) ∧ w8.drew.cell? ⟨M, a * 4 + 2, none⟩ = some (.int .i64 y2) ∧ w8.drew.cell? ⟨M, a * 4 + 3, none⟩ = some (.int .i64 y3)) := HS1
            have HSZA : Hid ((Try.prog.info? 147).map (·.size) = some (#[.int .i64 (x0 + y0), .int .i64 (x1 + y1), .int .i64 (x2 + y2), .int .i64 (x3 + y3)] : Array Value).size) := Lib.hid size_ta
            have HONE := Lib.hid (fun a b c d => (all_oneCell_toArray (one4 a b c d)))
            have HBA : Hid (∀ o, Below w8.heap.size w8 (w8.drew.alloc o)) := Lib.hid (fun o => (Below.refl _ w8).drew.alloc (Nat.le_refl _) o)
            have a0' : (0 : Int) ≤ (a : Int) := by omega
            have a1' : (a : Int) < (gs.length : Int) := by omega
            refine wp_region_held_drew (S := fun w' : World => w'.cell? ⟨w.heap.size, 5, none⟩ = some taT ∧ w'.cell? ⟨w.heap.size, 8, none⟩ = some (.slice (some ⟨M, 0, none⟩) gs.length c2') ∧ w'.cell? ⟨Kp, 1, none⟩ = some (.int .i64 (a : Int)) ∧ w'.cell? ⟨V, 0, none⟩ = some (.int .i64 x0) ∧ w'.cell? ⟨V, 1, none⟩ = some (.int .i64 x1) ∧ w'.cell? ⟨V, 2, none⟩ = some (.int .i64 x2) ∧ w'.cell? ⟨V, 3, none⟩ = some (.int .i64 x3) ∧ w'.cell? ⟨M, a * 4, none⟩ = some (.int .i64 y0) ∧ w'.cell? ⟨M, a * 4 + 1, none⟩ = some (.int .i64 y1) ∧ w'.cell? ⟨M, a * 4 + 2, none⟩ = some (.int .i64 y2) ∧ w'.cell? ⟨M, a * 4 + 3, none⟩ = some (.int .i64 y3)) (by kernel_rfl) HS0.out (fun hHeld => ?_)
            refine takeH (i := 0) (dst := some 44) (v := ?_) rfl (by kernel_rfl) (by kernel_rfl) (by kernel_rfl) (fun _ _ _ h => h) (Or.inl ⟨by rfl, ?_⟩) (by assumption) ?_
            rotate_left 1
            · (intro w hSw; (try dsimp only at hSw); go_simp; try (with_reducible rfl))
            try simp only [Act.put, List.setIfInBounds_toArray, List.set_cons_zero, List.set_cons_succ]
            refine takeH (i := 1) (dst := some 45) (v := ?_) rfl (by kernel_rfl) (by kernel_rfl) (by kernel_rfl) (fun _ _ _ h => h) (Or.inl ⟨by rfl, ?_⟩) (by assumption) ?_
            rotate_left 1
            · (intro w hSw; (try dsimp only at hSw); go_simp; try (with_reducible rfl))
            try simp only [Act.put, List.setIfInBounds_toArray, List.set_cons_zero, List.set_cons_succ]
            refine takeH (i := 2) (dst := some 46) (v := ?_) rfl (by kernel_rfl) (by kernel_rfl) (by kernel_rfl) (fun _ _ _ h => h) (Or.inl ⟨by rfl, ?_⟩) (by assumption) ?_
            rotate_left 1
            · (intro w hSw; (try dsimp only at hSw); go_simp; try (with_reducible rfl))
            try simp only [Act.put, List.setIfInBounds_toArray, List.set_cons_zero, List.set_cons_succ]
            refine takeH (i := 3) (dst := some 47) (v := ?_) rfl (by kernel_rfl) (by kernel_rfl) (by kernel_rfl) (fun _ _ _ h => h) (Or.inl ⟨by rfl, ?_⟩) (by assumption) ?_
            rotate_left 1
            · (intro w hSw; (try dsimp only at hSw); go_simp; try (with_reducible rfl))
            try simp only [Act.put, List.setIfInBounds_toArray, List.set_cons_zero, List.set_cons_succ]
            refine takeH (i := 4) (dst := some 48) (v := ?_) rfl (by kernel_rfl) (by kernel_rfl) (by kernel_rfl) (fun _ _ _ h => h) (Or.inl ⟨by rfl, ?_⟩) (by assumption) ?_
            rotate_left 1
            · (intro w hSw; (try dsimp only at hSw); go_simp; try (with_reducible rfl))
            try simp only [Act.put, List.setIfInBounds_toArray, List.set_cons_zero, List.set_cons_succ]
            refine takeH (i := 5) (dst := some 49) (v := ?_) rfl (by kernel_rfl) (by kernel_rfl) (by kernel_rfl) (fun _ _ _ h => h) (Or.inl ⟨by rfl, ?_⟩) (by assumption) ?_
            rotate_left 1
            · (intro w hSw; (try dsimp only at hSw); go_simp; try (with_reducible rfl))
            try simp only [Act.put, List.setIfInBounds_toArray, List.set_cons_zero, List.set_cons_succ]
            refine takeH (i := 6) (dst := some 50) (v := ?_) rfl (by kernel_rfl) (by kernel_rfl) (by kernel_rfl) (fun _ _ _ h => h) (Or.inl ⟨by rfl, ?_⟩) (by assumption) ?_
            rotate_left 1
            · (intro w hSw; (try dsimp only at hSw); go_simp; try (with_reducible rfl))
            try simp only [Act.put, List.setIfInBounds_toArray, List.set_cons_zero, List.set_cons_succ]
            refine takeH (i := 7) (dst := some 51) (v := ?_) rfl (by kernel_rfl) (by kernel_rfl) (by kernel_rfl) (fun _ _ _ h => h) (Or.inl ⟨by rfl, ?_⟩) (by assumption) ?_
            rotate_left 1
            · (intro w hSw; (try dsimp only at hSw); go_simp; try (with_reducible rfl))
            try simp only [Act.put, List.setIfInBounds_toArray, List.set_cons_zero, List.set_cons_succ]
            refine takeH (i := 8) (dst := some 52) (v := ?_) rfl (by kernel_rfl) (by kernel_rfl) (by kernel_rfl) (fun _ _ _ h => h) (Or.inl ⟨by rfl, ?_⟩) (by assumption) ?_
            rotate_left 1
            · (intro w hSw; (try dsimp only at hSw); go_simp; try (with_reducible rfl))
            try simp only [Act.put, List.setIfInBounds_toArray, List.set_cons_zero, List.set_cons_succ]
            refine takeH (i := 9) (dst := some 53) (v := ?_) rfl (by kernel_rfl) (by kernel_rfl) (by kernel_rfl) (fun _ _ _ h => h) (Or.inl ⟨by rfl, ?_⟩) (by assumption) ?_
            rotate_left 1
            · (intro w hSw; (try dsimp only at hSw); go_simp; try (with_reducible rfl))
            try simp only [Act.put, List.setIfInBounds_toArray, List.set_cons_zero, List.set_cons_succ]
            refine wpAnyH_ready (rs := [10, 11]) (by kernel_rfl) (by simp) ?_
            refine AllReadyH.cons (o := ⟨some 54, _, _, _, _, none⟩) rfl (fun K hK => ?_) (AllReadyH.cons (o := ⟨some 11, _, _, _, _, none⟩) rfl (fun K hK => ?_) AllReadyH.nil)
            · go_simp
              go_at_call 148
              refine (HTH.out _).mono ?_
              rintro e w9 ⟨rfl, hB9⟩
              have hB9 : Below w8.heap.size w8 w9 := below_undrew hB9
              have HB9 := Lib.hid hB9
              have HS9 := Lib.hid (s11 HS1.out (cells_below hB9))
              clear hB9
              refine hK.out _ _ HS9.out (fun hHeld => ?_)
              clear hK K
              try simp only [Act.put, List.setIfInBounds_toArray, List.set_cons_zero, List.set_cons_succ]
              refine wpAnyH_ready (rs := [11]) (by kernel_rfl) (by simp) ?_
              refine AllReadyH.cons (o := ⟨some 11, _, _, _, _, none⟩) rfl (fun K hK => ?_) AllReadyH.nil
              go_simp
              refine hK.out _ _ (s11 HS9.out (cells_below ((Below.refl _ w9).alloc (Nat.le_refl _) _))) (fun hHeld => ?_)
              clear hK K
              try simp only [Act.put, List.setIfInBounds_toArray, List.set_cons_zero, List.set_cons_succ]
              refine wpAnyH_ready (rs := [12]) (by kernel_rfl) (by simp) ?_
              refine AllReadyH.cons (o := ⟨none, _, _, _, _, none⟩) rfl (fun K hK => ?_) AllReadyH.nil
              refine step_store_mid (by rfl) 147 _ _ (by rfl) w9.heap.size 0 #[.int .i64 (x0 + y0), .int .i64 (x1 + y1), .int .i64 (x2 + y2), .int .i64 (x3 + y3)] (by rfl) (by rfl) (there4 (heap_alloc_new w9 _)) HSZA.out (HONE.out _ _ _ _) ?_
              refine hK.out _ _ (s11 HS9.out (fun p v h => (World.cell?_setCells_out _ _ _ _ _ (fun e _ => absurd e (Nat.ne_of_lt (lt_of_cell h)))).trans (cells_below ((Below.refl _ w9).alloc (Nat.le_refl _) _) p v h))) (fun hHeld => ?_)
              clear hK K
              refine wpAnyH_done (by kernel_rfl) ?_ _
              go_wp2_with fail
              go_meet
              exact ⟨_, rfl, blk4_all (heap_alloc_new w9 _), HB9.out.size, ((((HB9.out.alloc HB9.out.size _).setCell HB9.out.size _).setCell HB9.out.size _).setCell HB9.out.size _).setCell HB9.out.size _⟩
            · go_simp
              refine hK.out _ _ (s11 HS1.out (cells_below (HBA.out _))) (fun hHeld => ?_)
              clear hK K
              try simp only [Act.put, List.setIfInBounds_toArray, List.set_cons_zero, List.set_cons_succ]
              refine wpAnyH_ready (rs := [10]) (by kernel_rfl) (by simp) ?_
              refine AllReadyH.cons (o := ⟨some 54, _, _, _, _, none⟩) rfl (fun K hK => ?_) AllReadyH.nil
              go_simp
              go_at_call 148
              refine (HTH.out _).mono ?_
              rintro e w9 ⟨rfl, hB9⟩
              have HB9 := Lib.hid ((HBA.out _).trans (hB9.mono (by simp)))
              have HQ9 := Lib.hid ((hB9.block w8.heap.size (by simp)).trans (heap_alloc_new w8.drew _))
              have HS9 := Lib.hid (s11 HS1.out (cells_below HB9.out))
              clear hB9
              refine hK.out _ _ HS9.out (fun hHeld => ?_)
              clear hK K
              try simp only [Act.put, List.setIfInBounds_toArray, List.set_cons_zero, List.set_cons_succ]
              refine wpAnyH_ready (rs := [12]) (by kernel_rfl) (by simp) ?_
              refine AllReadyH.cons (o := ⟨none, _, _, _, _, none⟩) rfl (fun K hK => ?_) AllReadyH.nil
              refine step_store_mid (by rfl) 147 _ _ (by rfl) w8.heap.size 0 #[.int .i64 (x0 + y0), .int .i64 (x1 + y1), .int .i64 (x2 + y2), .int .i64 (x3 + y3)] (by rfl) (by rfl) (there4 HQ9.out) HSZA.out (HONE.out _ _ _ _) ?_
              refine hK.out _ _ (s11 HS1.out (fun p v h => (World.cell?_setCells_out _ _ _ _ _ (fun e _ => absurd e (Nat.ne_of_lt (lt_of_cell h)))).trans (cells_below HB9.out p v h))) (fun hHeld => ?_)
              clear hK K
              refine wpAnyH_done (by kernel_rfl) ?_ _
              go_wp2_with fail
              go_meet
              exact ⟨_, rfl, blk4_all HQ9.out, Nat.le_refl _, (((HB9.out.setCell (Nat.le_refl _) _).setCell (Nat.le_refl _) _).setCell (Nat.le_refl _) _).setCell (Nat.le_refl _) _⟩
          case rest =>
            obtain ⟨Q, rfl, hQ, hQl, hb9⟩ := hcut
            obtain ⟨w9, rfl⟩ : ∃ w9 : World, w9 = wc := ⟨_, rfl⟩
            obtain ⟨⟨q0, q1, q2, q3⟩, _⟩ := blk4_cells hQ
            have HB98 := Lib.hid hb9
            have hbo9 := HB8.out.trans (hb9.mono HB8.out.size)
            have HBO9 := Lib.hid hbo9
            have hw9 := HBW.out.trans (hbo9.mono HBW.out.size)
            have HW9 := Lib.hid hw9
            have hQ9 : Q < w9.heap.size := (Array.getElem?_eq_some_iff.1 hQ).1
            by_cases hlt : c < (taAt gs a).getD l 0
            · have HE1 := Lib.hid (HEN.out (x0 + y0) (x1 + y1) (x2 + y2) (x3 + y3) true w9 hw9 (by rw [← HGL.out, HBK.out]; exact decide_eq_true (by omega)))
              have HL9 := Lib.hid (HLEFT.out hlt)
              clear hQ hb9 hbo9 hw9 hlt
              go_wp2_with fail
              refine HE1.out.mono ?_
              rintro e w10 ⟨rfl, hB10⟩
              have HNX : Hid (ShSt gs w5 V l k R (.int .i64 n) (.int .i64 (a : Int)) w10) := Lib.hid (by
                have hb10 := HBO9.out.trans (hB10.mono HBO9.out.size)
                exact HL9.out w10 (gbOf hb10 _) (hb10.block V hVo))
              clear hB10
              go_wp2_with fail
              go_roundw
              all_goals first | exact HNX.out | ((repeat apply Exists.intro); exact ⟨HNX.out, rfl⟩) | (simp [intOf]; done) | (simp [intOf]; omega) | omega
            · have HE1 := Lib.hid (HEN.out (x0 + y0) (x1 + y1) (x2 + y2) (x3 + y3) false w9 hw9 (by rw [← HGL.out, HBK.out]; exact decide_eq_false (by omega)))
              have HR9 := Lib.hid (HRIGHT.out (by omega))
              have HQ := Lib.hid hQ
              clear hQ hb9 hbo9 hw9 hlt
              go_wp2_with fail
              refine HE1.out.mono ?_
              rintro e w10 ⟨rfl, hB10⟩
              have hb10 := HBO9.out.trans (hB10.mono HBO9.out.size)
              have hq10 := (hB10.block Q hQ9).trans HQ.out
              obtain ⟨⟨p0, p1', p2', p3'⟩, _⟩ := blk4_cells hq10
              have h8 : Below w8.heap.size w8 w10 := HB98.out.trans (hB10.mono HB98.out.size)
              have g7 := cells_below h8 _ _ HF7.out
              have gl := cells_below h8 _ _ HLC.out
              have gk1 := cells_below h8 _ _ HS1.out.2.2.1
              have gk2 := cells_below h8 _ _ HKC2.out
              have gv := (h8.block V (by have := (Array.getElem?_eq_some_iff.1 HV8.out).1; exact this)).trans HV8.out
              obtain ⟨⟨t0, t1, t2, t3⟩, e0, e1, e2, e3⟩ := blk4_cells gv
              have HNX : Hid (ShSt gs w5 V l k R (.int .i64 (n + la)) (.int .i64 (b : Int)) ((((w10.drew.setCell ⟨V, 0, none⟩ (.int .i64 (x0 + y0))).setCell ⟨V, 1, none⟩ (.int .i64 (x1 + y1))).setCell ⟨V, 2, none⟩ (.int .i64 (x2 + y2))).setCell ⟨V, 3, none⟩ (.int .i64 (x3 + y3)))) := Lib.hid (by
                have gvd : (w10.drew).heap[V]? = some (.cells #[.int .i64 x0, .int .i64 x1, .int .i64 x2, .int .i64 x3] 147 (0, 0)) := gv
                exact HR9.out _ (set4_grown (gbOf hb10.drew _) _ _ _ _) (blk4_all gvd))
              have a0' : (0 : Int) ≤ (a : Int) := by omega
              have a1' : (a : Int) < (gs.length : Int) := by omega
              have HGV := Lib.hid gv
              have hVQ : V ≠ Q := by have := HB8.out.size; omega
              have hVL : V ≠ L := by omega
              have hVF : V ≠ w.heap.size := by omega
              have HT1 : Hid (w10.cell? ⟨w.heap.size, 7, none⟩ = some (.slice (some ⟨L, 0, none⟩) gs.length c1') ∧ w10.cell? ⟨Kp, 1, none⟩ = some (.int .i64 (a : Int)) ∧ w10.cell? ⟨Kp, 2, none⟩ = some (.int .i64 (b : Int)) ∧ w10.cell? ⟨L, a, none⟩ = some (.int .i64 la) ∧ w10.cell? ⟨Q, 0, none⟩ = some (.int .i64 (x0 + y0)) ∧ w10.cell? ⟨Q, 1, none⟩ = some (.int .i64 (x1 + y1)) ∧ w10.cell? ⟨Q, 2, none⟩ = some (.int .i64 (x2 + y2)) ∧ w10.cell? ⟨Q, 3, none⟩ = some (.int .i64 (x3 + y3))) := Lib.hid ⟨g7, gk1, gk2, gl, p0, p1', p2', p3'⟩
              have HT0 : Hid (w10.drew.cell? ⟨w.heap.size, 7, none⟩ = some (.slice (some ⟨L, 0, none⟩) gs.length c1') ∧ w10.drew.cell? ⟨Kp, 1, none⟩ = some (.int .i64 (a : Int)) ∧ w10.drew.cell? ⟨Kp, 2, none⟩ = some (.int .i64 (b : Int)) ∧ w10.drew.cell? ⟨L, a, none⟩ = some (.int .i64 la) ∧ w10.drew.cell? ⟨Q, 0, none⟩ = some (.int .i64 (x0 + y0)) ∧ w10.drew.cell? ⟨Q, 1, none⟩ = some (.int .i64 (x1 + y1)) ∧ w10.drew.cell? ⟨Q, 2, none⟩ = some (.int .i64 (x2 + y2)) ∧ w10.drew.cell? ⟨Q, 3, none⟩ = some (.int .i64 (x3 + y3))) := HT1
              have HFAR : Hid (∀ (p : Addr) (v : Value), w10.cell? p = some v → p.block ≠ V → (w10.drew.setCells V 0 [.int .i64 (x0 + y0), .int .i64 (x1 + y1), .int .i64 (x2 + y2), .int .i64 (x3 + y3)]).cell? p = some v) := Lib.hid (fun p v h hne => (World.cell?_setCells_out _ _ _ _ _ (fun e _ => absurd e hne)).trans h)
              have HSZA : Hid ((Try.prog.info? 147).map (·.size) = some (#[.int .i64 (x0 + y0), .int .i64 (x1 + y1), .int .i64 (x2 + y2), .int .i64 (x3 + y3)] : Array Value).size) := Lib.hid size_ta
              have HONE := Lib.hid (fun a b c d => (all_oneCell_toArray (one4 a b c d)))
              have hwr : IntKind.i64.wrap (n + la) = n + la := by rw [IntKind.wrap_i64]; omega
              clear hB10 hb10 hq10 h8 gv q0 q1 q2 q3 g7 gl gk1 gk2 t0 t1 t2 t3 e0 e1 e2 e3 p0 p1' p2' p3'
              go_upto_region 12 with fail
              refine wp_region_held_drew (S := fun w' : World => w'.cell? ⟨w.heap.size, 7, none⟩ = some (.slice (some ⟨L, 0, none⟩) gs.length c1') ∧ w'.cell? ⟨Kp, 1, none⟩ = some (.int .i64 (a : Int)) ∧ w'.cell? ⟨Kp, 2, none⟩ = some (.int .i64 (b : Int)) ∧ w'.cell? ⟨L, a, none⟩ = some (.int .i64 la) ∧ w'.cell? ⟨Q, 0, none⟩ = some (.int .i64 (x0 + y0)) ∧ w'.cell? ⟨Q, 1, none⟩ = some (.int .i64 (x1 + y1)) ∧ w'.cell? ⟨Q, 2, none⟩ = some (.int .i64 (x2 + y2)) ∧ w'.cell? ⟨Q, 3, none⟩ = some (.int .i64 (x3 + y3))) (by kernel_rfl) HT0.out (fun hHeld => ?_)
              refine takeH (i := 0) (dst := some 59) (v := ?_) rfl (by kernel_rfl) (by kernel_rfl) (by kernel_rfl) (fun _ _ _ h => h) (Or.inl ⟨by rfl, ?_⟩) (by assumption) ?_
              rotate_left 1
              · (intro w hSw; (try dsimp only at hSw); go_simp; try (with_reducible rfl))
              try simp only [Act.put, List.setIfInBounds_toArray, List.set_cons_zero, List.set_cons_succ]
              refine takeH (i := 1) (dst := some 60) (v := ?_) rfl (by kernel_rfl) (by kernel_rfl) (by kernel_rfl) (fun _ _ _ h => h) (Or.inl ⟨by rfl, ?_⟩) (by assumption) ?_
              rotate_left 1
              · (intro w hSw; (try dsimp only at hSw); go_simp; try (with_reducible rfl))
              try simp only [Act.put, List.setIfInBounds_toArray, List.set_cons_zero, List.set_cons_succ]
              refine takeH (i := 2) (dst := some 61) (v := ?_) rfl (by kernel_rfl) (by kernel_rfl) (by kernel_rfl) (fun _ _ _ h => h) (Or.inl ⟨by rfl, ?_⟩) (by assumption) ?_
              rotate_left 1
              · (intro w hSw; (try dsimp only at hSw); go_simp; try (with_reducible rfl))
              try simp only [Act.put, List.setIfInBounds_toArray, List.set_cons_zero, List.set_cons_succ]
              refine takeH (i := 3) (dst := some 62) (v := ?_) rfl (by kernel_rfl) (by kernel_rfl) (by kernel_rfl) (fun _ _ _ h => h) (Or.inl ⟨by rfl, ?_⟩) (by assumption) ?_
              rotate_left 1
              · (intro w hSw; (try dsimp only at hSw); go_simp; try (with_reducible rfl))
              try simp only [Act.put, List.setIfInBounds_toArray, List.set_cons_zero, List.set_cons_succ]
              refine takeH (i := 4) (dst := some 63) (v := ?_) rfl (by kernel_rfl) (by kernel_rfl) (by kernel_rfl) (fun _ _ _ h => h) (Or.inl ⟨by rfl, ?_⟩) (by assumption) ?_
              rotate_left 1
              · (intro w hSw; (try dsimp only at hSw); go_simp; try (with_reducible rfl))
              try simp only [Act.put, List.setIfInBounds_toArray, List.set_cons_zero, List.set_cons_succ]
              refine takeH (i := 5) (dst := some 64) (v := ?_) rfl (by kernel_rfl) (by kernel_rfl) (by kernel_rfl) (fun _ _ _ h => h) (Or.inl ⟨by rfl, ?_⟩) (by assumption) ?_
              rotate_left 1
              · (intro w hSw; (try dsimp only at hSw); go_simp; try (with_reducible rfl))
              try simp only [Act.put, List.setIfInBounds_toArray, List.set_cons_zero, List.set_cons_succ]
              refine takeH (i := 6) (dst := some 65) (v := ?_) rfl (by kernel_rfl) (by kernel_rfl) (by kernel_rfl) (fun _ _ _ h => h) (Or.inl ⟨by rfl, ?_⟩) (by assumption) ?_
              rotate_left 1
              · (intro w hSw; (try dsimp only at hSw); go_simp; try (with_reducible rfl))
              try simp only [Act.put, List.setIfInBounds_toArray, List.set_cons_zero, List.set_cons_succ]
              refine takeH (i := 7) (dst := some 66) (v := ?_) rfl (by kernel_rfl) (by kernel_rfl) (by kernel_rfl) (fun _ _ _ h => h) (Or.inl ⟨by rfl, ?_⟩) (by assumption) ?_
              rotate_left 1
              · (intro w hSw; (try dsimp only at hSw); go_simp; try (with_reducible rfl))
              try simp only [Act.put, List.setIfInBounds_toArray, List.set_cons_zero, List.set_cons_succ]
              refine takeH (i := 8) (dst := some 67) (v := ?_) rfl (by kernel_rfl) (by kernel_rfl) (by kernel_rfl) (fun _ _ _ h => h) (Or.inl ⟨by rfl, ?_⟩) (by assumption) ?_
              rotate_left 1
              · (intro w hSw; (try dsimp only at hSw); go_simp; try (with_reducible rfl))
              try simp only [Act.put, List.setIfInBounds_toArray, List.set_cons_zero, List.set_cons_succ]
              refine takeH (i := 9) (dst := some 68) (v := ?_) rfl (by kernel_rfl) (by kernel_rfl) (by kernel_rfl) (fun _ _ _ h => h) (Or.inl ⟨by rfl, ?_⟩) (by assumption) ?_
              rotate_left 1
              · (intro w hSw; (try dsimp only at hSw); go_simp; try (with_reducible rfl))
              try simp only [Act.put, List.setIfInBounds_toArray, List.set_cons_zero, List.set_cons_succ]
              refine takeH (i := 10) (dst := some 69) (v := ?_) rfl (by kernel_rfl) (by kernel_rfl) (by kernel_rfl) (fun _ _ _ h => h) (Or.inl ⟨by rfl, ?_⟩) (by assumption) ?_
              rotate_left 1
              · (intro w hSw; (try dsimp only at hSw); go_simp; try (with_reducible rfl))
              try simp only [Act.put, List.setIfInBounds_toArray, List.set_cons_zero, List.set_cons_succ]
              refine takeH (i := 11) (dst := some 6) (v := ?_) rfl (by kernel_rfl) (by kernel_rfl) (by kernel_rfl) (fun _ _ _ h => h) (Or.inl ⟨by rfl, ?_⟩) (by assumption) ?_
              rotate_left 1
              · (intro w hSw; (try dsimp only at hSw); go_simp; try (with_reducible rfl))
              try simp only [Act.put, List.setIfInBounds_toArray, List.set_cons_zero, List.set_cons_succ]
              refine wpAnyH_ready (rs := [12]) (by kernel_rfl) (by simp) ?_
              refine AllReadyH.cons (o := ⟨none, _, _, _, _, none⟩) rfl (fun K hK => ?_) AllReadyH.nil
              refine step_store_mid (by rfl) 147 _ _ (by rfl) V 0 #[.int .i64 (x0 + y0), .int .i64 (x1 + y1), .int .i64 (x2 + y2), .int .i64 (x3 + y3)] (by rfl) (by rfl) (there4 (w := w10.drew) HGV.out) HSZA.out (HONE.out _ _ _ _) ?_
              refine hK.out _ _ (⟨HFAR.out _ _ HT1.out.1 (Ne.symm hVF), HFAR.out _ _ HT1.out.2.1 hKV, HFAR.out _ _ HT1.out.2.2.1 hKV, HFAR.out _ _ HT1.out.2.2.2.1 (Ne.symm hVL), HFAR.out _ _ HT1.out.2.2.2.2.1 (Ne.symm hVQ), HFAR.out _ _ HT1.out.2.2.2.2.2.1 (Ne.symm hVQ), HFAR.out _ _ HT1.out.2.2.2.2.2.2.1 (Ne.symm hVQ), HFAR.out _ _ HT1.out.2.2.2.2.2.2.2 (Ne.symm hVQ)⟩) (fun hHeld => ?_)
              clear hK K
              refine takeH (i := 13) (dst := some 8) (v := ?_) rfl (by kernel_rfl) (by kernel_rfl) (by kernel_rfl) (fun _ _ _ h => h) (Or.inl ⟨by rfl, ?_⟩) (by assumption) ?_
              rotate_left 1
              · (intro w hSw; (try dsimp only at hSw); go_simp; try (with_reducible rfl))
              try simp only [Act.put, List.setIfInBounds_toArray, List.set_cons_zero, List.set_cons_succ]
              refine wpAnyH_done (by kernel_rfl) ?_ _
              go_wp2_with fail
              go_roundw
              all_goals first | exact HNX.out | ((repeat apply Exists.intro); exact ⟨HNX.out, rfl⟩) | (simp [intOf]; done) | (simp [intOf]; omega) | omega
        · rw [sel_letter hr h0] at hR
          have HR : Hid (n = R) := Lib.hid (by omega)
          have HK := Lib.hid (fun W => kind_letter gs[r] h0 W)
          have HT := tt_lp
          have hn15 : n ≤ 1000000000000000 := by
            have := lens_pos hr fun q hq _ => fits_at (gOk_iff.1 HOK.out).2.1 q hq
            omega
          generalize gs[r] = Rk at *
          clear hR hc hV hgr hbo hbk hbw hFo f5 f7 f8 h0
          go_wp2_with fail
          refine (HK.out _).mono ?_
          rintro e w7 ⟨rfl, hB7⟩
          have HB7 := Lib.hid (HBW.out.trans (hB7.mono HBW.out.size))
          clear hB7
          go_wp2_with fail
          go_ret2
          exact ⟨ret_ib (by rw [HR.out, HRE.out]), HB7.out.alloc HB7.out.size _⟩
end Go.Proofs.Ytnhobcfpipedmaa
