/-
  The walk of FnExactClimbOf: it returns true at every input.
-/
import Derived.Test.YtkkbanbhiojllaaClO
import Derived.Test.YtkkbanbhiojllaaToI
import Derived.Test.YtkkbanbhiojllaaIsRow
import Derived.Test.YtkkbanbhiojllaaGramArg
import Derived.Test.YtkkbanbhiojllaaGramEq
namespace Go.Proofs.Ytkkbanbhiojllaa.fnExactClimbOf
open Go.RowKit Wd
set_option linter.unusedVariables false

theorem eqClimb_same (x0 x1 x2 : Int) (w : World) :
    Calls Try.prog 18 #[ag3c x0 x1 x2, ag3c x0 x1 x2] w fun e w' => e = .returned (.bool true) ∧ Below w.heap.size w w' := by
  go_enter Try.func18, Try.ntmps18
  go_wp2
  go_ret
  exact ⟨rfl, ((Below.refl _ w).alloc (Nat.le_refl _) _).alloc (by simp) _⟩
theorem isL_row {w : World} {a : Option Addr} {len cap : Nat} {z : List Int} (h : IsRow .i64 w a len cap z) : IsL w (.slice a len cap) (z.take len) ∧ (z.take len).length = len := by
  rcases h with ⟨rfl, rfl, rfl, rfl⟩ | ⟨x, rfl, h1, h2, h3, h4, _⟩
  · exact ⟨⟨none, 0, rfl, .inl rfl⟩, rfl⟩
  · have hl : (z.take len).length = len := by simp; omega
    refine ⟨⟨_, cap, by rw [hl], .inr ⟨x, rfl, fun j hj => ?_⟩⟩, hl⟩
    rw [h4 j (by omega), List.getElem_take, List.getD_eq_getElem?_getD, List.getElem?_eq_getElem (by omega), Option.getD_some]

set_option maxRecDepth 100000 in
set_option maxHeartbeats 6400000 in
theorem walk (A : Option Addr) (n0 cap : Nat) (gs : List Rl) (a1 : Option Addr) (n1 cap1 : Nat) (z1 : List Int) (w : World) (hl : n0 ≤ maxLen) (h : InRules w A n0 gs) (hr1 : IsRow .i64 w a1 n1 cap1 z1) :
    Calls Try.prog 3 #[.agg #[.slice A n0 cap], .slice a1 n1 cap1] w fun e w' => e = .returned (.bool true) ∧ Below w.heap.size w w' := by
  have hB0 := (Below.refl _ w).alloc (Nat.le_refl _) (.cells #[.slice A n0 cap] 24)
  have h1 := szGrammar_any A n0 cap gs 1048576 _ hl (h.kept hB0) (by omega) (by omega)
  obtain ⟨hrow, hlen⟩ := isL_row hr1
  generalize z1.take n1 = zs at *
  have hn1m : n1 ≤ maxLen := by
    rcases hr1 with ⟨_, h0, _⟩ | ⟨_, _, h1, h2, _⟩
    · omega
    · omega
  clear hr1
  unfold maxLen at hn1m
  by_cases hbig : 1048576 < n1
  · have hd : decide ((1048576 : Int) < (n1 : Int)) = true := decide_eq_true (by omega)
    clear h1 h hrow
    go_enter Try.func3, Try.ntmps3
    go_wp2_with fail
    go_ret
    exact ⟨rfl, hB0⟩
  have hdd : decide ((1048576 : Int) < (n1 : Int)) = false := decide_eq_false (by omega)
  have H1 := Lib.hid h1
  have HI := Lib.hid h
  by_cases hneg : purse 1048576 gs < 0
  · clear h h1 hB0 hrow
    go_enter Try.func3, Try.ntmps3
    go_wp2_with fail
    refine H1.out.mono ?_
    rintro e w1 ⟨rfl, hB1⟩
    have HB1 := Lib.hid hB1
    clear hB1
    go_wp2_with fail
    go_ret
    exact ⟨rfl, ((Below.refl _ w).alloc (Nat.le_refl _) _).trans (HB1.out.mono (by simp))⟩
  · have hf : FewR gs := purse_few hneg
    have hn0 : n0 ≤ 1048576 := by have := hf.len; rw [h.1] at this; exact this
    have hz1 : zs.length ≤ 1048576 := by omega
    have HTO := Lib.hid (fun W (hW : InRules W A n0 gs) => toGrammar_any A n0 cap gs W hn0 hW)
    have HTI := Lib.hid (fun W (hb : Below w.heap.size w W) => toI_any _ zs W hz1 (hrow.kept hb))
    have HF := Lib.hid hf
    have HB0 := Lib.hid hB0
    have hn := hf.len
    have HS := Lib.hid (fun v wv W (hW : Rules W v gs) (hz : IW W wv zs) => specClimbOf v wv gs zs W hf hW hz1 hz)
    have HP := Lib.hid (fun v wv W (hW : Rules W v gs) (hz : IW W wv zs) => implClimbOf v wv gs zs W hf hW hz1 hz)
    have HEQ := Lib.hid (fun a b B C W (h1 : OwnsI W B a zs) (h2 : OwnsI W C b zs) => eqJ a b zs B C W h1 h2 hz1)
    generalize climbG gs zs = R at *
    obtain ⟨u, cd⟩ := R
    simp only at HS HP
    have hq : clCs u = #[.int .i64 (u.getD 0 0), .int .i64 (u.getD 1 0), .int .i64 (u.getD 2 0)] := rfl
    rw [hq] at HS HP
    generalize u.getD 0 0 = x0 at *
    generalize u.getD 1 0 = x1 at *
    generalize u.getD 2 0 = x2 at *
    clear h h1 hB0 hf hrow hq hz1 hlen
    go_enter Try.func3, Try.ntmps3
    go_wp2_with fail
    refine H1.out.mono ?_
    rintro e w1 ⟨rfl, hB1⟩
    have HB1 := Lib.hid (HB0.out.trans (hB1.mono (by simp)))
    have hc1 : w1.cell? ⟨w.heap.size, 0, none⟩ = some (.slice A n0 cap) := (hB1.cell (p := ⟨w.heap.size, 0, none⟩) (by simp)).trans (cell_new _ _ _)
    clear hB1
    go_wp2_with fail
    refine (HTO.out _ (HI.out.kept HB1.out)).mono ?_
    rintro e w2 ⟨v1, rfl, ho1, hB2⟩
    have HB2 := Lib.hid (HB1.out.trans (hB2.mono HB1.out.size))
    have HR1 := Lib.hid (Rules.of_own ho1)
    have hc2 := (hB2.cell (p := ⟨w.heap.size, 0, none⟩) (lt_of_cell hc1)).trans hc1
    clear hB2 ho1 hc1
    go_wp2_with fail
    refine (HTI.out _ HB2.out).mono ?_
    rintro e w2a ⟨y1, rfl, hy1, hB2a⟩
    have HB2a := Lib.hid (HB2.out.trans (hB2a.mono HB2.out.size))
    have HR1a := Lib.hid (HR1.out.kept hB2a)
    have HY1 := Lib.hid (IW.of_own hy1)
    have hc2a := (hB2a.cell (p := ⟨w.heap.size, 0, none⟩) (lt_of_cell hc2)).trans hc2
    clear hB2a hy1 hc2
    go_wp2_with fail
    refine (HS.out _ _ _ HR1a.out HY1.out).mono ?_
    rintro e w3 ⟨rfl, hB3⟩
    have HB3 := Lib.hid (HB2a.out.trans (hB3.mono HB2a.out.size))
    have hc3 := (hB3.cell (p := ⟨w.heap.size, 0, none⟩) (lt_of_cell hc2a)).trans hc2a
    clear hB3 hc2a
    have HB3' := Lib.hid (HB3.out.alloc HB3.out.size (.cells #[.int .i64 x0, .int .i64 x1, .int .i64 x2] 28))
    have HY3 := Lib.hid (heap_alloc_new w3 (.cells #[.int .i64 x0, .int .i64 x1, .int .i64 x2] 28))
    have HC3' := Lib.hid ((((Below.refl _ w3).alloc (Nat.le_refl _) (.cells #[.int .i64 x0, .int .i64 x1, .int .i64 x2] 28)).cell (p := ⟨w.heap.size, 0, none⟩) (lt_of_cell hc3)).trans hc3)
    have hc3' := HC3'.out
    go_wp2_with fail
    refine (HTO.out _ (HI.out.kept HB3'.out)).mono ?_
    rintro e w4 ⟨v2, rfl, ho2, hB4⟩
    have HB4 := Lib.hid (HB3'.out.trans (hB4.mono HB3'.out.size))
    have HR2 := Lib.hid (Rules.of_own ho2)
    obtain ⟨A2, c2, rfl⟩ := own_slice ho2
    have hc4 := (hB4.cell (p := ⟨w.heap.size, 0, none⟩) (lt_of_cell HC3'.out)).trans HC3'.out
    have HY4 := Lib.hid ((hB4.block w3.heap.size (by simp)).trans HY3.out)
    obtain ⟨Y, hY⟩ : ∃ Y, Y = w3.heap.size := ⟨_, rfl⟩
    rw [← hY] at HY4 ⊢
    clear hB4 ho2 hc3 hc3' hY
    have hB5 := (Below.refl _ w4).alloc (Nat.le_refl _) (.cells #[.slice A2 gs.length c2] 33)
    have HB5 := Lib.hid hB5
    go_wp2_with fail
    refine (HTI.out _ (HB4.out.trans (HB5.out.mono HB4.out.size))).mono ?_
    rintro e w5 ⟨y2, rfl, hy2, hB5'⟩
    have hB45 := HB5.out.trans (hB5'.mono (by simp))
    have HR5 := Lib.hid (HR2.out.kept hB45)
    have HB6 := Lib.hid (HB4.out.trans (hB45.mono HB4.out.size))
    have HW5 := Lib.hid (IW.of_own hy2)
    have HO5 := Lib.hid hy2
    have hc5 := (hB45.cell (p := ⟨w.heap.size, 0, none⟩) (lt_of_cell hc4)).trans hc4
    have hx5 : w5.cell? ⟨w4.heap.size, 0, none⟩ = some (.slice A2 gs.length c2) := (hB5'.cell (p := ⟨w4.heap.size, 0, none⟩) (by simp)).trans (cell_new _ _ _)
    have hlY : Y < w4.heap.size := (Array.getElem?_eq_some_iff.1 HY4.out).1
    have HY5 := Lib.hid ((hB45.block Y hlY).trans HY4.out)
    obtain ⟨X, hX⟩ : ∃ X, X = w4.heap.size := ⟨_, rfl⟩
    rw [← hX] at hx5 ⊢
    clear hB5 hB5' hB45 hc4 hX hlY hy2
    go_wp2_with fail
    refine (HP.out _ _ _ HR5.out HW5.out).mono ?_
    rintro e w6 ⟨rfl, hB6⟩
    have HB7 := Lib.hid (HB6.out.trans (hB6.mono HB6.out.size))
    have HR6 := Lib.hid (HR5.out.kept hB6)
    have HO6 := Lib.hid (own_below HO5.out hB6 (Nat.le_refl _))
    have hc6 := (hB6.cell (p := ⟨w.heap.size, 0, none⟩) (lt_of_cell hc5)).trans hc5
    have hx6 := (hB6.cell (p := ⟨X, 0, none⟩) (lt_of_cell hx5)).trans hx5
    have hlY : Y < w5.heap.size := (Array.getElem?_eq_some_iff.1 HY5.out).1
    have hy6 := (hB6.block Y hlY).trans HY5.out
    have HC6 := Lib.hid hc6
    have HX6 := Lib.hid hx6
    have hB7 := (Below.refl _ w6).alloc (Nat.le_refl _) (.cells #[.int .i64 x0, .int .i64 x1, .int .i64 x2] 28)
    have HB67 := Lib.hid hB7
    obtain ⟨⟨k0, k1, k2⟩, _⟩ := blk3_cells ((hB7.block Y (Array.getElem?_eq_some_iff.1 hy6).1).trans hy6)
    clear hB6 hc5 hx5 hlY hy6 hB7
    go_wp2_with fail
    refine (eqClimb_same x0 x1 x2 _).mono ?_
    rintro e w7 ⟨rfl, hB8⟩
    have hB68 := HB67.out.trans (hB8.mono (by simp))
    have HB8 := Lib.hid (HB7.out.trans (hB68.mono HB7.out.size))
    have HR8 := Lib.hid (HR6.out.kept hB68)
    have HO8 := Lib.hid (own_below HO6.out hB68 (Nat.le_refl _))
    have hc8 := (hB68.cell (p := ⟨w.heap.size, 0, none⟩) (lt_of_cell HC6.out)).trans HC6.out
    have hx8 := (hB68.cell (p := ⟨X, 0, none⟩) (lt_of_cell HX6.out)).trans HX6.out
    have HT8 := Lib.hid (fun m => HTO.out (w7.drewN m) (HI.out.kept (below_drewN HB8.out m)))
    have HC8 := Lib.hid hc8
    have HX8 := Lib.hid hx8
    clear hB8 hB68 hc6 hx6 k0 k1 k2
    go_wp2_with fail
    go_region_held3 (fun w' => w'.cell? ⟨w.heap.size, 0, none⟩ = some (.slice A n0 cap) ∧ w'.cell? ⟨X, 0, none⟩ = some (.slice A2 gs.length c2)) (first | go_keep | exact HS7.out | exact HS8.out)
      (first
        | (go_at_call 15; refine (HT8.out _).mono ?_; rintro e w8 ⟨v3, rfl, ho3, hB9⟩; have HB9 := Lib.hid (below_undrew hB9); have HR9 := Lib.hid (Rules.of_own ho3); have HS7 := Lib.hid (And.intro ((HB9.out.cell (p := ⟨w.heap.size, 0, none⟩) (lt_of_cell HC8.out)).trans HC8.out) ((HB9.out.cell (p := ⟨X, 0, none⟩) (lt_of_cell HX8.out)).trans HX8.out)); clear ho3 hB9)
        | (go_at_call 19; refine (eqGrammar_same _ _ gs _ hn (HR8.out.kept HB9.out) HR9.out).mono ?_; rintro e w9 ⟨rfl, hB10⟩; have HB10 := Lib.hid (HB9.out.trans (hB10.mono HB9.out.size)); have HS8 := Lib.hid (And.intro ((HB10.out.cell (p := ⟨w.heap.size, 0, none⟩) (lt_of_cell HC8.out)).trans HC8.out) ((HB10.out.cell (p := ⟨X, 0, none⟩) (lt_of_cell HX8.out)).trans HX8.out)); clear hB10))
    have HB11 := Lib.hid (HB8.out.trans (HB10.out.mono HB8.out.size))
    have HO11 := Lib.hid (own_below HO8.out HB10.out (Nat.le_refl _))
    clear hc8 hx8
    go_wp2_with fail
    refine (HTI.out _ HB11.out).mono ?_
    rintro e w12 ⟨y3, rfl, hy3, hB12⟩
    have HO12 := Lib.hid (own_below HO11.out hB12 (Nat.le_refl _))
    have HB12 := Lib.hid (HB11.out.trans (hB12.mono HB11.out.size))
    have HY12 := Lib.hid hy3
    clear hB12 hy3
    go_wp2_with fail
    refine (HEQ.out _ _ _ _ _ HO12.out HY12.out).mono ?_
    rintro e w13 ⟨rfl, hd⟩
    have HB13 := Lib.hid (HB12.out.trans (hd.below _))
    clear hd
    go_wp2_with fail
    go_ret
    exact ⟨rfl, HB13.out⟩
end Go.Proofs.Ytkkbanbhiojllaa.fnExactClimbOf
