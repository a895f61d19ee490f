/-
  Walks: slices.ContainsFunc over weights, impl.climbFold.
-/
import Derived.Test.YtkkbanbhiojllaaClW
import Derived.Test.YtkkbanbhiojllaaGValid
namespace Go.Proofs.Ytkkbanbhiojllaa
open Go.RowKit
open Wd
set_option linter.unusedVariables false
namespace Wd
def wrongW (z : Int) : Bool := decide (z < -9) || decide (9 < z)
/-- are they weights? -/
def wOkB (zs : List Int) : Bool := decide (zs.length = 4) && zs.all fun z => !wrongW z
theorem wOkB_ok {zs : List Int} (h : wOkB zs = true) : wOk zs := by
  unfold wOkB at h
  rw [Bool.and_eq_true, decide_eq_true_iff] at h
  refine ⟨h.1, fun d hd => ?_⟩
  have hz := List.all_eq_true.1 h.2 _ (List.getElem_mem (show d < zs.length by omega))
  rw [List.getD_eq_getElem?_getD, List.getElem?_eq_getElem (by omega), Option.getD_some]
  simp [wrongW] at hz
  omega
end Wd
/-- numbers that came in or are the call's own -/
def IW (w : World) (v : Value) (zs : List Int) : Prop := ∃ A c, v = .slice A zs.length c ∧ (zs = [] ∨ ∃ g, A = some ⟨g, 0, none⟩ ∧ ∀ d (h : d < zs.length), w.cell? ⟨g, d, none⟩ = some (.int .i64 zs[d]))
theorem IW.kept {w w' : World} {v : Value} {zs : List Int} (h : IW w v zs) (hb : Below w.heap.size w w') : IW w' v zs := by
  obtain ⟨A, c, h0, h1 | ⟨g, h1, h2⟩⟩ := h
  · exact ⟨A, c, h0, .inl h1⟩
  · exact ⟨A, c, h0, .inr ⟨g, h1, fun d hd => (hb.cell (lt_of_cell (h2 d hd))).trans (h2 d hd)⟩⟩
theorem IW.of_own {w : World} {B : Nat} {v : Value} {zs : List Int} (h : OwnsI w B v zs) : IW w v zs := by
  rcases h.2 with ⟨rfl, h0⟩ | ⟨g, cap, cur, rfl, hb, hg, _⟩
  · exact ⟨none, 0, by rw [h0], .inl (List.eq_nil_of_length_eq_zero h0)⟩
  · exact ⟨_, _, rfl, .inr ⟨g, rfl, fun d hd => by rw [h.cellAt d (by simpa using hd), iv_get zs d hd]⟩⟩
theorem IW.wst {w : World} {v : Value} {zs : List Int} {b : Nat} (h : IW w v zs) (hb : w.cell? ⟨b, 0, none⟩ = some v) (h4 : zs.length = 4) : WSt w b zs := by
  obtain ⟨A, c, rfl, h1 | ⟨g, rfl, h2⟩⟩ := h
  · rw [h1] at h4; simp at h4
  · rw [h4] at hb
    exact ⟨g, c, hb, fun d hd => by rw [h2 d (by omega), List.getD_eq_getElem?_getD, List.getElem?_eq_getElem (by omega)]; rfl⟩
abbrev wrV : Value := .func (.func 89) #[] #[]
theorem wrong_any (z : Int) (w : World) : Calls Try.prog 89 #[.int .i64 z] w fun e w' => e = .returned (.bool (wrongW z)) ∧ w = w' := by
  by_cases h1 : z < -9
  · go_enter Try.func89, Try.ntmps89
    go_wp2
    go_ret
    exact ⟨ret_bool (by simp [wrongW, h1]), rfl⟩
  · have h1' : decide (z < -9) = false := decide_eq_false h1
    go_enter Try.func89, Try.ntmps89
    go_wp2
    go_ret
    exact ⟨ret_bool (by unfold wrongW; rw [h1', Bool.false_or]), rfl⟩
/-- the place of the first number that is no weight -/
def IdxW (zs : List Int) (w : World) (e : Ending) (w' : World) : Prop := ∃ r : Int, e = .returned (.int .i64 r) ∧ decide (0 ≤ r) = !(zs.all fun z => !wrongW z) ∧ w = w'
set_option maxRecDepth 100000 in
theorem idxW_any (v : Value) (zs : List Int) (w : World) (hn : zs.length ≤ 1048576) (h : IW w v zs) :
    Calls Try.prog 115 #[v, wrV] w (IdxW zs w) := by
  obtain ⟨A, c, rfl, hc⟩ := h
  have HC := Lib.hid hc
  obtain ⟨n, hne⟩ : ∃ n, n = zs.length := ⟨_, rfl⟩
  have HN := Lib.hid hne
  rw [← hne] at hn ⊢
  clear hc hne
  go_enter Try.func115, Try.ntmps115
  go_wp2_with fail
  go_loop [5, 8] (fun _ i => ∃ k : Nat, k ≤ n ∧ i = .int .i64 k ∧ (zs.take k).all (fun z => !wrongW z) = true) (fun _ i => n - (intOf i).toNat)
  case atStart => exact ⟨0, Nat.zero_le _, rfl, rfl⟩
  case round =>
    obtain ⟨k, hk, rfl, hall⟩ := hrel
    by_cases hkn : k < n
    · have hkz : k < zs.length := by rw [← HN.out]; exact hkn
      rcases HC.out with h0 | ⟨g, rfl, hcc⟩
      · rw [h0] at hkz; simp at hkz
      have c0 := hcc k hkz
      have hsn : (zs.take (k + 1)).all (fun z => !wrongW z) = !wrongW zs[k] := by rw [List.take_succ_eq_append_getElem hkz, List.all_append, hall]; simp
      have hmem := List.getElem_mem hkz
      have HW := Lib.hid (fun W => wrong_any zs[k] W)
      have hbad : wrongW zs[k] = true → (zs.all fun z => !wrongW z) = false := fun e => by
        rw [List.all_eq_false]
        exact ⟨_, hmem, by rw [e]; simp⟩
      generalize zs[k] = z at *
      have k0 : (0 : Int) ≤ (k : Int) := by omega
      have k1 : (k : Int) < (n : Int) := by omega
      cases hb : wrongW z
      · rw [hb] at HW hsn
        have HS := Lib.hid hsn
        clear hsn hbad hb hall hcc hmem
        go_wp2_with fail
        refine (HW.out _).mono ?_
        rintro e w' ⟨rfl, rfl⟩
        go_wp2_with fail
        go_round
        case rel => exact ⟨k + 1, by omega, by go_num, HS.out⟩
        case measure => simp [intOf]; omega
      · rw [hb] at HW
        have HB := Lib.hid (hbad hb)
        clear hsn hbad hb hall hcc hmem
        go_wp2_with fail
        refine (HW.out _).mono ?_
        rintro e w' ⟨rfl, rfl⟩
        go_wp2_with fail
        go_ret
        exact ⟨k, rfl, by rw [HB.out]; simp, rfl⟩
    · have hfin : (zs.all fun z => !wrongW z) = true := by rw [← hall, List.take_of_length_le (by have := HN.out; omega)]
      have HF := Lib.hid hfin
      clear hfin hall
      go_wp2_with fail
      go_ret
      exact ⟨-1, rfl, by rw [HF.out]; rfl, rfl⟩
theorem hasWrong_any (v : Value) (zs : List Int) (w : World) (hn : zs.length ≤ 1048576) (h : IW w v zs) :
    Calls Try.prog 90 #[v, wrV] w fun e w' => e = .returned (.bool (!(zs.all fun z => !wrongW z))) ∧ w = w' := by
  have H1 := Lib.hid (idxW_any v zs w hn h)
  obtain ⟨A, c, rfl, hc⟩ := h
  clear hc
  go_enter Try.func90, Try.ntmps90
  go_wp2_with fail
  refine H1.out.mono ?_
  rintro e w' ⟨r, rfl, hr, rfl⟩
  have HR := Lib.hid hr
  clear hr
  go_wp2_with fail
  go_ret
  exact ⟨ret_bool (by have := HR.out; simpa using this), rfl⟩
/-- what comes back of a climb's fold -/
def ClPost (v : Value) (gs : List Rl) (zs : List Int) (w : World) (e : Ending) (w' : World) : Prop :=
  (∃ fv bw, gOk gs = true ∧ wOkB zs = true ∧ e = .returned (.tuple #[.agg fv, .int .i64 0]) ∧ IsCl w' w.heap.size bw zs (.agg fv) v gs ∧ Below w.heap.size w w') ∨
  ((gOk gs && wOkB zs) = false ∧ e = .returned (.tuple #[.agg clZero, .int .i64 (if gOk gs then 2 else 1)]) ∧ Below w.heap.size w w')
set_option maxRecDepth 100000 in
set_option maxHeartbeats 3200000 in
theorem climbFold_any (v wv : Value) (gs : List Rl) (zs : List Int) (w : World) (hf : FewR gs) (hr : Rules w v gs) (hn : zs.length ≤ 1048576) (hz : IW w wv zs) :
    Calls Try.prog 46 #[.agg #[v], wv] w (ClPost v gs zs w) := by
  obtain ⟨hG, hW, hR, hb, hs3⟩ := al3 w (.cells #[v] 33) (.cells #[wv] 25) (.cells clZero 67)
  have HV := Lib.hid (implValidGrammar v gs _ hf (hr.kept hb))
  have HB := Lib.hid hb
  have HR := Lib.hid hR
  have HS3 := Lib.hid hs3
  have HW := Lib.hid (cell_of_var hW)
  have HGC := Lib.hid (cell_of_var hG)
  have HRU := Lib.hid (fun W (hb : Below w.heap.size w W) => hr.kept hb)
  have HZ := Lib.hid (fun W (hb : Below w.heap.size w W) => hz.kept hb)
  obtain ⟨d, hu, hd⟩ := und_clFold
  have HU := Lib.hid (And.intro hu hd)
  have HZO := Lib.hid (And.intro clZero_size clZero_one)
  obtain ⟨Av, cv, rfl, _⟩ := hr
  obtain ⟨Aw, cw, rfl, _⟩ := hz
  clear hG hW hR hb hs3 hu hd
  cases hok : gOk gs
  · rw [hok] at HV
    have HOK := Lib.hid hok
    have HNO : Hid ((gOk gs && wOkB zs) = false) := Lib.hid (by rw [hok]; rfl)
    clear hok
    go_enter Try.func46, Try.ntmps46
    go_upto_region 1 with fail
    change Code.wp _ _ _ _ (((w.alloc (.cells #[.slice Av gs.length cv] 33)).alloc (.cells #[.slice Aw zs.length cw] 25)).alloc (.cells clZero 67))
    generalize ((w.alloc (.cells #[.slice Av gs.length cv] 33)).alloc (.cells #[.slice Aw zs.length cw] 25)).alloc (.cells clZero 67) = w3 at *
    obtain ⟨R, hRe⟩ : ∃ R, R = w.heap.size + 1 + 1 := ⟨_, rfl⟩
    have HRE := Lib.hid hRe
    rw [← hRe]
    rw [show w.heap.size + 2 = R from hRe.symm] at HR
    clear hRe
    have hg3 := HGC.out
    go_wp2_with fail
    refine HV.out.mono ?_
    rintro e w4 ⟨rfl, hB4⟩
    have hRl : R < w3.heap.size := (Array.getElem?_eq_some_iff.1 HR.out).1
    have hRw : w.heap.size ≤ R := by rw [HRE.out]; omega
    have HR4 := Lib.hid ((hB4.block R hRl).trans HR.out)
    have HB34 := Lib.hid hB4
    have HB4 := Lib.hid (HB.out.trans (hB4.mono HB.out.size))
    have hw4 := (hB4.cell (lt_of_cell HW.out)).trans HW.out
    clear hB4 hg3
    clear hw4
    go_wp2_with (with_reducible refine wpList_store_row rfl 67 _ _ rfl R _ rfl rfl 67 _ HR4.out HZO.out.1 rfl HZO.out.2 ?_)
    exact bodyPost_ret (v := .tuple #[.agg clZero, .int .i64 1]) (results_row_slot rfl _ _ R 67 _ (0, 0) _ rfl (setRow_heap _ R _ clZero _ _ HR4.out) HU.out.1 HU.out.2 HZO.out.1 _ rfl) rfl (.inr ⟨HNO.out, by rw [HOK.out]; rfl, bSetRow HB4.out hRw _⟩)
  · rw [hok] at HV
    have HOK := Lib.hid hok
    by_cases h4 : zs.length = 4
    · cases hall : zs.all fun z => !wrongW z
      · have hwb : wOkB zs = false := by unfold wOkB; rw [hall, Bool.and_false]
        have HNO : Hid ((gOk gs && wOkB zs) = false) := Lib.hid (by rw [hwb, Bool.and_false])
        have HCF := Lib.hid (fun W (hb : Below w.heap.size w W) => hasWrong_any _ zs W hn (HZ.out W hb))
        rw [hall] at HCF
        have hne : ((zs.length : Int) != 4) = false := by rw [bne_eq_false_iff_eq]; omega
        clear hok hall hwb h4
        go_enter Try.func46, Try.ntmps46
        go_upto_region 1 with fail
        change Code.wp _ _ _ _ (((w.alloc (.cells #[.slice Av gs.length cv] 33)).alloc (.cells #[.slice Aw zs.length cw] 25)).alloc (.cells clZero 67))
        generalize ((w.alloc (.cells #[.slice Av gs.length cv] 33)).alloc (.cells #[.slice Aw zs.length cw] 25)).alloc (.cells clZero 67) = w3 at *
        obtain ⟨R, hRe⟩ : ∃ R, R = w.heap.size + 1 + 1 := ⟨_, rfl⟩
        have HRE := Lib.hid hRe
        rw [← hRe]
        rw [show w.heap.size + 2 = R from hRe.symm] at HR
        clear hRe
        have hg3 := HGC.out
        go_wp2_with fail
        refine HV.out.mono ?_
        rintro e w4 ⟨rfl, hB4⟩
        have hRl : R < w3.heap.size := (Array.getElem?_eq_some_iff.1 HR.out).1
        have hRw : w.heap.size ≤ R := by rw [HRE.out]; omega
        have HR4 := Lib.hid ((hB4.block R hRl).trans HR.out)
        have HB34 := Lib.hid hB4
        have HB4 := Lib.hid (HB.out.trans (hB4.mono HB.out.size))
        have hw4 := (hB4.cell (lt_of_cell HW.out)).trans HW.out
        clear hB4 hg3
        go_wp2_with fail
        refine (HCF.out _ HB4.out).mono ?_
        rintro e w5 ⟨rfl, rfl⟩
        clear hw4 hne
        go_wp2_with (with_reducible refine wpList_store_row rfl 67 _ _ rfl R _ rfl rfl 67 _ HR4.out HZO.out.1 rfl HZO.out.2 ?_)
        exact bodyPost_ret (v := .tuple #[.agg clZero, .int .i64 2]) (results_row_slot rfl _ _ R 67 _ (0, 0) _ rfl (setRow_heap _ R _ clZero _ _ HR4.out) HU.out.1 HU.out.2 HZO.out.1 _ rfl) rfl (.inr ⟨HNO.out, by rw [HOK.out]; rfl, bSetRow HB4.out hRw _⟩)

      · have hwb : wOkB zs = true := by unfold wOkB; rw [hall, h4]; rfl
        have HWT := Lib.hid hwb
        have HCF := Lib.hid (fun W (hb : Below w.heap.size w W) => hasWrong_any _ zs W hn (HZ.out W hb))
        rw [hall] at HCF
        have hne : ((zs.length : Int) != 4) = false := by rw [bne_eq_false_iff_eq]; omega
        have HH4 := Lib.hid h4
        have HWB := Lib.hid (wOkB_ok hwb)
        clear hok hall hwb h4
        go_enter Try.func46, Try.ntmps46
        go_upto_region 1 with fail
        change Code.wp _ _ _ _ (((w.alloc (.cells #[.slice Av gs.length cv] 33)).alloc (.cells #[.slice Aw zs.length cw] 25)).alloc (.cells clZero 67))
        generalize ((w.alloc (.cells #[.slice Av gs.length cv] 33)).alloc (.cells #[.slice Aw zs.length cw] 25)).alloc (.cells clZero 67) = w3 at *
        obtain ⟨R, hRe⟩ : ∃ R, R = w.heap.size + 1 + 1 := ⟨_, rfl⟩
        have HRE := Lib.hid hRe
        rw [← hRe]
        rw [show w.heap.size + 2 = R from hRe.symm] at HR
        clear hRe
        have hg3 := HGC.out
        go_wp2_with fail
        refine HV.out.mono ?_
        rintro e w4 ⟨rfl, hB4⟩
        have hRl : R < w3.heap.size := (Array.getElem?_eq_some_iff.1 HR.out).1
        have hRw : w.heap.size ≤ R := by rw [HRE.out]; omega
        have HR4 := Lib.hid ((hB4.block R hRl).trans HR.out)
        have HB34 := Lib.hid hB4
        have HB4 := Lib.hid (HB.out.trans (hB4.mono HB.out.size))
        have hw4 := (hB4.cell (lt_of_cell HW.out)).trans HW.out
        clear hB4 hg3
        have HWC := Lib.hid hw4
        go_wp2_with fail
        refine (HCF.out _ HB4.out).mono ?_
        rintro e w5 ⟨rfl, rfl⟩
        have HFO := Lib.hid (clFold_any (.slice Av gs.length cv) gs (w.heap.size + 1) zs w4 hf (HRU.out w4 HB4.out) ((HZ.out w4 HB4.out).wst HWC.out HH4.out) HWB.out)
        rw [HOK.out] at HFO
        have hg4 := (HB34.out.cell (lt_of_cell HGC.out)).trans HGC.out
        clear hne
        go_wp2_with fail
        refine HFO.out.mono ?_
        rintro e w6 ⟨fv, rfl, hy, _, hB6⟩
        have hy := hy trivial
        obtain ⟨A1, c1, A2, c2, he, _, _⟩ := hy.shape
        injection he with he
        subst he
        have hRl4 : R < w4.heap.size := (Array.getElem?_eq_some_iff.1 HR4.out).1
        have HR6 := Lib.hid ((hB6.block R hRl4).trans HR4.out)
        have HB6 := Lib.hid (HB4.out.trans (hB6.mono HB4.out.size))
        have hb7 := (Below.refl _ w6).alloc (Nat.le_refl _) (.cells (clAll (w.heap.size + 1) (.slice Av gs.length cv) (.slice A1 gs.length c1) (.slice A2 gs.length c2)) 67)
        have HX7 := Lib.hid (heap_alloc_new w6 (.cells (clAll (w.heap.size + 1) (.slice Av gs.length cv) (.slice A1 gs.length c1) (.slice A2 gs.length c2)) 67))
        have hRl6 : R < w6.heap.size := (Array.getElem?_eq_some_iff.1 HR6.out).1
        have HR7 := Lib.hid ((hb7.block R hRl6).trans HR6.out)
        have HY7 := Lib.hid (hy.kept hb7)
        have HB7 := Lib.hid (HB6.out.trans (hb7.mono HB6.out.size))
        have HS2 := Lib.hid (And.intro (size_clFold (w.heap.size + 1) (.slice Av gs.length cv) (.slice A1 gs.length c1) (.slice A2 gs.length c2)) (clAll_one (w.heap.size + 1) Av A1 A2 gs.length gs.length gs.length cv c1 c2))
        have hR4w : R < w4.heap.size := hRl4
        have hw4s : w.heap.size ≤ w4.heap.size := HB4.out.size
        clear hB6 hy hb7 hg4 hw4
        go_upto_region 7 with fail
        generalize w6.alloc (.cells (clAll (w.heap.size + 1) (.slice Av gs.length cv) (.slice A1 gs.length c1) (.slice A2 gs.length c2)) 67) = w7 at *
        go_wp2_with (first
          | (with_reducible refine wpList_load_rowD HU.out.2 rfl 67 _ rfl w6.heap.size rfl 67 _ _ HX7.out HU.out.1 HS2.out.1 ?_)
          | (with_reducible refine wpList_store_row rfl 67 _ _ rfl R _ rfl rfl 67 _ HR7.out HS2.out.1 rfl HS2.out.2 ?_))
        exact bodyPost_ret (v := .tuple #[.agg (clAll (w.heap.size + 1) (.slice Av gs.length cv) (.slice A1 gs.length c1) (.slice A2 gs.length c2)), .int .i64 0]) (results_row_slot rfl _ _ R 67 _ (0, 0) _ rfl (setRow_heap _ R _ _ _ _ HR7.out) HU.out.1 HU.out.2 HS2.out.1 _ rfl) rfl (.inl ⟨_, _, HOK.out, HWT.out, rfl, (HY7.out.setRow hR4w _).lower hw4s, bSetRow HB7.out hRw _⟩)
    · have hwb : wOkB zs = false := by unfold wOkB; rw [decide_eq_false h4, Bool.false_and]
      have HNO : Hid ((gOk gs && wOkB zs) = false) := Lib.hid (by rw [hwb, Bool.and_false])
      have hne : ((zs.length : Int) != 4) = true := by rw [bne_iff_ne]; omega
      clear hok hwb h4
      go_enter Try.func46, Try.ntmps46
      go_upto_region 1 with fail
      change Code.wp _ _ _ _ (((w.alloc (.cells #[.slice Av gs.length cv] 33)).alloc (.cells #[.slice Aw zs.length cw] 25)).alloc (.cells clZero 67))
      generalize ((w.alloc (.cells #[.slice Av gs.length cv] 33)).alloc (.cells #[.slice Aw zs.length cw] 25)).alloc (.cells clZero 67) = w3 at *
      obtain ⟨R, hRe⟩ : ∃ R, R = w.heap.size + 1 + 1 := ⟨_, rfl⟩
      have HRE := Lib.hid hRe
      rw [← hRe]
      rw [show w.heap.size + 2 = R from hRe.symm] at HR
      clear hRe
      have hg3 := HGC.out
      go_wp2_with fail
      refine HV.out.mono ?_
      rintro e w4 ⟨rfl, hB4⟩
      have hRl : R < w3.heap.size := (Array.getElem?_eq_some_iff.1 HR.out).1
      have hRw : w.heap.size ≤ R := by rw [HRE.out]; omega
      have HR4 := Lib.hid ((hB4.block R hRl).trans HR.out)
      have HB34 := Lib.hid hB4
      have HB4 := Lib.hid (HB.out.trans (hB4.mono HB.out.size))
      have hw4 := (hB4.cell (lt_of_cell HW.out)).trans HW.out
      clear hB4 hg3
      clear HZ
      go_wp2_with (with_reducible refine wpList_store_row rfl 67 _ _ rfl R _ rfl rfl 67 _ HR4.out HZO.out.1 rfl HZO.out.2 ?_)
      exact bodyPost_ret (v := .tuple #[.agg clZero, .int .i64 2]) (results_row_slot rfl _ _ R 67 _ (0, 0) _ rfl (setRow_heap _ R _ clZero _ _ HR4.out) HU.out.1 HU.out.2 HZO.out.1 _ rfl) rfl (.inr ⟨HNO.out, by rw [HOK.out]; rfl, bSetRow HB4.out hRw _⟩)

end Go.Proofs.Ytkkbanbhiojllaa
