/-
  Walk: searchFor with one function value.
-/
import Derived.Test.YtaffachjopjbgaaFvR
import Derived.Test.YtaffachjopjbgaaFvV
namespace Go.Proofs.Ytaffachjopjbgaa
open Go.RowKit
open Wd
set_option linter.unusedVariables false
theorem Try.info_tally : (Try.prog.info? 201).map (fun i => (i.zero, i.size, i.bytes)) = some (some (.agg (iv (List.replicate 24 0)).toArray), 24, 192) := by kernel_rfl
theorem set_apart (w : World) (M o o' : Nat) (v : Value) (h : o' ≠ o) : (w.setCell ⟨M, o, none⟩ v).cell? ⟨M, o', none⟩ = w.cell? ⟨M, o', none⟩ := by
  unfold World.setCell World.cell?
  simp only [Array.getElem?_modify, if_true]
  cases hh : w.heap[M]? with
  | none => rfl
  | some x =>
    cases x <;> simp [Ne.symm h]
theorem rowS_skip {row : List Int} {s : Nat} (h : row.length = 24) (hs : s < 24) (hz : row[s]'(by omega) = 0) : rowS row (s + 1) = rowS row s := by
  rw [← rowS_set h hs, hz]
  apply List.ext_getElem?
  intro i
  rw [List.getElem?_set]
  by_cases hi : s = i
  · subst hi
    rw [if_pos rfl, if_pos (by rw [rowS_len h (by omega)]; exact hs)]
    unfold rowS
    rw [List.getElem?_append_right (by rw [List.length_take]; omega), List.getElem?_replicate, if_pos (by rw [List.length_take]; omega)]
  · rw [if_neg hi]
theorem b5_all {w : World} {R : Nat} {t : TypeId} {a b c d e a' b' c' d' e' : Value} (h : B5 w R a b c d e t) : B5 (((((w.setCell ⟨R, 0, none⟩ a').setCell ⟨R, 1, none⟩ b').setCell ⟨R, 2, none⟩ c').setCell ⟨R, 3, none⟩ d').setCell ⟨R, 4, none⟩ e') R a' b' c' d' e' t := by
  unfold B5 at h ⊢
  simp [World.setCell, Array.getElem?_modify, h]
theorem b5_frozen {w : World} {R o : Nat} {t : TypeId} {a b c d e : Value} (h : B5 w R a b c d e t) : w.frozen? ⟨R, o, none⟩ = false := by unfold B5 at h; simp [World.frozen?, h]
/-- between two rules -/
def SfRel (wa : Int → Bool) (nx : List (List Int)) (gs : List Rl) (w : World) (M n : Nat) (i : Value) (wr : World) : Prop :=
  ∃ k : Nat, k ≤ n ∧ i = .int .i64 k ∧ wr.ownsRow M 201 24 (.slice (some ⟨M, 0, none⟩) n n) n (iv (flK (visK wa nx gs k) n)) ∧ Below M w wr
set_option maxRecDepth 100000 in
set_option maxHeartbeats 12800000 in
theorem searchFor_any (wv gv : Value) (gs : List Rl) (nx : List (List Int)) (st go : Int) (lo P : Nat) (wa : Int → Bool) (w : World) (h1 : 1 ≤ st) (h24 : st ≤ 24) (hrow : nx.all (rowOk st) = true) (hlen : (nx.length : Int) = st) (hok : gOk gs = true) (hr : Rules w gv gs) (hW : IsW w lo wv gv gs nx go) (hwd : ∀ (W : World) (z : Int), Below w.heap.size w W → Calls Try.prog 89 #[.int .i64 z, .pointer (some ⟨P, 0, none⟩)] W fun e w' => e = .returned (.bool (wa z)) ∧ w' = W) :
    Calls Try.prog 88 #[wv, .func (.func 89) #[] #[.pointer (some ⟨P, 0, none⟩)]] w fun e w' => ∃ sv, e = .returned sv ∧ IsS w' 0 sv gv gs nx (visK wa nx gs gs.length) go ∧ Below w.heap.size w w' := by
  obtain ⟨i0, hi, hz0, hz1, hz2⟩ := info_parts Try.info_tally
  obtain ⟨lv, mv, rfl, h2, h3⟩ := hW
  have hn400 := gOk_len hok
  have hfit := (gOk_iff.1 hok).2.1
  have H2 := Lib.hid h2
  have H3 := Lib.hid h3
  have HR := Lib.hid hr
  have HP := Lib.hid hwd
  have HROW := Lib.hid hrow
  have HLEN := Lib.hid hlen
  have HFIT := Lib.hid hfit
  have HSM := Lib.hid (fun j (hj : j < gs.length) => small_at (gOk_iff.1 hok).2.2 j hj)
  obtain ⟨Ag, cg, rfl, hrx⟩ := hr
  obtain ⟨A2, c2, rfl⟩ := own_slice h2
  obtain ⟨A3, c3, rfl, h3x⟩ := h3
  have hb : Below w.heap.size w ((w.alloc (.cells #[.slice Ag gs.length cg, .slice A2 (lens gs).length c2, .slice A3 (mapsK nx gs gs.length).length c3, .int .i64 go] 110)).alloc (.cells #[.slice none 0 0, .slice none 0 0, .slice none 0 0, .int .i64 0, .slice none 0 0] 116)) := ((Below.refl _ w).alloc (Nat.le_refl _) _).alloc (by simp) _
  have hWb : B4 ((w.alloc (.cells #[.slice Ag gs.length cg, .slice A2 (lens gs).length c2, .slice A3 (mapsK nx gs gs.length).length c3, .int .i64 go] 110)).alloc (.cells #[.slice none 0 0, .slice none 0 0, .slice none 0 0, .int .i64 0, .slice none 0 0] 116)) w.heap.size (.slice Ag gs.length cg) (.slice A2 (lens gs).length c2) (.slice A3 (mapsK nx gs gs.length).length c3) (.int .i64 go) 110 := (B4.new w _ _ _ _ _).alloc _
  have HB := Lib.hid hb
  have HWB := Lib.hid hWb
  have hSb : B5 ((w.alloc (.cells #[.slice Ag gs.length cg, .slice A2 (lens gs).length c2, .slice A3 (mapsK nx gs gs.length).length c3, .int .i64 go] 110)).alloc (.cells #[.slice none 0 0, .slice none 0 0, .slice none 0 0, .int .i64 0, .slice none 0 0] 116)) (w.heap.size + 1) (.slice none 0 0) (.slice none 0 0) (.slice none 0 0) (.int .i64 0) (.slice none 0 0) 116 := by
    have := heap_alloc_new (w.alloc (.cells #[.slice Ag gs.length cg, .slice A2 (lens gs).length c2, .slice A3 (mapsK nx gs gs.length).length c3, .int .i64 go] 110)) (.cells #[.slice none 0 0, .slice none 0 0, .slice none 0 0, .int .i64 0, .slice none 0 0] 116)
    rwa [show (w.alloc (.cells #[.slice Ag gs.length cg, .slice A2 (lens gs).length c2, .slice A3 (mapsK nx gs gs.length).length c3, .int .i64 go] 110)).heap.size = w.heap.size + 1 from by simp] at this
  have HSB := Lib.hid hSb
  clear hSb
  clear hb hWb hrx h3x h2 hrow hlen hfit hok hwd
  go_enter Try.func88, Try.ntmps88
  go_upto_region 1 with fail
  obtain ⟨⟨p0, p1, p2, p3⟩, _⟩ := blk4_cells HWB.out
  have HN0 : Hid (gs.length ≤ 400) := Lib.hid hn400
  obtain ⟨w5, hw5⟩ : ∃ w5, w5 = ((w.alloc (.cells #[.slice Ag gs.length cg, .slice A2 (lens gs).length c2, .slice A3 (mapsK nx gs gs.length).length c3, .int .i64 go] 110)).alloc (.cells #[.slice none 0 0, .slice none 0 0, .slice none 0 0, .int .i64 0, .slice none 0 0] 116)) := ⟨_, rfl⟩
  rw [← hw5] at HB HWB HSB p0 p1 p2 p3 ⊢
  clear hw5
  obtain ⟨n, hne⟩ : ∃ n, n = gs.length := ⟨_, rfl⟩
  rw [← hne] at p0 hn400
  have HN := Lib.hid hne
  clear hne
  go_wp2_with (refine wpList_make_full _ rfl _ _ 114 rfl w5.heap.size 201 i0 (.agg (iv (List.replicate 24 0)).toArray) 24 Try.underlying114 hi hz0 hz1 .i64 .i64 _ _ n rfl rfl rfl rfl (by rw [hz2]; omega) (by unfold maxLen; omega) (Nat.le_refl _) ?_)
  intro w6 hown hgr
  have hown : w6.ownsRow w5.heap.size 201 24 (.slice (some ⟨w5.heap.size, 0, none⟩) n n) n (iv (flK [] n)) := by rw [← made_map]; exact hown
  have hB6 := below_of_grown hgr
  obtain ⟨M, hM⟩ : ∃ M, M = w5.heap.size := ⟨_, rfl⟩
  rw [← hM] at hown hB6 ⊢
  have HST : Hid (SfRel wa nx gs w5 M n (.int .i64 0) w6) := Lib.hid ⟨0, Nat.zero_le _, rfl, hown, hB6⟩
  have HME := Lib.hid hM
  have HWB5 := Lib.hid (fun W (hb : Below w5.heap.size w5 W) => HWB.out.kept hb)
  obtain ⟨⟨y0, y1, y2, y3⟩, _⟩ := blk4_cells (HWB5.out w6 (by rw [← hM]; exact hB6))
  rw [← HN.out] at y0
  clear hown hgr hB6 hM p0 p1 p2 p3
  go_wp2_with fail
  clear y0 y1 y2 y3
  go_loopw [20] (fun i wr => SfRel wa nx gs w5 M n i wr) (fun i _ => n - (intOf i).toNat)
  case atStart => exact HST.out
  case round =>
    obtain ⟨k, hk, rfl, hown, hB⟩ := hrel
    obtain ⟨wo, rfl⟩ : ∃ wo : World, wo = wr := ⟨_, rfl⟩
    have hB' : Below w5.heap.size w5 wo := by rw [← HME.out]; exact hB
    have hBw := HB.out.trans (hB'.mono HB.out.size)
    obtain ⟨⟨p0, p1, p2, p3⟩, _⟩ := blk4_cells (HWB5.out wo hB')
    rw [← HN.out] at p0
    by_cases hkn : k < n
    · have hkg : k < gs.length := by rw [← HN.out]; exact hkn
      obtain ⟨Ay, cy, hvy, hcy⟩ := HR.out.kept hBw
      injection hvy with hvA _ hvc
      subst hvA hvc
      rcases hcy with hn0 | ⟨g, rfl, hg, hc⟩
      · rw [hn0] at hkg; simp at hkg
      obtain ⟨a0, a1, a2⟩ := rules_cells hc hkg
      have k0 : (0 : Int) ≤ (k : Int) := by omega
      have k1 : (k : Int) < (n : Int) := by omega
      have hM : M < wo.heap.size := (hown.lt M rfl).2
      have HOW := Lib.hid hown
      have HBO := Lib.hid hB
      clear hown hB hB' hBw hc hg
      obtain ⟨A3', c3', hv3, h3z | ⟨g3, hA3, _, h3c⟩⟩ := H3.out
      · have := mapsK_len nx gs gs.length; rw [h3z] at this; simp at this; omega
      injection hv3 with hv3 hv4 hv5
      clear hv4 hv5
      rw [← hv3] at hA3
      subst hA3
      have hmk := mapsK_ok HROW.out HLEN.out h1 h24 HFIT.out gs.length (Nat.le_refl _) k hkg
      have HRM := Lib.hid (fun W (hb : Below w.heap.size w W) => show W.rangeAt g3 (k * 24) (iv ((mapsK nx gs gs.length).getD k [])) from by
        intro i v hv
        have hi24 : i < 24 := by have := (List.getElem?_eq_some_iff.1 hv).1; rw [iv_len, hmk.1] at this; exact this
        rw [iv_get _ i (by rw [hmk.1]; omega)] at hv
        injection hv with hv
        subst hv
        have h5 := h3c k i (by rw [mapsK_len]; exact hkg) hi24
        rw [List.getD_eq_getElem?_getD (i := i), List.getElem?_eq_getElem (by rw [hmk.1]; omega)] at h5
        exact (hb.cell (lt_of_cell h5)).trans h5)
      have HMC := Lib.hid (fun W (hb : Below w.heap.size w W) j i (hj : j < gs.length) (hi : i < 24) => show W.cell? ⟨g3, j * 24 + i, none⟩ = some (.int .i64 (at2 (mapsK nx gs gs.length) j i)) from by
        have h5 := h3c j i (by rw [mapsK_len]; exact hj) hi
        exact (hb.cell (lt_of_cell h5)).trans h5)
      obtain ⟨m, hm⟩ : ∃ m, m = (mapsK nx gs gs.length).getD k [] := ⟨_, rfl⟩
      rw [← hm] at HRM hmk
      have HMM := Lib.hid hm
      have HMK := Lib.hid hmk
      have hmz : (Try.prog.info? 197).map (·.size) = some (iv m).length := by rw [size_map, iv_len, hmk.1]
      have HMZ := Lib.hid hmz
      have HBW := Lib.hid (HB.out.trans ((show Below w5.heap.size w5 wo by rw [← HME.out]; exact HBO.out).mono HB.out.size))
      have k2 : (k : Int) < ((mapsK nx gs gs.length).length : Int) := by rw [mapsK_len]; omega
      clear hv3 hm hmk hmz h3c
      obtain ⟨row, hrw⟩ : ∃ row, row = visR wa (mapsK nx gs k) (visK wa nx gs k) gs[k] ((mapsK nx gs (k + 1)).getD k []) := ⟨_, rfl⟩
      have hr24 : row.length = 24 := by rw [hrw, visR_len]
      have HNX : Hid (visK wa nx gs (k + 1) = visK wa nx gs k ++ [row]) := Lib.hid (by rw [visK, List.getD_eq_getElem?_getD (l := gs), List.getElem?_eq_getElem hkg, hrw]; rfl)
      have HRV : Hid (∀ s (hs : s < 24), row[s]'(by omega) = at2 (visK wa nx gs gs.length) k s) := Lib.hid (fun s hs => by
        rw [visK_at wa nx gs k s _ hkg]
        unfold at2
        rw [HNX.out, getD_snoc_eq _ _ _ _ (visK_len wa nx gs k).symm, List.getD_eq_getElem?_getD, List.getElem?_eq_getElem (by omega)]
        rfl)
      have HVW := Lib.hid (visK_wide wa nx gs k)
      have HVL := Lib.hid (visK_len wa nx gs k)
      have HR24 := Lib.hid hr24
      clear hrw
      by_cases h0 : gs[k].L.size = 0
      · have HK := Lib.hid (fun W => kind_pair gs[k] h0 W)
        have HT := tm_pp
        have hp := (ok_pair h0).1 (fits_at HFIT.out k hkg)
        obtain ⟨a, ha⟩ : ∃ a : Nat, gs[k].l = a := ⟨gs[k].l.toNat, by omega⟩
        obtain ⟨b, hb⟩ : ∃ b : Nat, gs[k].r = b := ⟨gs[k].r.toNat, by omega⟩
        have hak : a < k := by omega
        have hbk : b < k := by omega
        have HVP := Lib.hid (fun s (hs : s < 24) => vis_pair wa nx hkg h0 ha hb hak hbk hs)
        have hag : agg3 gs[k] = .agg #[.string ⟨#[]⟩, .int .i64 (a : Int), .int .i64 (b : Int)] := by
          unfold agg3
          rw [empty_arr h0, ha, hb]
        rw [hag] at HK
        rw [empty_arr h0] at a0
        rw [ha] at a1
        rw [hb] at a2
        clear hp hag ha hb h0
        go_wp2_with fail
        refine (HK.out _).mono ?_
        rintro e w7 ⟨rfl, hB7⟩
        have hb7 := ((Below.refl _ wo).alloc (Nat.le_refl _) (.cells #[.string ⟨#[]⟩, .int .i64 (a : Int), .int .i64 (b : Int)] 127)).trans (hB7.mono (by simp))
        have HB7 := Lib.hid hb7
        have q2 := (hb7.cell (lt_of_cell p2)).trans p2
        have HRM7 := Lib.hid (HRM.out w7 (HBW.out.trans (hb7.mono HBW.out.size)))
        clear hB7 hb7 a0 a1 a2 p0 p1 p2 p3
        go_wp2_with (first | (with_reducible refine wpList_load_mid rfl 197 _ rfl g3 (k * 24) rfl (iv m) _ HRM7.out und_map rfl HMZ.out ?_))
        have HOWs : Hid (w7.ownsRow M 201 24 (.slice (some ⟨M, 0, none⟩) n n) n (iv (flS (visK wa nx gs k) row 0 n))) := Lib.hid (by
          rw [flS_zero (by rw [HVL.out]; exact hkn)]
          exact own_below HOW.out HB7.out (Nat.le_refl _))
        have HB57 : Hid (Below M w5 w7) := Lib.hid (HBO.out.trans (HB7.out.mono (by omega)))
        clear q2
        go_loopw [32] (fun i wr => ∃ s : Nat, s ≤ 24 ∧ i = .int .i64 s ∧ wr.ownsRow M 201 24 (.slice (some ⟨M, 0, none⟩) n n) n (iv (flS (visK wa nx gs k) row s n)) ∧ Below M w5 wr) (fun i _ => 24 - (intOf i).toNat)
        case atStart => exact ⟨0, by omega, rfl, HOWs.out, HB57.out⟩
        case round =>
          obtain ⟨s, hs, rfl, hos, hBs⟩ := hrel
          obtain ⟨wu, rfl⟩ : ∃ wu : World, wu = wr := ⟨_, rfl⟩
          by_cases hs24 : s < 24
          · have hBs5 : Below w5.heap.size w5 wu := by rw [← HME.out]; exact hBs
            obtain ⟨⟨p0, p1, p2, p3⟩, _⟩ := blk4_cells (HWB5.out wu hBs5)
            have hBwu := HB.out.trans (hBs5.mono HB.out.size)
            have cq := HMC.out wu hBwu a s (by omega) hs24
            have hqb := map_lt HROW.out HLEN.out h1 h24 HFIT.out (k := a) (s := s) (by omega) hs24
            have hma := (mapsK_ok HROW.out HLEN.out h1 h24 HFIT.out gs.length (Nat.le_refl _) a (by omega))
            have hq0 : 0 ≤ at2 (mapsK nx gs gs.length) a s := by
              unfold at2
              rw [List.getD_eq_getElem?_getD (i := s), List.getElem?_eq_getElem (by rw [hma.1]; omega), Option.getD_some]
              exact (hma.2 _ (List.getElem_mem _)).1
            have hvp := HVP.out s hs24
            have va := vis_fir wa HROW.out HLEN.out h1 h24 HFIT.out (a + 1) a s (by omega) (by omega) hs24
            have vb := vis_fir wa HROW.out HLEN.out h1 h24 HFIT.out (b + 1) b (at2 (mapsK nx gs gs.length) a s).toNat (by omega) (by omega) hqb
            have ba := (fnd_bd wa HROW.out HLEN.out h1 h24 HFIT.out (a + 1) a s 0 (by omega) (by omega) hs24).1
            have bb := (fnd_bd wa HROW.out HLEN.out h1 h24 HFIT.out (b + 1) b (at2 (mapsK nx gs gs.length) a s).toNat 0 (by omega) (by omega) hqb).1
            have sa := HSM.out a (by omega)
            have sb := HSM.out b (by omega)
            obtain ⟨q, hq⟩ : ∃ q : Nat, at2 (mapsK nx gs gs.length) a s = q := ⟨(at2 (mapsK nx gs gs.length) a s).toNat, by omega⟩
            rw [hq, Int.toNat_natCast] at hvp vb bb hqb
            rw [hq] at cq
            have hcell : ∀ j i, j < k → i < 24 → wu.cell? ⟨M, j * 24 + i, none⟩ = some (.int .i64 (at2 (visK wa nx gs gs.length) j i)) := fun j i hj hi => by
              have h5 := flS_get (row := row) (s := s) (n := n) HVW.out (by rw [HVL.out]; exact hj) hi
              have hl5 := flS_len (row := row) (s := s) (n := n) HVW.out hr24 (by omega) (by rw [HVL.out]; exact hkn)
              rw [World.ownsRow.cellAt hos (j * 24 + i) (by omega), iv_get _ _ (by rw [hl5]; omega)]
              rw [List.getElem?_eq_getElem (by rw [hl5]; omega)] at h5
              injection h5 with h5
              rw [h5, visK_at wa nx gs j i k hj, visK_at wa nx gs j i gs.length (by omega)]
            have ca := hcell a s hak hs24
            have cb := hcell b q hbk hqb
            have HSTO := Lib.hid (fun (hv : Nat) => flS_store (w := wu) hos HVW.out hr24 hs24 (by rw [HVL.out]; exact hkn))
            have hzr := HRV.out s hs24
            rw [hvp] at hzr
            have HOSS := Lib.hid hos
            have HBSS := Lib.hid hBs
            clear hos hBs hBs5 hBwu hcell hma hq0 hvp hq
            generalize at2 (visK wa nx gs gs.length) a s = V at *
            generalize at2 (visK wa nx gs gs.length) b q = V2 at *
            have hws : IntKind.i64.wrap (V + V2) = V + V2 := IntWalk.i64_in _ (by omega)
            have hix := index_map m HMK.out.1 s hs24
            unfold mv at hix
            have hMu : M < wu.heap.size := (HOSS.out.lt M rfl).2
            have hbk := (Below.refl _ wu).alloc (Nat.le_refl _) (.cells #[.string ⟨#[]⟩, .int .i64 (a : Int), .int .i64 (b : Int)] 198)
            have kcs := heap_alloc_new wu (.cells #[.string ⟨#[]⟩, .int .i64 (a : Int), .int .i64 (b : Int)] 198)
            obtain ⟨_, r1, r2⟩ := rule3_cellsV kcs
            have P2 := (hbk.cell (lt_of_cell p2)).trans p2
            have CA := (hbk.cell (p := ⟨M, a * 24 + s, none⟩) hMu).trans ca
            have CB := (hbk.cell (p := ⟨M, b * 24 + q, none⟩) hMu).trans cb
            have CQ := (hbk.cell (lt_of_cell cq)).trans cq
            have hgM : g3 < M := by rw [HME.out]; exact Nat.lt_of_lt_of_le (lt_of_cell (HMC.out w (Below.refl _ _) a s (by omega) hs24)) HB.out.size
            have hwM : w.heap.size < M := by rw [HME.out]; exact HWB.out.lt
            go_upto_region 11 with fail
            obtain ⟨Kp, hKp⟩ : ∃ Kp, Kp = wu.heap.size := ⟨_, rfl⟩
            rw [← hKp] at r1 r2 ⊢
            have HOK : Hid ((wu.alloc (.cells #[.string ⟨#[]⟩, .int .i64 (a : Int), .int .i64 (b : Int)] 198)).ownsRow M 201 24 (.slice (some ⟨M, 0, none⟩) n n) n (iv (flS (visK wa nx gs k) row s n))) := Lib.hid (own_below HOSS.out hbk (Nat.le_refl _))
            have HBK : Hid (Below M w5 (wu.alloc (.cells #[.string ⟨#[]⟩, .int .i64 (a : Int), .int .i64 (b : Int)] 198))) := Lib.hid (HBSS.out.trans (hbk.mono (by omega)))
            have hKM : M ≠ Kp := by omega
            have hKM2 : Kp ≠ M := by omega
            have hgM2 : g3 ≠ M := by omega
            have hwM2 : w.heap.size ≠ M := by omega
            clear hbk kcs p0 p1 p2 p3 ca cb cq hKp
            generalize wu.alloc (.cells #[.string ⟨#[]⟩, .int .i64 (a : Int), .int .i64 (b : Int)] 198) = wk at *
            have HNX2 : Hid ((wk.setCell ⟨M, k * 24 + s, none⟩ (.int .i64 (V + V2))).ownsRow M 201 24 (.slice (some ⟨M, 0, none⟩) n n) n (iv (flS (visK wa nx gs k) row (s + 1) n))) := Lib.hid (by
              have := flS_store (w := wk) HOK.out HVW.out hr24 hs24 (by rw [HVL.out]; exact hkn)
              rw [HVL.out, hzr] at this
              exact this)
            have HBX : Hid (Below M w5 (wk.setCell ⟨M, k * 24 + s, none⟩ (.int .i64 (V + V2)))) := Lib.hid (HBK.out.setCell (Nat.le_refl _) _)
            have e1 : a * 24 + s ≠ k * 24 + s := by omega
            have e2 : b * 24 + q ≠ k * 24 + s := by omega
            have hfz : wk.frozen? ⟨M, k * 24 + s, none⟩ = false := HOK.out.frozenAt _
            have hfd : wk.drew.frozen? ⟨M, k * 24 + s, none⟩ = false := hfz
            obtain ⟨old, hct⟩ : ∃ old, wk.cell? ⟨M, k * 24 + s, none⟩ = some old := by
              have hl5 := flS_len (row := row) (s := s) (n := n) HVW.out hr24 (by omega) (by rw [HVL.out]; exact hkn)
              have h9 := World.ownsRow.cellAt HOK.out (k * 24 + s) (by omega)
              rw [iv_get _ _ (by rw [hl5]; omega)] at h9
              exact ⟨_, h9⟩
            have hcd : wk.drew.cell? ⟨M, k * 24 + s, none⟩ = some old := hct
            have a0' : (0 : Int) ≤ (a : Int) := by omega
            have a1' : (a : Int) < (n : Int) := by omega
            have a2' : (a : Int) < ((mapsK nx gs gs.length).length : Int) := by rw [mapsK_len]; omega
            have b0' : (0 : Int) ≤ (b : Int) := by omega
            have b1' : (b : Int) < (n : Int) := by omega
            have q0' : (0 : Int) ≤ (q : Int) := by omega
            have q1' : (q : Int) < 24 := by omega
            have s0' : (0 : Int) ≤ (s : Int) := by omega
            have s1' : (s : Int) < 24 := by omega
            have HS := Lib.hid (And.intro r1 (And.intro r2 (And.intro P2 (And.intro CQ (And.intro CA CB)))))
            have HS2 := Lib.hid (show ((wk.setCell ⟨M, k * 24 + s, none⟩ (.int .i64 (V + V2))).cell? ⟨Kp, 1, none⟩ = some (.int .i64 (a : Int)) ∧ (wk.setCell ⟨M, k * 24 + s, none⟩ (.int .i64 (V + V2))).cell? ⟨Kp, 2, none⟩ = some (.int .i64 (b : Int)) ∧ (wk.setCell ⟨M, k * 24 + s, none⟩ (.int .i64 (V + V2))).cell? ⟨w.heap.size, 2, none⟩ = some (.slice (some ⟨g3, 0, none⟩) (mapsK nx gs gs.length).length c3) ∧ (wk.setCell ⟨M, k * 24 + s, none⟩ (.int .i64 (V + V2))).cell? ⟨g3, a * 24 + s, none⟩ = some (.int .i64 (q : Int)) ∧ (wk.setCell ⟨M, k * 24 + s, none⟩ (.int .i64 (V + V2))).cell? ⟨M, a * 24 + s, none⟩ = some (.int .i64 V) ∧ (wk.setCell ⟨M, k * 24 + s, none⟩ (.int .i64 (V + V2))).cell? ⟨M, b * 24 + q, none⟩ = some (.int .i64 V2)) from
              ⟨(World.cell?_of_block (a := ⟨Kp, 1, none⟩) (Below.heap_setCell wk ⟨M, k * 24 + s, none⟩ _ Kp hKM2)).trans r1, (World.cell?_of_block (a := ⟨Kp, 2, none⟩) (Below.heap_setCell wk ⟨M, k * 24 + s, none⟩ _ Kp hKM2)).trans r2, (World.cell?_of_block (a := ⟨w.heap.size, 2, none⟩) (Below.heap_setCell wk ⟨M, k * 24 + s, none⟩ _ w.heap.size hwM2)).trans P2, (World.cell?_of_block (a := ⟨g3, a * 24 + s, none⟩) (Below.heap_setCell wk ⟨M, k * 24 + s, none⟩ _ g3 hgM2)).trans CQ, (set_apart wk M _ _ _ e1).trans CA, (set_apart wk M _ _ _ e2).trans CB⟩)
            go_region_held3 (fun w' => w'.cell? ⟨Kp, 1, none⟩ = some (.int .i64 (a : Int)) ∧ w'.cell? ⟨Kp, 2, none⟩ = some (.int .i64 (b : Int)) ∧ w'.cell? ⟨w.heap.size, 2, none⟩ = some (.slice (some ⟨g3, 0, none⟩) (mapsK nx gs gs.length).length c3) ∧ w'.cell? ⟨g3, a * 24 + s, none⟩ = some (.int .i64 (q : Int)) ∧ w'.cell? ⟨M, a * 24 + s, none⟩ = some (.int .i64 V) ∧ w'.cell? ⟨M, b * 24 + q, none⟩ = some (.int .i64 V2))
              (first | (with_reducible exact HS.out) | exact HS.out | exact HS2.out)
              (fail)
            all_goals
              go_wp2_with fail
              go_roundw
            case rel => first | exact ⟨s + 1, by omega, by go_num, HNX2.out, HBX.out⟩ | ((repeat apply Exists.intro); exact ⟨⟨s + 1, by omega, by go_num, HNX2.out, HBX.out⟩, rfl⟩) | exact ⟨s + 1, by omega, by go_num, own_drewN HNX2.out 1, below_drewN HBX.out 1⟩ | ((repeat apply Exists.intro); exact ⟨⟨s + 1, by omega, by go_num, own_drewN HNX2.out 1, below_drewN HBX.out 1⟩, rfl⟩)
            case measure => (first | (simp [intOf]; done) | (simp [intOf]; omega))
          · obtain rfl : s = 24 := by omega
            rw [flS_all HR24.out, ← HNX.out] at hos
            have HN9 : Hid (SfRel wa nx gs w5 M n (.int .i64 ((k + 1 : Nat) : Int)) wu) := Lib.hid ⟨k + 1, hkn, rfl, hos, hBs⟩
            clear hos hBs
            go_wp2_with fail
            go_roundw
            case rel => first | exact HN9.out | ((repeat apply Exists.intro); exact ⟨HN9.out, rfl⟩)
            case measure => (first | (simp [intOf]; done) | (simp [intOf]; omega))
      · have HK := Lib.hid (fun W => kind_letter gs[k] h0 W)
        have HT := tm_lp
        have HVT := Lib.hid (fun s (hs : s < 24) => vis_letter wa nx hkg h0 hs)
        generalize gs[k] = R at *
        obtain ⟨L, l, r⟩ := R
        unfold agg3 at HK
        simp only at HK a0 a1 a2
        clear h0
        go_wp2_with fail
        refine (HK.out _).mono ?_
        rintro e w7 ⟨rfl, hB7⟩
        have hb7 := ((Below.refl _ wo).alloc (Nat.le_refl _) (.cells #[.string L, .int .i64 l, .int .i64 r] 127)).trans (hB7.mono (by simp))
        have HB7 := Lib.hid hb7
        have q2 := (hb7.cell (lt_of_cell p2)).trans p2
        have HRM7 := Lib.hid (HRM.out w7 (HBW.out.trans (hb7.mono HBW.out.size)))
        clear hB7 hb7 a0 a1 a2 p0 p1 p2 p3
        go_wp2_with (first | (with_reducible refine wpList_load_mid rfl 197 _ rfl g3 (k * 24) rfl (iv m) _ HRM7.out und_map rfl HMZ.out ?_))
        have HOWs : Hid (w7.ownsRow M 201 24 (.slice (some ⟨M, 0, none⟩) n n) n (iv (flS (visK wa nx gs k) row 0 n))) := Lib.hid (by
          rw [flS_zero (by rw [HVL.out]; exact hkn)]
          exact own_below HOW.out HB7.out (Nat.le_refl _))
        have HB57 : Hid (Below M w5 w7) := Lib.hid (HBO.out.trans (HB7.out.mono (by omega)))
        clear q2
        go_loopw [32] (fun i wr => ∃ s : Nat, s ≤ 24 ∧ i = .int .i64 s ∧ wr.ownsRow M 201 24 (.slice (some ⟨M, 0, none⟩) n n) n (iv (flS (visK wa nx gs k) row s n)) ∧ Below M w5 wr) (fun i _ => 24 - (intOf i).toNat)
        case atStart => exact ⟨0, by omega, rfl, HOWs.out, HB57.out⟩
        case round =>
          obtain ⟨s, hs, rfl, hos, hBs⟩ := hrel
          obtain ⟨wu, rfl⟩ : ∃ wu : World, wu = wr := ⟨_, rfl⟩
          by_cases hs24 : s < 24
          · have hBs5 : Below w5.heap.size w5 wu := by rw [← HME.out]; exact hBs
            have hBwu := HB.out.trans (hBs5.mono HB.out.size)
            have hix := index_map m HMK.out.1 s hs24
            unfold mv at hix
            have hzr := HRV.out s hs24
            rw [HVT.out s hs24] at hzr
            have hmv : m[s]?.getD 0 = at2 (mapsK nx gs gs.length) k s := by
              unfold at2
              rw [← HMM.out, List.getD_eq_getElem?_getD]
            rw [← hmv] at hzr
            have hbk := (Below.refl _ wu).alloc (Nat.le_refl _) (.cells #[.string ⟨#[]⟩, .int .i64 0, .int .i64 0] 198)
            have HOK : Hid ((wu.alloc (.cells #[.string ⟨#[]⟩, .int .i64 0, .int .i64 0] 198)).ownsRow M 201 24 (.slice (some ⟨M, 0, none⟩) n n) n (iv (flS (visK wa nx gs k) row s n))) := Lib.hid (own_below hos hbk (Nat.le_refl _))
            have hMu : M < wu.heap.size := (hos.lt M rfl).2
            have HBK : Hid (Below M w5 (wu.alloc (.cells #[.string ⟨#[]⟩, .int .i64 0, .int .i64 0] 198))) := Lib.hid (hBs.trans (hbk.mono (by omega)))
            have HPK : Hid (∀ z : Int, Calls Try.prog 89 #[.int .i64 z, .pointer (some ⟨P, 0, none⟩)] (wu.alloc (.cells #[.string ⟨#[]⟩, .int .i64 0, .int .i64 0] 198)) fun e w' => e = .returned (.bool (wa z)) ∧ w' = (wu.alloc (.cells #[.string ⟨#[]⟩, .int .i64 0, .int .i64 0] 198))) := Lib.hid (fun z => HP.out _ z (hBwu.trans (hbk.mono hBwu.size)))
            clear hos hBs hBs5 hBwu hbk hmv
            go_upto_region 12 with fail
            generalize wu.alloc (.cells #[.string ⟨#[]⟩, .int .i64 0, .int .i64 0] 198) = wk at *
            have HZR := Lib.hid hzr
            clear hzr
            go_wp2_with fail
            have hzr := HZR.out
            generalize m[s]?.getD 0 = z at *
            have HWD := Lib.hid (HPK.out z)
            by_cases hzt : wa z = true
            · rw [if_pos hzt] at hzr
              rw [hzt] at HWD
              have hfz : wk.frozen? ⟨M, k * 24 + s, none⟩ = false := HOK.out.frozenAt _
              obtain ⟨old, hct⟩ : ∃ old, wk.cell? ⟨M, k * 24 + s, none⟩ = some old := by
                have hl5 := flS_len (row := row) (s := s) (n := n) HVW.out hr24 (by omega) (by rw [HVL.out]; exact hkn)
                have h9 := World.ownsRow.cellAt HOK.out (k * 24 + s) (by omega)
                rw [iv_get _ _ (by rw [hl5]; omega)] at h9
                exact ⟨_, h9⟩
              have HNX2 : Hid ((wk.setCell ⟨M, k * 24 + s, none⟩ (.int .i64 1)).ownsRow M 201 24 (.slice (some ⟨M, 0, none⟩) n n) n (iv (flS (visK wa nx gs k) row (s + 1) n))) := Lib.hid (by
                have := flS_store (w := wk) HOK.out HVW.out hr24 hs24 (by rw [HVL.out]; exact hkn)
                rw [HVL.out, hzr] at this
                exact this)
              have HBX : Hid (Below M w5 (wk.setCell ⟨M, k * 24 + s, none⟩ (.int .i64 1))) := Lib.hid (HBK.out.setCell (Nat.le_refl _) _)
              have s0' : (0 : Int) ≤ (s : Int) := by omega
              have s1' : (s : Int) < 24 := by omega
              clear hzt hzr
              refine HWD.out.mono ?_
              rintro e w9 ⟨rfl, hw9⟩
              obtain rfl := hw9.symm
              go_wp2_with fail
              go_roundw
              case rel => first | exact ⟨s + 1, by omega, by go_num, HNX2.out, HBX.out⟩ | ((repeat apply Exists.intro); exact ⟨⟨s + 1, by omega, by go_num, HNX2.out, HBX.out⟩, rfl⟩)
              case measure => (first | (simp [intOf]; done) | (simp [intOf]; omega))
            · rw [if_neg hzt] at hzr
              rw [Bool.eq_false_iff.2 hzt] at HWD
              have HNX2 : Hid (wk.ownsRow M 201 24 (.slice (some ⟨M, 0, none⟩) n n) n (iv (flS (visK wa nx gs k) row (s + 1) n))) := Lib.hid (by
                have := HOK.out
                unfold flS at this ⊢
                rw [rowS_skip hr24 hs24 hzr]
                exact this)
              clear hzt hzr
              refine HWD.out.mono ?_
              rintro e w9 ⟨rfl, hw9⟩
              obtain rfl := hw9.symm
              go_wp2_with fail
              go_roundw
              case rel => first | exact ⟨s + 1, by omega, by go_num, HNX2.out, HBK.out⟩ | ((repeat apply Exists.intro); exact ⟨⟨s + 1, by omega, by go_num, HNX2.out, HBK.out⟩, rfl⟩)
              case measure => (first | (simp [intOf]; done) | (simp [intOf]; omega))
          · obtain rfl : s = 24 := by omega
            rw [flS_all HR24.out, ← HNX.out] at hos
            have HN9 : Hid (SfRel wa nx gs w5 M n (.int .i64 ((k + 1 : Nat) : Int)) wu) := Lib.hid ⟨k + 1, hkn, rfl, hos, hBs⟩
            clear hos hBs
            go_wp2_with fail
            go_roundw
            case rel => first | exact HN9.out | ((repeat apply Exists.intro); exact ⟨HN9.out, rfl⟩)
            case measure => (first | (simp [intOf]; done) | (simp [intOf]; omega))
    · obtain rfl : k = n := by omega
      have hSB := HSB.out.kept hB'
      have HE := Lib.hid (b5_cells (b5_all (a' := .slice Ag k cg) (b' := .slice A2 (lens gs).length c2) (c' := .slice A3 (mapsK nx gs gs.length).length c3) (d' := .int .i64 go) (e' := .slice (some ⟨M, 0, none⟩) k k) hSB))
      obtain ⟨z0, z1, z2, z3, z4⟩ := b5_cells hSB
      have f0 := b5_frozen (o := 0) hSB
      have f1 := b5_frozen (o := 1) hSB
      have f2 := b5_frozen (o := 2) hSB
      have f3 := b5_frozen (o := 3) hSB
      have f4 := b5_frozen (o := 4) hSB
      have hMR : M ≠ w.heap.size + 1 := by have := HSB.out.lt; rw [HME.out]; omega
      have hR1 : w.heap.size + 1 < wo.heap.size := hSB.lt
      have HSET : Hid (∀ d0 d1 d2 d3 d4, IsS (((((wo.setCell ⟨w.heap.size + 1, 0, none⟩ d0).setCell ⟨w.heap.size + 1, 1, none⟩ d1).setCell ⟨w.heap.size + 1, 2, none⟩ d2).setCell ⟨w.heap.size + 1, 3, none⟩ d3).setCell ⟨w.heap.size + 1, 4, none⟩ d4) 0 (.agg #[.slice Ag k cg, .slice A2 (lens gs).length c2, .slice A3 (mapsK nx gs gs.length).length c3, .int .i64 go, .slice (some ⟨M, 0, none⟩) k k]) (.slice Ag gs.length cg) gs nx (visK wa nx gs gs.length) go ∧ Below w.heap.size w (((((wo.setCell ⟨w.heap.size + 1, 0, none⟩ d0).setCell ⟨w.heap.size + 1, 1, none⟩ d1).setCell ⟨w.heap.size + 1, 2, none⟩ d2).setCell ⟨w.heap.size + 1, 3, none⟩ d3).setCell ⟨w.heap.size + 1, 4, none⟩ d4)) := Lib.hid (fun d0 d1 d2 d3 d4 => by
        have hbF : Below w.heap.size w (((((wo.setCell ⟨w.heap.size + 1, 0, none⟩ d0).setCell ⟨w.heap.size + 1, 1, none⟩ d1).setCell ⟨w.heap.size + 1, 2, none⟩ d2).setCell ⟨w.heap.size + 1, 3, none⟩ d3).setCell ⟨w.heap.size + 1, 4, none⟩ d4) := ((((hBw.setCell (by simp) _).setCell (by simp) _).setCell (by simp) _).setCell (by simp) _).setCell (by simp) _
        have gk : wo.grownBy (((((wo.setCell ⟨w.heap.size + 1, 0, none⟩ d0).setCell ⟨w.heap.size + 1, 1, none⟩ d1).setCell ⟨w.heap.size + 1, 2, none⟩ d2).setCell ⟨w.heap.size + 1, 3, none⟩ d3).setCell ⟨w.heap.size + 1, 4, none⟩ d4) (some (w.heap.size + 1)) := by
          refine ⟨rfl, rfl, rfl, by simp, fun i hi hne => ?_⟩
          have hne' : i ≠ w.heap.size + 1 := fun e => hne (by rw [e])
          rw [Below.heap_setCell _ _ _ _ hne', Below.heap_setCell _ _ _ _ hne', Below.heap_setCell _ _ _ _ hne', Below.heap_setCell _ _ _ _ hne', Below.heap_setCell _ _ _ _ hne']
        have hms := isMs_of_own (World.ownsRow.kept hown gk (.inr (by simp [Value.ownBlock]; exact hMR))) (visK_wide wa nx gs k) (visK_len wa nx gs k)
        have hAk : Value.slice Ag k cg = Value.slice Ag gs.length cg := by rw [HN.out]
        refine ⟨⟨_, _, _, by rw [hAk], own_lower (own_below H2.out hbF (Nat.le_refl _)) (Nat.zero_le _), (H3.out.kept hbF).lower (Nat.zero_le _), ?_⟩, hbF⟩
        rw [← HN.out]
        exact hms.lower (Nat.zero_le _))
      clear hown hB hB' hBw hSB
      go_wp2_with fail
      obtain ⟨y0, y1, y2, y3, y4⟩ := HE.out
      refine bodyPost_ret (v := .agg #[.slice Ag k cg, .slice A2 (lens gs).length c2, .slice A3 (mapsK nx gs gs.length).length c3, .int .i64 go, .slice (some ⟨M, 0, none⟩) k k]) (by simp [results, Try.results88, go_sem, y0, y1, y2, y3, y4]) rfl ⟨_, rfl, (HSET.out _ _ _ _ _).1, (HSET.out _ _ _ _ _).2⟩
end Go.Proofs.Ytaffachjopjbgaa
