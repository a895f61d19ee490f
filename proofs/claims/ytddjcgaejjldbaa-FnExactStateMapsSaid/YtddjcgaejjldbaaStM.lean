/-
  Walks: spec.StateMaps, impl.StateMaps.
-/
import Derived.Test.YtddjcgaejjldbaaAft
namespace Go.Proofs.Ytddjcgaejjldbaa
open Go.RowKit
open Wd
set_option linter.unusedVariables false
namespace Wd
/-- the maps of all rules -/
def mapsA (x : Au) (gs : List Rl) : List (List Int) × Int := if aOk x = true ∧ gOk gs = true then (mapsN x.nx gs x.nx.length gs.length, 0) else ([], 1)
end Wd
theorem mapsA_few (x : Au) (gs : List Rl) : (mapsA x gs).1.length ≤ 1048576 ∧ ∀ r ∈ (mapsA x gs).1, r.length ≤ 24 := by
  unfold mapsA
  split
  · rename_i h
    have h1 := gOk_len h.2
    obtain ⟨⟨_, h24⟩, _, hlen⟩ := aOk_parts h.1
    refine ⟨by simp only [mapsN_len]; omega, fun r hr => ?_⟩
    simp only [mapsN, List.mem_map] at hr
    obtain ⟨m, _, rfl⟩ := hr
    rw [List.length_take]
    omega
  · simp
set_option maxRecDepth 100000 in
set_option maxHeartbeats 12800000 in
theorem implStateMaps (av : Value) (x : Au) (gv : Value) (gs : List Rl) (w : World) (hf : FewA x) (hx : IsAu w av x) (hfr : FewR gs) (hr : Rules w gv gs) :
    Calls Try.prog 43 #[av, .agg #[gv]] w fun e w' => ∃ y U, e = .returned (.tuple #[y, .int .i64 (mapsA x gs).2]) ∧ OwnM w' w.heap.size y U (mapsA x gs).1 ∧ Below w.heap.size w w' := by
  have HIS := Lib.hid (fun W (hb : Below w.heap.size w W) => hx.kept hb)
  have HRU := Lib.hid (fun W (hb : Below w.heap.size w W) => hr.kept hb)
  obtain ⟨st, go, fin, nx⟩ := x
  obtain ⟨f, n, rfl, hF, hN⟩ := hx
  simp only at hF hN
  have hb : Below w.heap.size w ((w.alloc (.cells #[.int .i64 st, .int .i64 go, f, n] 39)).alloc (.cells #[gv] 58)) := ((Below.refl _ w).alloc (Nat.le_refl _) _).alloc (by simp) _
  have hP : B4 ((w.alloc (.cells #[.int .i64 st, .int .i64 go, f, n] 39)).alloc (.cells #[gv] 58)) w.heap.size (.int .i64 st) (.int .i64 go) f n 39 := (B4.new w _ _ _ _ _).alloc _
  have hg : ((w.alloc (.cells #[.int .i64 st, .int .i64 go, f, n] 39)).alloc (.cells #[gv] 58)).cell? ⟨w.heap.size + 1, 0, none⟩ = some gv := by
    have := cell_new (w.alloc (.cells #[.int .i64 st, .int .i64 go, f, n] 39)) gv 58
    rwa [show (w.alloc (.cells #[.int .i64 st, .int .i64 go, f, n] 39)).heap.size = w.heap.size + 1 from by simp] at this
  obtain ⟨i0, hi, hz0, hz1, hz2⟩ := info_parts Try.info_ints
  obtain ⟨j0, hj, hy0, hy1, hy2⟩ := info_parts Try.info_int64
  have HWO := Lib.hid (walkOfAuto_any _ ⟨st, go, fin, nx⟩ gv gs _ hf (HIS.out _ hb) hfr (HRU.out _ hb))
  have HB := Lib.hid hb
  have HP := Lib.hid hP
  obtain ⟨Af, cf, rfl⟩ := hF.shape
  obtain ⟨An, cn, rfl, hNx⟩ := hN
  obtain ⟨Ag, cg, rfl, hRx⟩ := hr
  obtain ⟨⟨p0, p1, p2, p3⟩, _⟩ := blk4_cells hP
  clear hb hP hF hNx hRx
  unfold mapsA
  cases hall : (aOk ⟨st, go, fin, nx⟩ && gOk gs)
  · rw [hall] at HWO
    rw [if_neg (by intro h; rw [h.1, h.2] at hall; cases hall)]
    clear hall
    go_enter Try.func43, Try.ntmps43
    go_wp2_with fail
    refine HWO.out.mono ?_
    rintro e w3 ⟨wv, rfl, _, hz, hB3⟩
    have hz := hz trivial
    subst hz
    have HB3 := Lib.hid (HB.out.trans (hB3.mono HB.out.size))
    unfold zeroW
    clear hB3
    go_wp2_with fail
    go_ret2
    exact ⟨_, [], rfl, ⟨World.ownsRow_nil _ _ _ _, Rws.nil _ _⟩, HB3.out.alloc HB3.out.size _⟩
  · rw [hall] at HWO
    rw [Bool.and_eq_true] at hall
    rw [if_pos hall]
    obtain ⟨⟨h1, h24⟩, hrow, hlen⟩ := aOk_parts hall.1
    have hgo := aOk_go' hall.1
    simp only at h1 h24 hrow hlen hgo
    have hn400 := gOk_len hall.2
    have hfit := (gOk_iff.1 hall.2).2.1
    have hmok := mapsK_ok hrow hlen h1 h24 hfit gs.length (Nat.le_refl _)
    have HMOK := Lib.hid hmok
    clear hall hrow hgo hfit hmok
    go_enter Try.func43, Try.ntmps43
    go_wp2_with fail
    refine HWO.out.mono ?_
    rintro e w3 ⟨wv, rfl, hyes, _, hB3⟩
    have hw3 := hyes trivial
    have HB3 := Lib.hid (HB.out.trans (hB3.mono HB.out.size))
    have HP3 := Lib.hid (HP.out.kept hB3)
    have HW3 := Lib.hid hw3
    obtain ⟨A2, c2, A3, c3, rfl⟩ := hw3.shape
    clear hyes hw3 hB3 p0 p1 p2 p3 hg
    have hb4 := (Below.refl _ w3).alloc (Nat.le_refl _) (.cells #[.slice Ag gs.length cg, .slice A2 (lens gs).length c2, .slice A3 gs.length c3, .int .i64 go] 122)
    have HW4 := Lib.hid (HW3.out.kept hb4)
    have HB4 := Lib.hid (HB3.out.trans (hb4.mono HB3.out.size))
    have HP4 := Lib.hid (HP3.out.kept hb4)
    have HQ4 : Hid (B4 (w3.alloc (.cells #[.slice Ag gs.length cg, .slice A2 (lens gs).length c2, .slice A3 gs.length c3, .int .i64 go] 122)) w3.heap.size _ _ _ _ _) := Lib.hid (B4.new w3 _ _ _ _ _)
    clear hb4
    go_upto_region 4 with fail
    obtain ⟨Qb, hQb⟩ : ∃ Qb, Qb = w3.heap.size := ⟨_, rfl⟩
    rw [← hQb] at HQ4 ⊢
    generalize w3.alloc (.cells #[.slice Ag gs.length cg, .slice A2 (lens gs).length c2, .slice A3 gs.length c3, .int .i64 go] 122) = w4 at *
    clear hQb
    obtain ⟨⟨p0, p1, p2, p3⟩, _⟩ := blk4_cells HP4.out
    obtain ⟨⟨q0, q1, q2, q3⟩, _⟩ := blk4_cells HQ4.out
    have HIM : Hid (IsMs w4 _ (.slice A3 gs.length c3) (mapsK nx gs gs.length)) := Lib.hid (by
      obtain ⟨lv, mv, hv, h2, h3⟩ := HW4.out
      injection hv with hv
      injection hv with hv
      injection hv with _ hv
      injection hv with hl hv
      injection hv with hm hv
      subst hm
      exact h3)
    obtain ⟨n, hne⟩ : ∃ n, n = gs.length := ⟨_, rfl⟩
    have HNE := Lib.hid hne
    obtain ⟨N, hNe⟩ : ∃ N, N = nx.length := ⟨_, rfl⟩
    have HNN := Lib.hid hNe
    have hNst : st = (N : Int) := by omega
    have hN24 : N ≤ 24 := by omega
    subst hNst
    rw [← hne] at hn400 q0 q2 HIM ⊢
    clear hne hNe
    go_wp2_with (first | (at_make; refine wpList_make_own _ rfl _ _ 22 rfl w4.heap.size 35 i0 (.slice none 0 0) 1 Try.underlying22 hi hz0 hz1 .i64 .i64 _ n rfl rfl rfl (by rw [hz2]; omega) (by unfold maxLen; omega) (Nat.le_refl _) ?_))
    intro w5 hown5 hg5
    have HB5 : Hid (Below w4.heap.size w4 w5) := Lib.hid ((Below.refl _ w4).grown hg5 (Nat.le_refl _) (fun q hq => by cases hq))
    have HST : Hid (MSt w4 (mapsN nx gs N 0) (.slice (some ⟨w4.heap.size, 0, none⟩) 0 n) w5) := Lib.hid ⟨[], ⟨hown5, Rws.nil _ _⟩, HB5.out⟩
    have q2' := (HB5.out.cell (lt_of_cell q2)).trans q2
    clear hown5 hg5
    go_upto_region 6 with fail
    go_loopw [8, 29] (fun y i wr => ∃ k : Nat, k ≤ n ∧ i = .int .i64 k ∧ MSt w4 (mapsN nx gs N k) y wr) (fun _ i _ => n - (intOf i).toNat)
    case atStart => exact ⟨0, Nat.zero_le _, rfl, HST.out⟩
    case round =>
      obtain ⟨k, hk, rfl, hst⟩ := hrel
      obtain ⟨wo, rfl⟩ : ∃ wo : World, wo = wr := ⟨_, rfl⟩
      obtain ⟨U, hm, hB⟩ := hst
      have HM := Lib.hid (And.intro hm hB)
      have hlenU := hm.len
      rw [mapsN_len] at hlenU
      obtain ⟨Ay, cy, hAy⟩ := own_slice hm.outer
      rw [hlenU] at hAy
      subst hAy
      have HLU := Lib.hid hlenU
      clear hlenU
      by_cases hkn : k < n
      · have hkg : k < gs.length := by rw [← HNE.out]; exact hkn
        have hok1 := HMOK.out k hkg
        have hnx : mapsN nx gs N (k + 1) = mapsN nx gs N k ++ [((mapsK nx gs gs.length).getD k []).take N] := by
          unfold mapsN
          rw [mapsK_getD nx gs k gs.length hkg, mapsK_last, mapsK, List.map_append]
          rfl
        obtain ⟨M, hA3, hrange⟩ : ∃ M, A3 = some ⟨M, 0, none⟩ ∧ w4.rangeAt M (k * 24) (iv ((mapsK nx gs gs.length).getD k [])) := by
          have him := HIM.out
          rw [HNE.out] at him
          obtain ⟨A, c, hv, h | ⟨M, hA, hMl, hc⟩⟩ := him
          · have := mapsK_len nx gs gs.length
            rw [h] at this
            simp at this
            omega
          · injection hv with hv
            refine ⟨M, hv.trans hA, fun i v hv => ?_⟩
            have hi : i < 24 := by have := (List.getElem?_eq_some_iff.1 hv).1; rw [iv_len, hok1.1] at this; exact this
            rw [iv_get _ i (by rw [hok1.1]; exact hi)] at hv
            injection hv with hv
            subst hv
            rw [hc k i (by rw [mapsK_len]; exact hkg) hi, List.getD_eq_getElem?_getD (i := i), List.getElem?_eq_getElem (by rw [hok1.1]; exact hi)]
            rfl
        subst hA3
        generalize (mapsK nx gs gs.length).getD k [] = row at *
        have hr24 := hok1.1
        have HNX := Lib.hid hnx
        have HRT : Hid (wo.rangeAt M (k * 24) (iv row)) := Lib.hid (fun i v hv => (hB.cell (lt_of_cell (hrange i v hv))).trans (hrange i v hv))
        have HSZ : Hid ((Try.prog.info? 136).map (·.size) = some (iv row).length) := Lib.hid (by rw [size_map, iv_len, hr24])
        have pw := (hB.cell (lt_of_cell p0)).trans p0
        have k0 : (0 : Int) ≤ (k : Int) := by omega
        have k1 : (k : Int) < (n : Int) := by omega
        have HOK := Lib.hid hok1
        have HSA : Hid ((Try.prog.info? 136).map (·.size) = some (iv row).toArray.size) := Lib.hid (by rw [size_map]; simp [iv, hr24])
        have HS24 : Hid ((iv row).toArray.size = 24) := Lib.hid (by simp [iv, hr24])
        have HONE : Hid ((iv row).toArray.all (·.oneCell') = true) := Lib.hid (all_oneCell_toArray (fun v hv => by obtain ⟨x, _, rfl⟩ := List.mem_map.1 hv; rfl))
        have HM0 := Lib.hid hm
        have HR24 := Lib.hid hr24
        clear hm hrange hnx hok1 hr24
        go_upto_region 8 with (first
          | (with_reducible refine wpList_load_mid rfl 136 _ rfl M (k * 24) rfl (iv row) _ HRT.out und_map rfl HSZ.out ?_)
          | (refine wpList_store_row rfl 136 _ _ rfl wo.heap.size _ rfl rfl 136 _ (heap_alloc_new wo _) HSA.out (by show 24 = _; exact HS24.out.symm) HONE.out ?_))
        change Code.wp _ _ _ _ ((wo.alloc (.cells (iv (List.replicate 24 0)).toArray 136)).setRow wo.heap.size (iv row).toArray)
        have hb6 : Below wo.heap.size wo ((wo.alloc (.cells (iv (List.replicate 24 0)).toArray 136)).setRow wo.heap.size (iv row).toArray) := bSetRow ((Below.refl _ wo).alloc (Nat.le_refl _) _) (Nat.le_refl _) _
        have hk6 : ((wo.alloc (.cells (iv (List.replicate 24 0)).toArray 136)).setRow wo.heap.size (iv row).toArray).heap[wo.heap.size]? = some (.cells (iv row).toArray 136 (0, 0)) := setRow_heap _ wo.heap.size _ _ _ _ (heap_alloc_new wo _)
        have hs6 : ((wo.alloc (.cells (iv (List.replicate 24 0)).toArray 136)).setRow wo.heap.size (iv row).toArray).heap.size = wo.heap.size + 1 := by rw [size_setRow]; simp
        generalize (wo.alloc (.cells (iv (List.replicate 24 0)).toArray 136)).setRow wo.heap.size (iv row).toArray = w6 at *
        obtain ⟨Kb, hKb⟩ : ∃ Kb, Kb = wo.heap.size := ⟨_, rfl⟩
        have HB6 := Lib.hid hb6
        have pw6 := (hb6.cell (lt_of_cell pw)).trans pw
        have hw6 : w.heap.size < w6.heap.size := lt_of_cell pw6
        rw [← hKb] at hk6 hs6 ⊢
        have hKl : Kb < w6.heap.size := by omega
        have hst0 : ((N : Int)).toNat = N := Int.toNat_natCast N
        have hN0 : (0 : Int) ≤ (N : Int) := by omega
        have hN24' : (N : Int) ≤ 24 := by omega
        have HKB := Lib.hid hKb
        have HK6 := Lib.hid hk6
        have HS6 := Lib.hid hs6
        have hws : w4.heap.size ≤ w6.heap.size := by have := hB.size; have := HB6.out.size; omega
        have HWB := Lib.hid hws
        have HSTB : Hid (InS w4 (.slice Ay k cy) U (mapsN nx gs N k) w6.heap.size row 0 (.slice (some ⟨w6.heap.size, 0, none⟩) 0 0) (w6.alloc (.cells #[] 2))) := Lib.hid
          ⟨(HM0.out.kept HB6.out).kept ((Below.refl _ w6).alloc (Nat.le_refl _) _), World.ownsRow_lit (base := w6.heap.size) (e := 2) (size := 1) w6 #[] 0 (Nat.le_refl _) (by decide) rfl, (hB.trans (HB6.out.mono hB.size)).alloc hws _, by simp⟩
        have HUB := Lib.hid (fun u hu q (hq : u.ownBlock = some q) => Nat.lt_of_lt_of_le (HM0.out.rows.ge u hu q hq).2 HB6.out.size)
        have HYB := Lib.hid (fun q (hq : (Value.slice Ay k cy).ownBlock = some q) => Nat.lt_of_lt_of_le (HM0.out.outer.lt q hq).2 HB6.out.size)
        clear hb6 hk6 pw hKb hs6 hB
        go_wp2_with fail
        go_loopw [11, 13, 38] (fun tv _ i wr => ∃ s : Nat, s ≤ N ∧ i = .int .i64 s ∧ InS w4 (.slice Ay k cy) U (mapsN nx gs N k) w6.heap.size row s tv wr ∧ Below w6.heap.size w6 wr) (fun _ _ i _ => N - (intOf i).toNat)
        case atStart => exact ⟨0, Nat.zero_le _, rfl, HSTB.out, (Below.refl _ w6).alloc (Nat.le_refl _) _⟩
        case round =>
          obtain ⟨s, hs, rfl, hst, hbk⟩ := hrel
          obtain ⟨wu, rfl⟩ : ∃ wu : World, wu = wr := ⟨_, rfl⟩
          have HIS := Lib.hid hst
          have HBK := Lib.hid hbk
          obtain ⟨A3, c3', hA3⟩ := own_slice hst.2.1
          rw [List.length_take, Nat.min_eq_left (by have := HR24.out; omega)] at hA3
          subst hA3
          have hwu : w6.heap.size ≤ wu.heap.size := hst.2.2.2
          have hw4u : w4.heap.size ≤ wu.heap.size := by omega
          by_cases hsN : s < N
          · have hs24 : s < row.length := by have := HR24.out; omega
            have HSR := Lib.hid hs24
            have ck : wu.cell? ⟨Kb, s, none⟩ = some (.int .i64 row[s]) := by
              rw [hbk.cell (p := ⟨Kb, s, none⟩) hKl, cell_of_row _ _ _ _ _ _ HK6.out, List.getElem?_toArray, iv_get _ s hs24]
              rfl
            have HO : Hid (∀ o, (wu.alloc o).ownsRow w6.heap.size 2 1 (.slice A3 s c3') s (iv (row.take s))) := Lib.hid (fun o => by
              have := hst.2.1
              unfold OwnsI at this
              rw [List.length_take, Nat.min_eq_left (by omega)] at this
              exact this.alloc o)
            obtain ⟨z, hz⟩ : ∃ z, z = row[s] := ⟨_, rfl⟩
            have HZ := Lib.hid hz
            rw [← hz] at ck
            have s0 : (0 : Int) ≤ (s : Int) := by omega
            have s1 : (s : Int) < (N : Int) := by omega
            clear hst hbk hz hs24
            go_wp2_with (first | (at_builtin; refine wpList_append_own _ rfl _ _ 35 rfl w6.heap.size 2 j0 (.int .i64 0) 1 8 Try.underlying35 hj hy0 hy1 hy2 rfl (by decide) _ _ _ rfl (HO.out _) ⟨wu.heap.size, 0, none⟩ 1 1 [.int .i64 z] rfl rfl (one_new _ _ _) (one_int _ _) (by unfold maxLen; omega) (by omega) (by simp; omega) ?_))
            intro v' w8 hown hg _
            rw [HZ.out] at hown
            have HN8 := Lib.hid (InS.append HIS.out HWB.out HUB.out HYB.out HSR.out hown hg)
            have HB8 := Lib.hid ((HBK.out.alloc hwu _).grown hg (by simp; omega) (fun q hq => (HIS.out.2.1.lt q hq).1))
            clear hown hg
            go_wp2_with fail
            go_roundw
            all_goals first | exact ⟨s + 1, by omega, by go_num, HN8.out, HB8.out⟩ | ((repeat apply Exists.intro); exact ⟨⟨s + 1, by omega, by go_num, HN8.out, HB8.out⟩, rfl⟩) | (simp [intOf]; done) | (simp [intOf]; omega) | omega
          · obtain rfl : s = N := by omega
            have HFR : Hid (∀ q ∈ U, q.ownBlock = none ∨ q.ownBlock ≠ (Value.slice A3 s c3').ownBlock) := Lib.hid (fun q hq => by
              cases e : q.ownBlock with
              | none => exact .inl rfl
              | some g => exact .inr fun e' => by have h1 := HUB.out q hq g e; have h2 := (hst.2.1.lt g e'.symm).1; omega)
            have HOU : Hid (∀ o, (wu.alloc o).ownsRow w4.heap.size 35 1 (.slice Ay k cy) k U) := Lib.hid (fun o => by
              have := hst.1.outer
              rw [HLU.out] at this
              exact this.alloc o)
            clear hst hbk
            go_wp2_with (first | (at_builtin; refine wpList_append_own _ rfl _ _ 22 rfl w4.heap.size 35 i0 (.slice none 0 0) 1 24 Try.underlying22 hi hz0 hz1 hz2 rfl (by decide) _ _ _ rfl (HOU.out _) ⟨wu.heap.size, 0, none⟩ 1 1 [.slice A3 s c3'] rfl rfl (one_new _ _ _) (one_slice _ _ _) (by unfold maxLen; omega) (by omega) (by simp; omega) ?_))
            intro y' w9 hown hg9 _
            have HST9 : Hid (MSt w4 (mapsN nx gs s (k + 1)) y' w9) := Lib.hid (by
              rw [HNX.out]
              refine ⟨U ++ [.slice A3 s c3'], HIS.out.1.snoc (own_lower HIS.out.2.1 HWB.out) HFR.out (by rw [HLU.out]; exact hown) hg9, ?_⟩
              exact (HIS.out.2.2.1.alloc hw4u _).grown hg9 (by simp; omega) (fun q hq => (HIS.out.1.outer.lt q hq).1))
            clear hown hg9
            go_wp2_with fail
            go_roundw
            all_goals first | exact ⟨k + 1, by omega, by go_num, HST9.out⟩ | ((repeat apply Exists.intro); exact ⟨⟨k + 1, by omega, by go_num, HST9.out⟩, rfl⟩) | (simp [intOf]; done) | (simp [intOf]; omega) | omega
      · obtain rfl : k = n := by omega
        clear hm hB
        have HF := Lib.hid (HB4.out.trans (HM.out.2.mono HB4.out.size))
        have HMM : Hid (OwnM wo w.heap.size (.slice Ay k cy) U (mapsN nx gs nx.length gs.length)) := Lib.hid (by rw [← HNN.out, ← HNE.out]; exact HM.out.1.lower HB4.out.size)
        go_wp2_with fail
        go_ret2
        exact ⟨_, U, rfl, HMM.out, HF.out⟩
set_option maxRecDepth 100000 in
set_option maxHeartbeats 6400000 in
theorem specStateMaps (av : Value) (x : Au) (gv : Value) (gs : List Rl) (w : World) (hf : FewA x) (hx : IsAu w av x) (hfr : FewR gs) (hr : Rules w gv gs) :
    Calls Try.prog 42 #[av, .agg #[gv]] w fun e w' => ∃ y U, e = .returned (.tuple #[y, .int .i64 (mapsA x gs).2]) ∧ OwnM w' w.heap.size y U (mapsA x gs).1 ∧ Below w.heap.size w w' := by
  obtain ⟨st, go, fin, nx⟩ := x
  obtain ⟨f, n, rfl, hF, hN⟩ := hx
  simp only at hF hN
  have hb : Below w.heap.size w ((w.alloc (.cells #[.int .i64 st, .int .i64 go, f, n] 39)).alloc (.cells #[gv] 58)) := ((Below.refl _ w).alloc (Nat.le_refl _) _).alloc (by simp) _
  have hP : B4 ((w.alloc (.cells #[.int .i64 st, .int .i64 go, f, n] 39)).alloc (.cells #[gv] 58)) w.heap.size (.int .i64 st) (.int .i64 go) f n 39 := (B4.new w _ _ _ _ _).alloc _
  have hG : GP ((w.alloc (.cells #[.int .i64 st, .int .i64 go, f, n] 39)).alloc (.cells #[gv] 58)) (w.heap.size + 1) gs := by
    have := rules_gpT (hr.kept ((Below.refl _ w).alloc (Nat.le_refl _) (.cells #[.int .i64 st, .int .i64 go, f, n] 39))) 58
    rwa [show (w.alloc (.cells #[.int .i64 st, .int .i64 go, f, n] 39)).heap.size = w.heap.size + 1 from by simp] at this
  have HC := Lib.hid (l04Ok_any w.heap.size f n ⟨st, go, fin, nx⟩ _ hP (hF.kept hb) (hN.kept hb) hf)
  have HG := Lib.hid (fun W h => l02Ok_any (w.heap.size + 1) gs W hfr h)
  have HGP := Lib.hid hG
  have hgc0 : ((w.alloc (.cells #[.int .i64 st, .int .i64 go, f, n] 39)).alloc (.cells #[gv] 58)).cell? ⟨w.heap.size + 1, 0, none⟩ = some gv := by
    have := cell_new (w.alloc (.cells #[.int .i64 st, .int .i64 go, f, n] 39)) gv 58
    rwa [show (w.alloc (.cells #[.int .i64 st, .int .i64 go, f, n] 39)).heap.size = w.heap.size + 1 from by simp] at this
  have HGC := Lib.hid hgc0
  clear hgc0
  have HB := Lib.hid hb
  have HP := Lib.hid hP
  have HN := Lib.hid (fun W (hW : Below w.heap.size w W) => hN.kept hW)
  obtain ⟨Af, cf, rfl⟩ := hF.shape
  obtain ⟨An, cn, rfl, hNx⟩ := hN
  obtain ⟨Ag, cg, rfl, hRx⟩ := hr
  clear hb hP hG hF hNx hRx
  unfold mapsA
  cases ha : aOk ⟨st, go, fin, nx⟩
  · rw [ha] at HC
    rw [if_neg (by simp)]
    clear ha
    go_enter Try.func42, Try.ntmps42
    go_wp2_with fail
    refine HC.out.mono ?_
    rintro e w3 ⟨rfl, hD⟩
    have HB3 := Lib.hid (HB.out.trans (hD.below _))
    clear hD
    go_wp2_with fail
    go_ret2
    exact ⟨_, [], rfl, ⟨World.ownsRow_lit (base := w.heap.size) (e := 35) (size := 1) w3 #[] 0 HB3.out.size (by decide) rfl, Rws.nil _ _⟩, HB3.out.alloc HB3.out.size _⟩
  · rw [ha] at HC
    obtain ⟨⟨h1, h24⟩, hrow, hlen⟩ := aOk_parts ha
    have hgo := aOk_go' ha
    simp only at h1 h24 hrow hlen hgo
    cases hok : gOk gs
    · rw [if_neg (by simp)]
      have HG2 : Hid (∀ W, GP W (w.heap.size + 1) gs → Calls Try.prog 89 #[.pointer (some ⟨w.heap.size + 1, 0, none⟩)] W fun e w' => e = .returned (.bool false) ∧ Below W.heap.size W w') := Lib.hid (fun W h => by have := HG.out W h; rwa [hok] at this)
      clear ha hok hrow hlen hgo
      go_enter Try.func42, Try.ntmps42
      go_wp2_with fail
      refine HC.out.mono ?_
      rintro e w3 ⟨rfl, hD⟩
      have HB3 := Lib.hid (HB.out.trans (hD.below _))
      have HG3 := Lib.hid (HGP.out.kept (hD.below _))
      clear hD
      go_wp2_with fail
      refine (HG2.out _ HG3.out).mono ?_
      rintro e w4 ⟨rfl, hB4⟩
      have HB4 := Lib.hid (HB3.out.trans (hB4.mono HB3.out.size))
      clear hB4
      go_wp2_with fail
      go_ret2
      exact ⟨_, [], rfl, ⟨World.ownsRow_lit (base := w.heap.size) (e := 35) (size := 1) w4 #[] 0 HB4.out.size (by decide) rfl, Rws.nil _ _⟩, HB4.out.alloc HB4.out.size _⟩
    · rw [if_pos ⟨rfl, rfl⟩]
      have HG2 : Hid (∀ W, GP W (w.heap.size + 1) gs → Calls Try.prog 89 #[.pointer (some ⟨w.heap.size + 1, 0, none⟩)] W fun e w' => e = .returned (.bool true) ∧ Below W.heap.size W w') := Lib.hid (fun W h => by have := HG.out W h; rwa [hok] at this)
      have hfit := (gOk_iff.1 hok).2.1
      have hn400 := gOk_len hok
      have HM := Lib.hid (fun W (hb : Below w.heap.size w W) hg => l04Maps_any _ nx st (w.heap.size + 1) gs W h1 h24 hrow hlen (HN.out W hb) hfit hn400 hg)
      clear ha hok hrow hlen hfit hgo
      go_enter Try.func42, Try.ntmps42
      go_wp2_with fail
      refine HC.out.mono ?_
      rintro e w3 ⟨rfl, hD⟩
      have HB3 := Lib.hid (HB.out.trans (hD.below _))
      have HG3 := Lib.hid (HGP.out.kept (hD.below _))
      have HP3 := Lib.hid (HP.out.kept (hD.below _))
      clear hD
      go_wp2_with fail
      refine (HG2.out _ HG3.out).mono ?_
      rintro e w4 ⟨rfl, hB4⟩
      have HB4 := Lib.hid (HB3.out.trans (hB4.mono HB3.out.size))
      have HP4 := Lib.hid (HP3.out.kept hB4)
      have HG4 := Lib.hid (HG3.out.kept hB4)
      obtain ⟨⟨p0, p1, p2, p3⟩, _⟩ := blk4_cells HP4.out
      clear hB4
      go_wp2_with fail
      refine (HM.out _ HB4.out HG4.out).mono ?_
      rintro e w5 ⟨y, U, rfl, ho, hB5⟩
      have HO5 := Lib.hid (ho.lower HB4.out.size)
      have HB5 := Lib.hid (HB4.out.trans (hB5.mono HB4.out.size))
      clear ho hB5
      go_wp2_with fail
      go_ret2
      exact ⟨_, U, rfl, HO5.out, HB5.out⟩
end Go.Proofs.Ytddjcgaejjldbaa
