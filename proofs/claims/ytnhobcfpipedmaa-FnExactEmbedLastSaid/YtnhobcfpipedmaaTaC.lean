/-
  Walk: spec.l05Counts.
-/
import Derived.Test.YtnhobcfpipedmaaTaM
import Derived.Test.YtnhobcfpipedmaaMat
import Derived.Test.YtnhobcfpipedmaaLetN
import Derived.Test.YtnhobcfpipedmaaHand
import Derived.StillTailTactics
import Derived.Laws.MakeOwn
namespace Go.Proofs.Ytnhobcfpipedmaa
open Go.RowKit
open Wd
set_option linter.unusedVariables false
namespace Wd
/-- a row of four that is being filled -/
def preT (u : List Int) (s : Nat) : List Int := (List.range 4).map fun i => if i < s then u.getD i 0 else 0
theorem preT_len (u : List Int) (s : Nat) : (preT u s).length = 4 := by simp [preT]
theorem preT_zero (u : List Int) : preT u 0 = List.replicate 4 0 := rfl
theorem preT_all {u : List Int} (h : u.length = 4) : preT u 4 = u := by
  rw [four_of h]; rfl
theorem preT_next (u : List Int) (s : Nat) (h : s < 4) : preT u (s + 1) = (preT u s).set s (u.getD s 0) := by
  obtain rfl | rfl | rfl | rfl : s = 0 ∨ s = 1 ∨ s = 2 ∨ s = 3 := by omega
  all_goals rfl
theorem preT_same (u : List Int) (s : Nat) (h : s < 4) (h0 : u.getD s 0 = 0) : preT u (s + 1) = preT u s := by
  rw [preT_next u s h, h0]
  obtain rfl | rfl | rfl | rfl : s = 0 ∨ s = 1 ∨ s = 2 ∨ s = 3 := by omega
  all_goals rfl
/-- the tallies of the first rules -/
def taZ (gs : List Rl) (k : Nat) : List (List Int) := (List.range k).map (taAt gs)
theorem taZ_len (gs : List Rl) (k : Nat) : (taZ gs k).length = k := by simp [taZ]
theorem taZ_succ (gs : List Rl) (k : Nat) : taZ gs (k + 1) = taZ gs k ++ [taAt gs k] := by simp [taZ, List.range_succ]
theorem taZ_get (gs : List Rl) (k j : Nat) (h : j < k) : (taZ gs k)[j]? = some (taAt gs j) := by simp [taZ, h]
end Wd
/-- between two letters of a rule: wo is the world ahead of the rule, T the row that is filled -/
def TcSt (wo : World) (T : Nat) (x : Rl) (u : List Int) (s : Nat) (wr : World) : Prop :=
  wr.ownsRow wo.heap.size 2 1 (.slice (some ⟨T, 0, none⟩) 4 4) 4 (iv (preT u s)) ∧ wr.heap[wo.heap.size]? = some (.cells #[.string x.L, .int .i64 x.l, .int .i64 x.r] 94 (0, 0)) ∧ Below wo.heap.size wo wr
theorem tcSt_store {wo wr : World} {T : Nat} {x : Rl} {u : List Int} {s : Nat} (h : TcSt wo T x u s wr) (hs : s < 4) (hT : T ≠ wo.heap.size) (hT2 : wo.heap.size ≤ T) : TcSt wo T x u (s + 1) (wr.setCell ⟨T, s, none⟩ (.int .i64 (u.getD s 0))) := by
  obtain ⟨h1, h2, h3⟩ := h
  refine ⟨?_, (Below.heap_setCell wr _ _ _ (fun e => hT e.symm)).trans h2, h3.setCell hT2 _⟩
  rw [preT_next u s hs]
  exact u_store h1 s _
theorem TcSt.drew {wo wr : World} {T : Nat} {x : Rl} {u : List Int} {s : Nat} (h : TcSt wo T x u s wr) : TcSt wo T x u s wr.drew := ⟨h.1.drew, h.2.1, h.2.2.drew⟩
set_option maxRecDepth 100000 in
set_option maxHeartbeats 6400000 in
theorem l05Counts_any (pg : Nat) (gs : List Rl) (w : World) (hok : gOk gs = true) (hg : GP w pg gs) :
    Calls Try.prog 47 #[.pointer (some ⟨pg, 0, none⟩)] w fun e w' => ∃ y, e = .returned y ∧ MSt w (taZ gs gs.length) y w' := by
  obtain ⟨i0, hi, hz0, hz1, hz2⟩ := info_parts Try.info_ints
  obtain ⟨j0, hj, hy0, hy1, hy2⟩ := info_parts Try.info_i64
  have hn := gOk_len hok
  obtain ⟨gv, hgv, hR⟩ := hg
  obtain ⟨Av, cv, rfl, hrc⟩ := hR
  have HRC := Lib.hid hrc
  have HGV := Lib.hid hgv
  have HOK := Lib.hid hok
  have HFIT := Lib.hid (gOk_iff.1 hok).2.1
  obtain ⟨n, hne⟩ : ∃ n, n = gs.length := ⟨_, rfl⟩
  rw [← hne]
  rw [← hne] at hn hgv
  have HNE := Lib.hid hne
  have HS := Lib.hid (MSt.start w _ rfl)
  clear hrc hok hne
  go_enter Try.func47, Try.ntmps47
  go_wp2_with fail
  go_loopw [3, 4] (fun y i wr => ∃ k : Nat, k ≤ n ∧ i = .int .i64 k ∧ MSt w (taZ gs k) y wr) (fun _ i _ => n - (intOf i).toNat)
  case atStart => exact ⟨0, Nat.zero_le _, rfl, HS.out⟩
  case round =>
    obtain ⟨k, hk, rfl, hst⟩ := hrel
    obtain ⟨wo, rfl⟩ : ∃ wo : World, wo = wr := ⟨_, rfl⟩
    obtain ⟨U, hm, hB⟩ := hst
    have HM := Lib.hid (And.intro hm hB)
    have hlenU := hm.len
    rw [taZ_len] at hlenU
    obtain ⟨Ay, cy, hAy⟩ := own_slice hm.outer
    rw [hlenU] at hAy
    subst hAy
    have HLU := Lib.hid hlenU
    have hgo := (hB.cell (lt_of_cell HGV.out)).trans HGV.out
    rw [← HNE.out] at hgo
    clear hgv hlenU
    by_cases hkn : k < n
    · have hkg : k < gs.length := by rw [← HNE.out]; exact hkn
      rcases HRC.out with hn0 | ⟨g, rfl, hg, hc⟩
      · rw [hn0] at hkg; simp at hkg
      obtain ⟨a0, a1, a2⟩ := rules_cells hc hkg
      rw [← hB.cell (p := ⟨g, k * 3, none⟩) hg] at a0
      rw [← hB.cell (p := ⟨g, k * 3 + 1, none⟩) hg] at a1
      rw [← hB.cell (p := ⟨g, k * 3 + 2, none⟩) hg] at a2
      have hfk := fits_at HFIT.out k hkg
      have hta := taAt_ok HOK.out hkg
      have k0 : (0 : Int) ≤ (k : Int) := by omega
      have k1 : (k : Int) < (n : Int) := by omega
      have hws := hB.size
      obtain ⟨u, hu⟩ : ∃ u, u = taAt gs k := ⟨_, rfl⟩
      have hnx : taZ gs (k + 1) = taZ gs k ++ [u] := by rw [hu]; exact taZ_succ gs k
      have HNX := Lib.hid hnx
      have HU := Lib.hid hu
      have HXR := Lib.hid (heap_alloc_new wo (.cells #[.string gs[k].L, .int .i64 gs[k].l, .int .i64 gs[k].r] 94))
      have hb1 : Below wo.heap.size wo (wo.alloc (.cells #[.string gs[k].L, .int .i64 gs[k].l, .int .i64 gs[k].r] 94)) := (Below.refl _ wo).alloc (Nat.le_refl _) _
      have HB1 := Lib.hid hb1
      rw [← hu] at hta
      have HTA := Lib.hid hta
      clear hc hm hB hb1 hnx hu hta
      go_wp2_with (refine wpList_make_full _ rfl _ _ 26 rfl wo.heap.size 2 j0 (.int .i64 0) 1 Try.underlying26 hj hy0 hy1 .i64 .i64 _ _ 4 rfl rfl rfl rfl (by rw [hy2]; omega) (by unfold maxLen; omega) (by simp) ?_)
      intro w1 hown hgr
      have hB1 := below_of_grown hgr
      obtain ⟨T, hT⟩ : ∃ T, T = wo.heap.size + 1 := ⟨_, rfl⟩
      rw [show (wo.alloc (.cells #[.string gs[k].L, .int .i64 gs[k].l, .int .i64 gs[k].r] 94)).heap.size = T from by rw [hT]; simp] at hB1
      rw [← hT] at hown
      rw [made_i64] at hown
      have HST : Hid (TcSt wo T gs[k] u 0 w1) := Lib.hid ⟨by rw [preT_zero]; exact hown, (hB1.block wo.heap.size (by omega)).trans HXR.out, HB1.out.trans (hB1.mono (by omega))⟩
      have hT1 : T ≠ wo.heap.size := by omega
      have hT2 : wo.heap.size ≤ T := by omega
      have hU := HLU.out
      clear hown hgr hB1 a0 a1 a2 hgo
      rw [← hT]
      clear hT
      go_wp2_with fail
      go_loopw [7] (fun i wr => ∃ s : Nat, s ≤ 4 ∧ i = .int .i64 s ∧ TcSt wo T gs[k] u s wr) (fun i _ => 4 - (intOf i).toNat)
      case atStart => exact ⟨0, by omega, rfl, HST.out⟩
      case round =>
        obtain ⟨s, hs, rfl, hst⟩ := hrel
        obtain ⟨wu, rfl⟩ : ∃ wu : World, wu = wr := ⟨_, rfl⟩
        by_cases hs4 : s < 4
        · have HIS := Lib.hid hst
          have s0 : (0 : Int) ≤ (s : Int) := by omega
          have s1 : (s : Int) < 4 := by omega
          obtain ⟨hown, hK, hBu⟩ := hst
          have t0 : wu.cell? ⟨T, s, none⟩ = some (.int .i64 ((preT u s).getD s 0)) := by
            rw [hown.cellAt s (by omega)]; exact iv_at (by rw [preT_len]; exact hs4)
          have tf : wu.frozen? ⟨T, s, none⟩ = false := hown.frozenAt _
          have HSTO := Lib.hid (tcSt_store HIS.out hs4 hT1 hT2)
          obtain ⟨z, hz⟩ : ∃ z, z = u.getD s 0 := ⟨_, rfl⟩
          rw [← hz] at HSTO
          have HZ := Lib.hid hz
          have kc0 := cell_of_row _ _ 0 _ _ _ hK
          have kc1 := cell_of_row _ _ 1 _ _ _ hK
          have kc2 := cell_of_row _ _ 2 _ _ _ hK
          generalize (preT u s).getD s 0 = t1 at *
          by_cases h0 : gs[k].L.size = 0
          · have hp := (ok_pair h0).1 hfk
            have he := empty_arr h0
            obtain ⟨a, ha⟩ : ∃ a : Nat, gs[k].l = a := ⟨gs[k].l.toNat, by omega⟩
            obtain ⟨b, hb⟩ : ∃ b : Nat, gs[k].r = b := ⟨gs[k].r.toNat, by omega⟩
            have hak : a < k := by omega
            have hbk : b < k := by omega
            have hva := taAt_ok HOK.out (k := a) (by omega)
            have hvb := taAt_ok HOK.out (k := b) (by omega)
            have hla := small_at (gOk_iff.1 HOK.out).2.2 a (by omega)
            have hlb := small_at (gOk_iff.1 HOK.out).2.2 b (by omega)
            have hzz : z = (taAt gs a).getD s 0 + (taAt gs b).getD s 0 := by
              rw [hz, HU.out, ← taJ_get _ _ s hs4]
              exact congrArg (fun q => q.getD s 0) (valAt_pair HFIT.out hkg h0 ha hb hak hbk)
            have hM7 := HM.out.1.kept (hBu.mono (Nat.le_refl _))
            obtain ⟨gy, hgy, _, hgl⟩ := own_addr (by have := hM7.outer; rw [hU] at this; exact this) (show 0 < k by omega)
            subst hgy
            have hout := hM7.outer
            rw [hU] at hout
            have cA := hout.cellAt a (by omega)
            have cB := hout.cellAt b (by omega)
            have hoA := hM7.rows.row a _ _ (List.getElem?_eq_getElem (by omega)) (taZ_get gs k a hak)
            have hoB := hM7.rows.row b _ _ (List.getElem?_eq_getElem (by omega)) (taZ_get gs k b hbk)
            rw [List.getElem?_eq_getElem (by omega)] at cA cB
            generalize U[a]'(by omega) = ua at *
            generalize U[b]'(by omega) = ub at *
            unfold OwnsI at hoA hoB
            rw [hva.1] at hoA
            rw [hvb.1] at hoB
            obtain ⟨Aa, ca, rfl⟩ := own_slice hoA
            obtain ⟨Ab, cb, rfl⟩ := own_slice hoB
            obtain ⟨ga, rfl, _, _⟩ := own_addr hoA (by omega)
            obtain ⟨gb, rfl, _, _⟩ := own_addr hoB (by omega)
            have dA : wu.cell? ⟨ga, s, none⟩ = some (.int .i64 ((taAt gs a).getD s 0)) := by
              rw [hoA.cellAt s (by omega)]; exact iv_at (by rw [hva.1]; exact hs4)
            have dB : wu.cell? ⟨gb, s, none⟩ = some (.int .i64 ((taAt gs b).getD s 0)) := by
              rw [hoB.cellAt s (by omega)]; exact iv_at (by rw [hvb.1]; exact hs4)
            obtain ⟨xa1, xa2⟩ := hva.2 s hs4
            obtain ⟨xb1, xb2⟩ := hvb.2 s hs4
            have xa3 : (taAt gs a).getD s 0 ≤ 1000000000000000 := by omega
            have xb3 : (taAt gs b).getD s 0 ≤ 1000000000000000 := by omega
            clear xa2 xb2 hva hvb hla hlb
            generalize (taAt gs a).getD s 0 = za at *
            generalize (taAt gs b).getD s 0 = zb at *
            have HSTB : Hid (TcSt wo T gs[k] u (s + 1) ((wu.drew).setCell ⟨T, s, none⟩ (.int .i64 (za + zb)))) := Lib.hid (by
              have := tcSt_store HIS.out.drew hs4 hT1 hT2
              rw [← hz, hzz] at this
              exact this)
            have HIX := Lib.hid ha
            generalize gs[k] = Rk at *
            obtain ⟨L, l, r⟩ := Rk
            simp only at ha hb he kc0 kc1 kc2
            subst ha hb he
            have kc0 : wu.cell? ⟨wo.heap.size, 0, none⟩ = some (.string ⟨#[]⟩) := kc0
            have kc1 : wu.cell? ⟨wo.heap.size, 1, none⟩ = some (.int .i64 (a : Int)) := kc1
            have kc2 : wu.cell? ⟨wo.heap.size, 2, none⟩ = some (.int .i64 (b : Int)) := kc2
            have a0' : (0 : Int) ≤ (a : Int) := by omega
            have a1' : (a : Int) < (k : Int) := by omega
            have b0' : (0 : Int) ≤ (b : Int) := by omega
            have b1' : (b : Int) < (k : Int) := by omega
            clear hz hzz hM7 hout hoA hoB hown hK hBu h0 hfk hp
            go_wp2_with fail
            go_still_tail 20, (by kernel_rfl)
            change wpList _ _ _ _ _ wu.drew
            go_wp2_with fail
            go_roundw
            all_goals first | exact ⟨s + 1, by omega, by go_num, HSTB.out⟩ | ((repeat apply Exists.intro); exact ⟨⟨s + 1, by omega, by go_num, HSTB.out⟩, rfl⟩) | (simp [intOf]; done) | (simp [intOf]; omega) | omega
          · obtain ⟨bt, hL, hb1, hb2, hno⟩ := letter_byte h0 hfk
            have he := full_list h0
            obtain ⟨d, hd⟩ : ∃ d : Nat, d = bt.toNat - 97 := ⟨_, rfl⟩
            have hd1 : bt.toNat = 97 + d := by omega
            have hd4 : d < 4 := by omega
            have hzz : z = if s = d then 1 else 0 := by
              rw [hz, HU.out, ← taF_get d s hs4, hd, ← hno]
              exact congrArg (fun q => q.getD s 0) (valAt_letter hkg h0)
            have hsame : z = 0 → preT u (s + 1) = preT u s := fun e => preT_same u s hs4 (by rw [← hz]; exact e)
            rw [hL] at kc0 he
            have HLT : Hid (∀ W, Calls Try.prog 49 #[.int .u8 ((((⟨#[bt]⟩ : ByteArray)[0]'(Nat.zero_lt_one)).toNat : Nat) : Int)] W fun e w' => e = .returned (.int .i64 (d : Int)) ∧ w' = W) := Lib.hid (fun W => by
              show Calls Try.prog 49 #[.int .u8 ((bt.toNat : Nat) : Int)] W _
              rw [hd1]
              exact letterN_any d hd4 W)
            have kc0 : wu.cell? ⟨wo.heap.size, 0, none⟩ = some (.string ⟨#[bt]⟩) := kc0
            by_cases hsd : s = d
            · have hz1 : z = 1 := by rw [hzz, if_pos hsd]
              rw [hz1] at HSTO
              subst hsd
              clear hz hzz hsame hown hK hBu h0 hfk hL hb1 hb2 hno hd hd1 kc1 kc2 hz1
              go_wp2_with fail
              refine (HLT.out _).mono ?_
              rintro e w9 ⟨rfl, rfl⟩
              go_wp2_with fail
              go_roundw
              all_goals first | exact ⟨s + 1, by omega, by go_num, HSTO.out⟩ | ((repeat apply Exists.intro); exact ⟨⟨s + 1, by omega, by go_num, HSTO.out⟩, rfl⟩) | (simp [intOf]; done) | (simp [intOf]; omega) | omega
            · have hz0 : z = 0 := by rw [hzz, if_neg hsd]
              have HSTN : Hid (TcSt wo T gs[k] u (s + 1) wu) := Lib.hid ⟨by rw [hsame hz0]; exact hown, hK, hBu⟩
              have hne1 : ((s : Int) == (d : Int)) = false := by rw [beq_eq_false_iff_ne]; omega
              clear hz hzz hsame hown hK hBu h0 hfk hL hb1 hb2 hno hd hd1 kc1 kc2 hz0
              go_wp2_with fail
              refine (HLT.out _).mono ?_
              rintro e w9 ⟨rfl, rfl⟩
              go_wp2_with fail
              go_roundw
              all_goals first | exact ⟨s + 1, by omega, by go_num, HSTN.out⟩ | ((repeat apply Exists.intro); exact ⟨⟨s + 1, by omega, by go_num, HSTN.out⟩, rfl⟩) | (simp [intOf]; done) | (simp [intOf]; omega) | omega
        · obtain rfl : s = 4 := by omega
          obtain ⟨hown, _, hBu⟩ := hst
          rw [preT_all HTA.out.1] at hown
          have HOT : Hid (OwnsI wu wo.heap.size (.slice (some ⟨T, 0, none⟩) 4 4) u) := Lib.hid (by unfold OwnsI; rw [HTA.out.1]; exact hown)
          have HBU := Lib.hid hBu
          have hszu := hBu.size
          have HOU : Hid (∀ o, (wu.alloc o).ownsRow w.heap.size 26 1 (.slice Ay k cy) k U) := Lib.hid (fun o => by
            have := (HM.out.1.kept hBu).outer
            rw [HLU.out] at this
            exact this.alloc o)
          clear hown hBu
          go_wp2_with (first | (at_builtin; refine wpList_append_own _ rfl _ _ 70 rfl w.heap.size 26 i0 (.slice none 0 0) 1 24 Try.underlying70 hi hz0 hz1 hz2 rfl (by decide) _ _ _ rfl (HOU.out _) ⟨wu.heap.size, 0, none⟩ 1 1 [.slice (some ⟨T, 0, none⟩) 4 4] rfl rfl (one_new _ _ _) (one_slice _ _ _) (by unfold maxLen; omega) (by omega) (by simp; omega) ?_))
          intro y' w6 hown hg6 _
          have HST6 : Hid (MSt w (taZ gs (k + 1)) y' w6) := Lib.hid (by
            rw [HNX.out]
            exact MSt.append HM.out HBU.out HOT.out (by rw [HLU.out]; exact hown) hg6)
          clear hown hg6
          go_wp2_with fail
          go_roundw
          all_goals first | exact ⟨k + 1, by omega, by go_num, HST6.out⟩ | ((repeat apply Exists.intro); exact ⟨⟨k + 1, by omega, by go_num, HST6.out⟩, rfl⟩) | (simp [intOf]; done) | (simp [intOf]; omega) | omega
    · obtain rfl : k = n := by omega
      clear hm hB
      go_wp2_with fail
      go_ret
      refine ⟨_, rfl, U, ?_⟩
      exact HM.out
end Go.Proofs.Ytnhobcfpipedmaa
