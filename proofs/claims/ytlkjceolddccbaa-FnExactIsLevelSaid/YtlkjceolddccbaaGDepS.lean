/-
  Walk: spec.DepthOf.
-/
import Derived.Test.YtlkjceolddccbaaGDep
namespace Go.Proofs.Ytlkjceolddccbaa
open Go.RowKit
open Wd
set_option linter.unusedVariables false

theorem max_any (a b : Int) (w : World) : Calls Try.prog 57 #[.int .i64 a, .int .i64 b] w fun e w' => e = .returned (.int .i64 (max a b)) ∧ w' = w := by
  by_cases h : b < a
  · have hm : max a b = a := by omega
    have HM := Lib.hid hm
    clear hm
    go_enter Try.func57, Try.ntmps57
    go_wp2
    go_ret
    exact ⟨ret_int HM.out.symm, rfl⟩
  · have hm : max a b = b := by omega
    have HM := Lib.hid hm
    clear hm
    go_enter Try.func57, Try.ntmps57
    go_wp2
    go_ret
    exact ⟨ret_int HM.out.symm, rfl⟩

/-- what holds between two rounds -/
def DRel (gs : List Rl) (w : World) (B : Nat) (v : Value) (out i : Value) (wr : World) : Prop :=
  ∃ k : Nat, k ≤ gs.length ∧ i = .int .i64 k ∧ wr.ownsRow B 2 1 out (k + 1) (iv (depK gs k)) ∧ Below w.heap.size w wr ∧ wr.cell? ⟨w.heap.size, 0, none⟩ = some v ∧ B ≤ wr.heap.size
theorem dRel_step {gs : List Rl} {w wr w1 : World} {v : Value} {k B : Nat} {out out' : Value} {o : Obj} (hBw : w.heap.size < B) (hk : k < gs.length) (hown : wr.ownsRow B 2 1 out (k + 1) (iv (depK gs k))) (hB : Below w.heap.size w wr)
    (hc : wr.cell? ⟨w.heap.size, 0, none⟩ = some v) (hs : B ≤ wr.heap.size)
    (hown' : w1.ownsRow B 2 1 out' (k + 1 + 1) (iv (depK gs k) ++ [.int .i64 (depV gs k)])) (hgrow : (wr.alloc o).grownBy w1 out.ownBlock) : DRel gs w B v out' (.int .i64 ((k + 1 : Nat) : Int)) w1 := by
  have hsz := hB.size
  have hlc := lt_of_cell hc
  simp only at hlc
  refine ⟨k + 1, hk, rfl, ?_, (hB.alloc hsz o).grown hgrow (by simp; omega) (fun q hq => by have := (hown.lt q hq).1; omega), ?_, Nat.le_trans hs (Nat.le_trans (by simp) hgrow.size)⟩
  · rw [depK_snoc gs k hk, iv_app]
    exact hown'
  · rw [World.cell?_of_block (a := ⟨w.heap.size, 0, none⟩) (hgrow.block w.heap.size (by simp; omega) (fun e => by have := (hown.lt _ e.symm).1; omega)), ((Below.refl _ wr).alloc (Nat.le_refl _) o).cell (p := ⟨w.heap.size, 0, none⟩) hlc]; exact hc

set_option maxRecDepth 100000 in
set_option maxHeartbeats 6400000 in
theorem specDepthOf (v : Value) (gs : List Rl) (w : World) (hf : FewR gs) (hr : Rules w v gs) :
    Calls Try.prog 16 #[.agg #[v]] w fun e w' => e = .returned (.tuple #[.int .i64 (depAns2 gs).1, .int .i64 (depAns2 gs).2]) ∧ Below w.heap.size w w' := by
  obtain ⟨i0, hi, hz0, hz1, hz2⟩ := info_parts Try.info_i64
  have hg := rules_gpD hr 30
  have h1 := l02Ok_any w.heap.size gs _ hf hg
  obtain ⟨A, c, rfl, hr⟩ := hr
  have hb := (Below.refl _ w).alloc (Nat.le_refl _) (.cells #[.slice A gs.length c] 30)
  have HB := Lib.hid hb
  unfold depAns2
  cases hok : gOk gs
  · rw [hok] at h1
    have H1 := Lib.hid h1
    clear h1 hb hok hr hg
    go_enter Try.func16, Try.ntmps16
    go_wp2_with fail
    refine H1.out.mono ?_
    rintro e w1 ⟨rfl, hB1⟩
    have HB1 := Lib.hid (HB.out.trans (hB1.mono (by simp)))
    clear hB1
    go_wp2_with fail
    go_ret2
    exact ⟨rfl, HB1.out⟩
  · rw [hok] at h1
    have H1 := Lib.hid h1
    have HFT := Lib.hid (gOk_iff.1 hok).2.1
    have hn := gOk_len hok
    obtain ⟨n, hng⟩ : ∃ n, n = gs.length := ⟨_, rfl⟩
    rw [← hng] at hn HB H1 ⊢
    have HN := Lib.hid hng
    have HR := Lib.hid hr
    clear h1 hb hok hr hg hng hf
    go_enter Try.func16, Try.ntmps16
    go_wp2_with fail
    refine H1.out.mono ?_
    rintro e w1 ⟨rfl, hB1⟩
    have HB1 := Lib.hid (HB.out.trans (hB1.mono (by simp)))
    have hc1 : w1.cell? ⟨w.heap.size, 0, none⟩ = some (.slice A n c) := (hB1.cell (p := ⟨w.heap.size, 0, none⟩) (by simp)).trans (cell_new _ _ _)
    have hlc1 := lt_of_cell hc1
    simp only at hlc1
    obtain ⟨B, hBe⟩ : ∃ B, B = w1.heap.size := ⟨_, rfl⟩
    have hBw : w.heap.size < B := by omega
    have hst : DRel gs w B (.slice A n c) (.slice (some ⟨w1.heap.size, 0, none⟩) 1 1) (.int .i64 0) (w1.alloc (.cells #[.int .i64 0] 2)) :=
      ⟨0, Nat.zero_le _, rfl, World.ownsRow_lit w1 #[.int .i64 0] 1 (by omega) (by decide) rfl, HB1.out.alloc HB1.out.size _, (((Below.refl _ w1).alloc (Nat.le_refl _) _).cell (p := ⟨w.heap.size, 0, none⟩) hlc1).trans hc1, by simp; omega⟩
    have HST := Lib.hid hst
    clear hB1 hst hc1 hBe hlc1
    go_wp2_with fail
    go_loopw [4, 5, 6] (fun x i _ wr => DRel gs w B (.slice A n c) x i wr) (fun _ i _ _ => n - (intOf i).toNat)
    case atStart => exact HST.out
    case round =>
      obtain ⟨k, hk, rfl, hown, hB, hcp, hBs⟩ := hrel
      obtain ⟨x, rfl⟩ : ∃ x : Value, x = u4 := ⟨_, rfl⟩
      obtain ⟨wo, rfl⟩ : ∃ wo : World, wo = wr := ⟨_, rfl⟩
      by_cases hlt : k < n
      · have hkg : k < gs.length := by rw [← HN.out]; exact hlt
        rcases HR.out with hn | ⟨g, rfl, hg, hc⟩
        · rw [hn] at hkg; simp at hkg
        obtain ⟨a0, a1, a2⟩ := rules_cells hc hkg
        rw [← hB.cell (p := ⟨g, k * 3, none⟩) hg] at a0
        rw [← hB.cell (p := ⟨g, k * 3 + 1, none⟩) hg] at a1
        rw [← hB.cell (p := ⟨g, k * 3 + 2, none⟩) hg] at a2
        clear hc
        have HSZ := Lib.hid hBs
        have hstep := fun (m : Nat) (w1 : World) (out' : Value) (o : Obj) h3 h4 => dRel_step (w1 := w1) (out' := out') (o := o) (wr := wo.drewN m) (v := .slice (some ⟨g, 0, none⟩) n c) hBw hkg hown (below_drewN hB m) hcp hBs h3 h4
        by_cases h0 : gs[k].L.size = 0
        · have he := empty_arr h0
          rw [he] at a0
          obtain ⟨a, b, ha, hb, hak, hbk, hsum⟩ := depV_next HFT.out k hkg h0
          rw [ha] at a1
          rw [hb] at a2
          have pa := depV_pos HFT.out a (by omega)
          have pb := depV_pos HFT.out b (by omega)
          rcases hown.2 with ⟨_, hk0⟩ | ⟨g', c', cur, rfl, _⟩
          · omega
          have o1 : wo.cell? ⟨g', a + 1, none⟩ = some (.int .i64 (depV gs a)) := by
            rw [hown.cellAt (a + 1) (by omega)]; simp only [iv, List.getElem?_map, depK_at hak (Nat.le_of_lt hkg), Option.map_some]
          have o2 : wo.cell? ⟨g', b + 1, none⟩ = some (.int .i64 (depV gs b)) := by
            rw [hown.cellAt (b + 1) (by omega)]; simp only [iv, List.getElem?_map, depK_at hbk (Nat.le_of_lt hkg), Option.map_some]
          rw [hsum] at hstep
          unfold depJ at hstep
          generalize depV gs a = z1 at *
          generalize depV gs b = z2 at *
          have hmx : 1 ≤ max z1 z2 ∧ max z1 z2 ≤ 500 := by omega
          have HMX := Lib.hid (fun W => max_any z1 z2 W)
          have HO := Lib.hid hown
          generalize max z1 z2 = z at *
          have HSTP := Lib.hid hstep
          have s1 : IntKind.i64.wrap ((a : Int) + 1) = (a : Int) + 1 := IntWalk.i64_in _ (by omega)
          have s2 : IntKind.i64.wrap ((b : Int) + 1) = (b : Int) + 1 := IntWalk.i64_in _ (by omega)
          have s3 : IntKind.i64.wrap (1 + z) = 1 + z := IntWalk.i64_in _ (by omega)
          have s4 : 0 ≤ (a : Int) + 1 := by omega
          have s5 : 0 ≤ (b : Int) + 1 := by omega
          have s6 : ((a : Int) + 1).toNat = a + 1 := by omega
          have s7 : ((b : Int) + 1).toNat = b + 1 := by omega
          have s8 : (a : Int) + 1 < (k : Int) + 1 := by omega
          have s9 : (b : Int) + 1 < (k : Int) + 1 := by omega
          have t1 : (0 : Int) ≤ (k : Int) := by omega
          have t2 : (k : Int) < (n : Int) := by omega
          clear hstep hsum hown ha hb he h0 hB pa pb
          go_wp2_with fail
          go_quiet ((go_at_call 57; exact Calls.quiet_of_same (HMX.out _)))
          clear s1 s2 s3 s4 s5 s6 s7 s8 s9 o1 o2 HMX
          go_wp2_with (first | (at_builtin; refine wpList_append_own _ rfl _ _ 53 rfl B 2 i0 (.int .i64 0) 1 8 Try.underlying53 hi hz0 hz1 hz2 rfl (by decide) _ _ _ rfl (World.ownsRow.alloc (own_drewN HO.out _) _) ⟨wo.heap.size, 0, none⟩ 1 1 [.int .i64 (1 + z)] rfl rfl (one_new _ _ _) (one_int _ _) (by unfold maxLen; omega) (by omega) (Nat.le_trans HSZ.out (by simp)) ?_))
          intro v' w2 hown' hgrow _
          have HNW := Lib.hid (HSTP.out _ w2 v' _ hown' hgrow)
          clear hown' hgrow
          go_wp2_with fail
          go_roundw
          case rel => first | exact HNW.out | ((repeat apply Exists.intro); exact ⟨HNW.out, rfl⟩)
          case measure => simp [intOf]; omega
        · have he := full_list h0
          rw [depV_letter k hkg h0] at hstep
          have HSTP := Lib.hid (hstep 0)
          have HO := Lib.hid hown
          clear hstep hown h0 hB
          go_wp2_with (first | (at_builtin; refine wpList_append_own _ rfl _ _ 53 rfl B 2 i0 (.int .i64 0) 1 8 Try.underlying53 hi hz0 hz1 hz2 rfl (by decide) _ _ _ rfl (World.ownsRow.alloc (HO.out) _) ⟨wo.heap.size, 0, none⟩ 1 1 [.int .i64 1] rfl rfl (one_new _ _ _) (one_int _ _) (by unfold maxLen; omega) (by omega) (Nat.le_trans HSZ.out (by simp)) ?_))
          intro v' w2 hown' hgrow _
          have HNW := Lib.hid (HSTP.out w2 v' _ hown' hgrow)
          clear hown' hgrow
          go_wp2_with fail
          go_roundw
          case rel => first | exact HNW.out | ((repeat apply Exists.intro); exact ⟨HNW.out, rfl⟩)
          case measure => simp [intOf]; omega
      · have hkn : k = n := by have := HN.out; omega
        obtain rfl : k = n := hkn
        have hl := depK_len gs k (by rw [← HN.out]; exact Nat.le_refl _)
        rcases hown.2 with ⟨_, hk0⟩ | ⟨g', c', cur, rfl, _⟩
        · omega
        have oc : wo.cell? ⟨g', k, none⟩ = some (.int .i64 (depAns gs)) := by
          rw [hown.cellAt k (by omega)]
          by_cases hk0 : k = 0
          · subst hk0
            have : depAns gs = 0 := by unfold depAns; rw [if_pos HN.out.symm]
            rw [this]; rfl
          · obtain ⟨m, rfl⟩ : ∃ m, k = m + 1 := ⟨k - 1, by omega⟩
            have : depAns gs = depV gs m := by unfold depAns; rw [if_neg (by rw [← HN.out]; omega), ← HN.out]; rfl
            rw [this]
            simp only [iv, List.getElem?_map, depK_at (show m < m + 1 by omega) (by rw [← HN.out]; exact Nat.le_refl _), Option.map_some]
        clear hown hl
        have hk1 : (k : Int) ≤ 400 := by omega
        go_wp2_with fail
        go_ret2
        exact ⟨rfl, hB⟩
end Go.Proofs.Ytlkjceolddccbaa
