/-
  Walk: spec.IsLevel.
-/
import Derived.Test.YtlkjceolddccbaaLvM
namespace Go.Proofs.Ytlkjceolddccbaa
open Go.RowKit
open Wd
set_option linter.unusedVariables false
/-- between two rules of the model -/
def LsRel2 (gs : List Rl) (R : Bool) (w2 : World) (iv' : Value) (wr : World) : Prop :=
  ∃ k : Nat, k ≤ gs.length ∧ iv' = .int .i64 k ∧ (gs.drop k).all (lvAt gs) = R ∧ Below w2.heap.size w2 wr
set_option maxRecDepth 100000 in
set_option maxHeartbeats 6400000 in
theorem specIsLevel (v : Value) (gs : List Rl) (w : World) (hf : FewR gs) (hr : Rules w v gs) :
    Calls Try.prog 24 #[.agg #[v]] w fun e w' => e = .returned (.tuple #[.bool (lvAns gs).1, .int .i64 (lvAns gs).2]) ∧ Below w.heap.size w w' := by
  have hr0 := hr
  have hg := rules_gpD hr 30
  have h1 := l02Ok_any w.heap.size gs _ hf hg
  obtain ⟨A, c, rfl, hrr⟩ := hr
  have hb := (Below.refl _ w).alloc (Nat.le_refl _) (.cells #[.slice A gs.length c] 30)
  have HB := Lib.hid hb
  unfold lvAns
  cases hok : gOk gs
  · rw [hok] at h1
    have H1 := Lib.hid h1
    clear h1 hb hok hr0 hrr hg
    go_enter Try.func24, Try.ntmps24
    go_wp2_with fail
    refine H1.out.mono ?_
    rintro e w1 ⟨rfl, hB1⟩
    have HB1 := Lib.hid (HB.out.trans (hB1.mono (by simp)))
    clear hB1
    go_wp2_with fail
    go_ret2
    exact ⟨rfl, HB1.out⟩
  · rw [hok] at h1
    rw [if_pos rfl]
    have H1 := Lib.hid h1
    have HFT := Lib.hid (gOk_iff.1 hok).2.1
    have HDL := Lib.hid (fun v W (hW : Rules W v gs) => l06Depths_any v gs W hok hW)
    have hn := gOk_len hok
    obtain ⟨R, hR⟩ : ∃ R, R = gs.all (lvAt gs) := ⟨_, rfl⟩
    rw [← hR]
    have HR0 : Hid ((gs.drop 0).all (lvAt gs) = R) := Lib.hid hR.symm
    obtain ⟨n, hng⟩ : ∃ n, n = gs.length := ⟨_, rfl⟩
    rw [← hng] at hn HB H1 hr0 ⊢
    have HN := Lib.hid hng
    have HR := Lib.hid hrr
    have HRU := Lib.hid hr0
    clear h1 hb hok hr0 hrr hng hR hf hg
    go_enter Try.func24, Try.ntmps24
    go_wp2_with fail
    refine H1.out.mono ?_
    rintro e w1 ⟨rfl, hB1⟩
    have HB1 := Lib.hid (HB.out.trans (hB1.mono (by simp)))
    have hc1 : w1.cell? ⟨w.heap.size, 0, none⟩ = some (.slice A n c) := (hB1.cell (p := ⟨w.heap.size, 0, none⟩) (by simp)).trans (cell_new _ _ _)
    have HC1 := Lib.hid hc1
    clear hB1
    go_wp2_with fail
    refine (HDL.out _ _ (HRU.out.kept HB1.out)).mono ?_
    rintro e w2 ⟨y, rfl, ho, hB2⟩
    obtain ⟨A2, c2, rfl⟩ := own_slice ho
    have HB2 := Lib.hid (HB1.out.trans (hB2.mono HB1.out.size))
    have HC2 := Lib.hid ((hB2.cell (p := ⟨w.heap.size, 0, none⟩) (lt_of_cell HC1.out)).trans HC1.out)
    have HO2 := Lib.hid ho
    clear hB2 hc1 ho
    rw [← HN.out]
    go_wp2_with fail
    go_loopw [5, 6] (fun i _ wr => LsRel2 gs R w2 i wr) (fun i _ _ => n - (intOf i).toNat)
    case atStart => exact ⟨0, Nat.zero_le _, rfl, HR0.out, Below.refl _ _⟩
    case round =>
      obtain ⟨k, hk, rfl, hall, hB⟩ := hrel
      obtain ⟨wo, rfl⟩ : ∃ wo : World, wo = wr := ⟨_, rfl⟩
      have hcg := (hB.cell (p := ⟨w.heap.size, 0, none⟩) (lt_of_cell HC2.out)).trans HC2.out
      by_cases hlt : k < n
      · have hkg : k < gs.length := by rw [← HN.out]; exact hlt
        rcases HR.out with h | ⟨g, rfl, hg, hc⟩
        · rw [h] at hkg; simp at hkg
        obtain ⟨a0, a1, a2⟩ := rules_cells hc hkg
        have hBw := HB2.out.trans (hB.mono HB2.out.size)
        rw [← hBw.cell (p := ⟨g, k * 3, none⟩) hg] at a0
        rw [← hBw.cell (p := ⟨g, k * 3 + 1, none⟩) hg] at a1
        rw [← hBw.cell (p := ⟨g, k * 3 + 2, none⟩) hg] at a2
        rw [lv_drop hkg] at hall
        have hbs := hBw.size
        have t1 : (0 : Int) ≤ (k : Int) := by omega
        have t2 : (k : Int) < (n : Int) := by omega
        have hal := (Below.refl wo.heap.size wo).alloc (Nat.le_refl _) (.cells #[.string gs[k].L, .int .i64 gs[k].l, .int .i64 gs[k].r] 71)
        have HAB := Lib.hid (hB.trans (hal.mono hB.size))
        have HBA := Lib.hid (hBw.trans (hal.mono hbs))
        have HST : Hid (∀ m, (gs.drop (k + 1)).all (lvAt gs) = R → LsRel2 gs R w2 (.int .i64 ((k + 1 : Nat) : Int)) ((wo.alloc (.cells #[.string gs[k].L, .int .i64 gs[k].l, .int .i64 gs[k].r] 71)).drewN m)) := Lib.hid (fun m h => ⟨k + 1, by omega, rfl, h, below_drewN HAB.out m⟩)
        clear hc hk hBw
        by_cases h0 : gs[k].L.size = 0
        · obtain ⟨a, b, ha, hb, hak, hbk, _⟩ := depV_next HFT.out k hkg h0
          have he := empty_arr h0
          have pa := depV_pos HFT.out a (by omega)
          have pb := depV_pos HFT.out b (by omega)
          have hlv : lvAt gs gs[k] = (decide (-1 ≤ depV gs a - depV gs b) && decide (depV gs a - depV gs b ≤ 1)) := by
            unfold lvAt
            rw [if_pos h0, ha, hb]
            rfl
          rw [hlv] at hall
          rcases HO2.out.2 with ⟨_, hk0⟩ | ⟨g', c', cur, hA2, _⟩
          · have := HN.out; omega
          injection hA2 with hA2 _ hc2
          subst hA2 hc2
          have o1 : (wo.alloc (.cells #[.string gs[k].L, .int .i64 gs[k].l, .int .i64 gs[k].r] 71)).cell? ⟨g', a, none⟩ = some (.int .i64 (depV gs a)) := by
            have hlt2 := (HO2.out.lt g' rfl).2
            rw [HAB.out.cell (p := ⟨g', a, none⟩) hlt2, HO2.out.cellAt a (by omega)]; simp only [iv, List.getElem?_map, depL_at (show a < gs.length by omega) (Nat.le_refl _), Option.map_some]
          have o2 : (wo.alloc (.cells #[.string gs[k].L, .int .i64 gs[k].l, .int .i64 gs[k].r] 71)).cell? ⟨g', b, none⟩ = some (.int .i64 (depV gs b)) := by
            have hlt2 := (HO2.out.lt g' rfl).2
            rw [HAB.out.cell (p := ⟨g', b, none⟩) hlt2, HO2.out.cellAt b (by omega)]; simp only [iv, List.getElem?_map, depL_at (show b < gs.length by omega) (Nat.le_refl _), Option.map_some]
          obtain ⟨q0, q1, q2⟩ := blk3_at wo gs[k] 71
          generalize depV gs a = za at *
          generalize depV gs b = zb at *
          rw [he, ha, hb] at o1 o2 q0 q1 q2 HBA HST
          rw [he] at a0
          rw [ha] at a1
          rw [hb] at a2
          have hsub : IntKind.i64.wrap (za - zb) = za - zb := IntWalk.i64_in _ (by omega)
          have HIN := Lib.hid (fun W => in_any (za - zb) (-1) 1 W)
          have s4 : (0 : Int) ≤ (a : Int) := by omega
          have s5 : (0 : Int) ≤ (b : Int) := by omega
          have s8 : (a : Int) < (n : Int) := by omega
          have s9 : (b : Int) < (n : Int) := by omega
          generalize hq : (decide (-1 ≤ za - zb) && decide (za - zb ≤ 1)) = q at *
          clear ha hb he h0 hlv HAB hal hq
          cases q
          · have HE : Hid (R = false) := Lib.hid (by rw [← hall]; rfl)
            clear hall
            go_wp2_with fail
            go_quiet ((go_at_call 72; exact Calls.quiet_of_same ((HIN.out _).mono fun e w' h => ⟨h.1, h.2.symm⟩)))
            go_wp2_with fail
            go_ret2
            exact ⟨by rw [HE.out]; rfl, below_drewN HBA.out _⟩
          · rw [Bool.true_and] at hall
            have HAL := Lib.hid hall
            clear hall
            go_wp2_with fail
            go_quiet ((go_at_call 72; exact Calls.quiet_of_same ((HIN.out _).mono fun e w' h => ⟨h.1, h.2.symm⟩)))
            go_wp2_with fail
            go_roundw
            all_goals first | exact HST.out _ HAL.out | ((repeat apply Exists.intro); exact ⟨HST.out _ HAL.out, rfl⟩) | (simp [intOf]; done) | (simp [intOf]; omega) | omega
        · have hlv : lvAt gs gs[k] = true := by unfold lvAt; rw [if_neg h0]
          rw [hlv, Bool.true_and] at hall
          have he := full_list h0
          obtain ⟨q0, q1, q2⟩ := blk3_at wo gs[k] 71
          have HAL := Lib.hid hall
          generalize gs[k] = x at *
          clear hlv hall h0 hal HAB
          go_wp2_with fail
          go_quiet (fail)
          go_wp2_with fail
          go_roundw
          all_goals first | exact HST.out _ HAL.out | ((repeat apply Exists.intro); exact ⟨HST.out _ HAL.out, rfl⟩) | (simp [intOf]; done) | (simp [intOf]; omega) | omega
      · obtain rfl : k = n := by have := HN.out; omega
        rw [lv_end (by rw [← HN.out]; exact Nat.le_refl _)] at hall
        have HALL := Lib.hid hall
        have HBB := Lib.hid (HB2.out.trans (hB.mono HB2.out.size))
        clear hall hB
        go_wp2_with fail
        go_ret2
        exact ⟨by rw [← HALL.out]; rfl, HBB.out⟩
end Go.Proofs.Ytlkjceolddccbaa
