/-
  Walks: impl.IsLevel, spec.IsLevel.
-/
import Derived.Test.YtlkjceolddccbaaLvM
namespace Go.Proofs.Ytlkjceolddccbaa
open Go.RowKit
open Wd
set_option linter.unusedVariables false
theorem tl_lp (v : Value) (w : World) : (Instr.typeAssert (.iface 152 v) 89 86 true).run Try.prog w = .ok (.tuple #[.agg #[.string ⟨#[]⟩, .int .i64 0, .int .i64 0], .bool false]) w := by kernel_rfl
/-- between two rules -/
def LiRel (gs : List Rl) (w : World) (R : Bool) (B bm br bj bf M : Nat) (iv' : Value) (wr : World) : Prop :=
  ∃ k : Nat, k ≤ gs.length ∧ iv' = .int .i64 k ∧ (gs.drop k).all (lvAt gs) = R ∧ MInv B bm br bj bf M dep.joinV gs (depV gs) wr ∧ Below w.heap.size w wr
set_option maxRecDepth 100000 in
set_option maxHeartbeats 6400000 in
theorem implIsLevel (v : Value) (gs : List Rl) (w : World) (hf : FewR gs) (hr : Rules w v gs) :
    Calls Try.prog 25 #[.agg #[v]] w fun e w' => e = .returned (.tuple #[.bool (lvAns gs).1, .int .i64 (lvAns gs).2]) ∧ Below w.heap.size w w' := by
  have hr0 := hr
  obtain ⟨A, c, rfl, hrr⟩ := hr
  have hb := (Below.refl _ w).alloc (Nat.le_refl _) (.cells #[.slice A gs.length c] 30)
  have h1 := implValidGrammar (.slice A gs.length c) gs _ hf (hr0.kept hb)
  have HB := Lib.hid hb
  unfold lvAns
  cases hok : gOk gs
  · rw [hok] at h1
    have H1 := Lib.hid h1
    clear h1 hb hok hr0 hrr
    go_enter Try.func25, Try.ntmps25
    go_wp2_with fail
    refine H1.out.mono ?_
    rintro e w1 ⟨rfl, hB1⟩
    have HB1 := Lib.hid (HB.out.trans (hB1.mono (by simp)))
    clear hB1
    go_wp2_with fail
    go_ret2
    exact ⟨rfl, HB1.out⟩
  · rw [hok] at h1
    rw [if_pos rfl]
    have H1 := Lib.hid h1
    have HFT := Lib.hid (gOk_iff.1 hok).2.1
    have hn := gOk_len hok
    obtain ⟨R, hR⟩ : ∃ R, R = gs.all (lvAt gs) := ⟨_, rfl⟩
    rw [← hR]
    have HR0 : Hid ((gs.drop 0).all (lvAt gs) = R) := Lib.hid hR.symm
    obtain ⟨n, hng⟩ : ∃ n, n = gs.length := ⟨_, rfl⟩
    rw [← hng] at hn HB H1 hr0 ⊢
    have HN := Lib.hid hng
    have HR := Lib.hid hrr
    have HRU := Lib.hid hr0
    have HMA := Lib.hid (fun bm br bj bf M k (hk : k < gs.length) W (hI : MInv w.heap.size bm br bj bf M dep.joinV gs (depV gs) W) => dep.meas_any w.heap.size bm br bj bf M gs hf.len HFT.out (k + 1) k (by omega) hk W hI)
    have HF := Lib.hid hf
    clear h1 hb hok hr0 hrr hng hR hf
    go_enter Try.func25, Try.ntmps25
    go_wp2_with fail
    refine H1.out.mono ?_
    rintro e w1 ⟨rfl, hB1⟩
    have HB1 := Lib.hid (HB.out.trans (hB1.mono (by simp)))
    have hc1 : w1.cell? ⟨w.heap.size, 0, none⟩ = some (.slice A n c) := (hB1.cell (p := ⟨w.heap.size, 0, none⟩) (by simp)).trans (cell_new _ _ _)
    have HC1 := Lib.hid hc1
    have HMD := Lib.hid (dep.depthsOf_any w.heap.size (.slice A n c) gs w1 HF.out.len HB1.out.size (HRU.out.under HB1.out))
    clear hB1
    go_wp2_with fail
    refine HMD.out.mono ?_
    rintro e w2 ⟨bm, br, bj, bf, M, rfl, ⟨_, _, _, _, hM5⟩, hI, hB2⟩
    have HI := Lib.hid hI
    have HB2 := Lib.hid (HB1.out.trans (hB2.mono HB1.out.size))
    have hc2 := (hB2.cell (p := ⟨w.heap.size, 0, none⟩) (lt_of_cell HC1.out)).trans HC1.out
    have HM5 : Hid (w.heap.size ≤ M) := Lib.hid (Nat.le_trans HB1.out.size hM5)
    clear hI hB2 hc1 hM5
    go_wp2_with fail
    go_loopw [6, 7, 8, 9, 19] (fun _ _ _ _ i wr => LiRel gs w R w.heap.size bm br bj bf M i wr) (fun _ _ _ _ i _ => n - (intOf i).toNat)
    case atStart => exact ⟨0, Nat.zero_le _, rfl, HR0.out, HI.out, HB2.out⟩
    case round =>
      obtain ⟨k, hk, rfl, hall, hinv, hB⟩ := hrel
      obtain ⟨wo, rfl⟩ : ∃ wo : World, wo = wr := ⟨_, rfl⟩
      by_cases hlt : k < n
      · have hkg : k < gs.length := by rw [← HN.out]; exact hlt
        rcases HR.out with h | ⟨g, rfl, hg, hc⟩
        · rw [h] at hkg; simp at hkg
        obtain ⟨a0, a1, a2⟩ := rules_cells hc hkg
        rw [← hB.cell (p := ⟨g, k * 3, none⟩) hg] at a0
        rw [← hB.cell (p := ⟨g, k * 3 + 1, none⟩) hg] at a1
        rw [← hB.cell (p := ⟨g, k * 3 + 2, none⟩) hg] at a2
        rw [lv_drop hkg] at hall
        have hal := (Below.refl wo.heap.size wo).alloc (Nat.le_refl _) (.cells #[.string gs[k].L, .int .i64 gs[k].l, .int .i64 gs[k].r] 71)
        have HIA := Lib.hid (hinv.below hal)
        have HBA := Lib.hid (hB.trans (hal.mono hB.size))
        have hbs := hB.size
        have t1 : (0 : Int) ≤ (k : Int) := by omega
        have t2 : (k : Int) < (n : Int) := by omega
        clear hc hk hal hB hinv
        by_cases h0 : gs[k].L.size = 0
        · obtain ⟨a, b, ha, hb, hak, hbk, _⟩ := depV_next HFT.out k hkg h0
          have HK := Lib.hid (fun W => kind_pair gs[k] h0 W)
          have he := empty_arr h0
          have pa := depV_pos HFT.out a (by omega)
          have pb := depV_pos HFT.out b (by omega)
          have hlv : lvAt gs gs[k] = (decide (-1 ≤ depV gs a - depV gs b) && decide (depV gs a - depV gs b ≤ 1)) := by
            unfold lvAt
            rw [if_pos h0, ha, hb]
            rfl
          rw [hlv] at hall
          have HX := Lib.hid (show agg3 gs[k] = .agg #[.string ⟨#[]⟩, .int .i64 a, .int .i64 b] by unfold agg3; rw [he, ha, hb])
          rw [HX.out] at HK
          rw [he, ha, hb] at HIA HBA
          rw [ha] at a1
          rw [hb] at a2
          rw [he] at a0
          have HTP := ta_pp
          obtain ⟨za, hza⟩ : ∃ za, za = depV gs a := ⟨_, rfl⟩
          obtain ⟨zb, hzb⟩ : ∃ zb, zb = depV gs b := ⟨_, rfl⟩
          have HCA : Hid (∀ W, MInv w.heap.size bm br bj bf M dep.joinV gs (depV gs) W → Calls Try.prog 124 #[.int .i64 a, .pointer (some ⟨bm, 0, none⟩), .pointer (some ⟨br, 0, none⟩), .pointer (some ⟨bj, 0, none⟩), .pointer (some ⟨bf, 0, none⟩)] W fun e w' => e = .returned (.int .i64 za) ∧ MInv w.heap.size bm br bj bf M dep.joinV gs (depV gs) w' ∧ W.grownBy w' (some M)) := Lib.hid (fun W hI => (HMA.out bm br bj bf M a (by omega) W hI).mono fun e w' h => ⟨h.1.trans (ret_int hza.symm), h.2⟩)
          have HCB : Hid (∀ W, MInv w.heap.size bm br bj bf M dep.joinV gs (depV gs) W → Calls Try.prog 124 #[.int .i64 b, .pointer (some ⟨bm, 0, none⟩), .pointer (some ⟨br, 0, none⟩), .pointer (some ⟨bj, 0, none⟩), .pointer (some ⟨bf, 0, none⟩)] W fun e w' => e = .returned (.int .i64 zb) ∧ MInv w.heap.size bm br bj bf M dep.joinV gs (depV gs) w' ∧ W.grownBy w' (some M)) := Lib.hid (fun W hI => (HMA.out bm br bj bf M b (by omega) W hI).mono fun e w' h => ⟨h.1.trans (ret_int hzb.symm), h.2⟩)
          rw [← hza, ← hzb] at hall
          rw [← hza] at pa
          rw [← hzb] at pb
          clear hza hzb
          have hsub : IntKind.i64.wrap (za - zb) = za - zb := IntWalk.i64_in _ (by omega)
          have hAX := (Below.refl wo.heap.size wo).alloc (Nat.le_refl _) (.cells #[.string ⟨#[]⟩, .int .i64 a, .int .i64 b] 71)
          obtain ⟨q0, q1, q2⟩ := blk3_at wo ⟨⟨#[]⟩, a, b⟩ 71
          dsimp only at q0 q1 q2
          have HAL := Lib.hid hall
          clear ha hb he h0 hlv HX hall hAX
          go_wp2_with fail
          refine (HK.out _).mono ?_
          rintro e w3 ⟨rfl, hB3⟩
          have hB4 := hB3.alloc hB3.size (.cells #[.string ⟨#[]⟩, .int .i64 a, .int .i64 b] 86)
          have HI4 := Lib.hid (HIA.out.below hB4)
          have HB4 := Lib.hid (HBA.out.trans (hB4.mono (by simp; omega)))
          obtain ⟨c0, c1, c2⟩ := blk3_at w3 ⟨⟨#[]⟩, a, b⟩ 86
          dsimp only at c0 c1 c2
          obtain ⟨K, hKe⟩ : ∃ K, K = w3.heap.size := ⟨_, rfl⟩
          have hKM : K ≠ M := by
            obtain ⟨⟨z, hz⟩, _⟩ := HIA.out.slot hkg
            have := lt_of_cell hz
            have := hB3.size
            simp only at *
            omega
          have HKM := Lib.hid hKM
          rw [← hKe] at c0 c1 c2
          clear hB3 q0 q1 q2
          go_wp2_with fail
          rw [← hKe]
          generalize w3.alloc (.cells #[.string ⟨#[]⟩, .int .i64 a, .int .i64 b] 86) = w4 at *
          have HH := Lib.hid (fun w' (hg : w4.grownBy w' (some M)) => show w'.cell? ⟨K, 1, none⟩ = some (.int .i64 a) ∧ w'.cell? ⟨K, 2, none⟩ = some (.int .i64 b) from ⟨(World.cell?_of_block (a := ⟨K, 1, none⟩) (hg.block K (lt_of_cell c1) (fun e => HKM.out (by injection e)))).trans c1, (World.cell?_of_block (a := ⟨K, 2, none⟩) (hg.block K (lt_of_cell c2) (fun e => HKM.out (by injection e)))).trans c2⟩)
          clear hKe hKM c0 hB4
          go_region_held3 (fun w' => w'.cell? ⟨K, 1, none⟩ = some (.int .i64 a) ∧ w'.cell? ⟨K, 2, none⟩ = some (.int .i64 b))
            (first | go_keep | exact HSA.out | exact HSB.out)
            (first
              | (go_at_call_of 124 (Value.int .i64 a); refine (HCA.out _ (HI4.out.drewN _)).mono ?_; rintro e wA ⟨rfl, hIA, hgA⟩; have HGA := Lib.hid (grownBy_undrew hgA); have HIA2 := Lib.hid hIA; have HSA := Lib.hid (HH.out _ HGA.out); clear hIA hgA)
              | (go_at_call_of 124 (Value.int .i64 b); refine (HCB.out _ HIA2.out).mono ?_; rintro e wB ⟨rfl, hIB, hgB⟩; have HGB := Lib.hid (gbTrans HGA.out hgB); have HIB := Lib.hid hIB; have HSB := Lib.hid (HH.out _ HGB.out); clear hIB hgB))
          have HBB := Lib.hid (HB4.out.grown HGB.out HB4.out.size (fun q hq => by injection hq with hq; have := HM5.out; omega))
          clear c1 c2
          by_cases g1 : za - zb < -1
          · have HE : Hid (R = false) := Lib.hid (by rw [← HAL.out]; simp; omega)
            go_wp2_with fail
            go_ret2
            exact ⟨by rw [HE.out]; rfl, HBB.out⟩
          · by_cases g2 : 1 < za - zb
            · have HE : Hid (R = false) := Lib.hid (by rw [← HAL.out]; simp; omega)
              go_wp2_with fail
              go_ret2
              exact ⟨by rw [HE.out]; rfl, HBB.out⟩
            · have hb1 : (decide (-1 ≤ za - zb) && decide (za - zb ≤ 1)) = true := by simp; omega
              have HS1 : Hid (LiRel gs w R w.heap.size bm br bj bf M (.int .i64 ((k + 1 : Nat) : Int)) wB) := Lib.hid ⟨k + 1, by omega, rfl, by rw [← HAL.out, hb1]; rfl, HIB.out, HBB.out⟩
              clear hb1
              go_wp2_with fail
              go_roundw
              all_goals first | exact HS1.out | ((repeat apply Exists.intro); exact ⟨HS1.out, rfl⟩) | (simp [intOf]; done) | (simp [intOf]; omega) | omega
        · have HK := Lib.hid (fun W => kind_letter gs[k] h0 W)
          have HTL := tl_lp
          have hlv : lvAt gs gs[k] = true := by unfold lvAt; rw [if_neg h0]
          rw [hlv, Bool.true_and] at hall
          have HST : Hid (∀ W, Below wo.heap.size (wo.alloc (.cells #[.string gs[k].L, .int .i64 gs[k].l, .int .i64 gs[k].r] 71)) W → MInv w.heap.size bm br bj bf M dep.joinV gs (depV gs) W → LiRel gs w R w.heap.size bm br bj bf M (.int .i64 ((k + 1 : Nat) : Int)) W) := Lib.hid (fun W h1 h2 => ⟨k + 1, by omega, rfl, hall, h2, HBA.out.trans (h1.mono hbs)⟩)
          obtain ⟨q0, q1, q2⟩ := blk3_at wo gs[k] 71
          generalize gs[k] = x at *
          clear hlv hall h0
          go_wp2_with fail
          refine (HK.out _).mono ?_
          rintro e w3 ⟨rfl, hB3⟩
          have hB4 := hB3.alloc hB3.size (.cells #[.string ⟨#[]⟩, .int .i64 0, .int .i64 0] 86)
          have HS1 := Lib.hid (HST.out _ (hB4.mono (by simp)) (HIA.out.below hB4))
          clear hB3 hB4
          go_wp2_with fail
          go_roundw
          all_goals first | exact HS1.out | ((repeat apply Exists.intro); exact ⟨HS1.out, rfl⟩) | (simp [intOf]; done) | (simp [intOf]; omega) | omega
      · obtain rfl : k = n := by have := HN.out; omega
        rw [lv_end (by rw [← HN.out]; exact Nat.le_refl _)] at hall
        have HALL := Lib.hid hall
        clear hall hinv
        go_wp2_with fail
        go_ret2
        exact ⟨by rw [← HALL.out]; rfl, hB⟩
end Go.Proofs.Ytlkjceolddccbaa
