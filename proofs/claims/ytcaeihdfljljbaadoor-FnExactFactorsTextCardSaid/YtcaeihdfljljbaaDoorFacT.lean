/-
  Walks: spec.l06Length; ValidFactors and FactorsLength of both.
-/
import Derived.Test.YtcaeihdfljljbaaDoorFacV
namespace Go.Proofs.YtcaeihdfljljbaaDoor
open Go.RowKit
open Wd
set_option linter.unusedVariables false

set_option maxRecDepth 100000 in
set_option maxHeartbeats 6400000 in
theorem l06Length_any (v : Value) (gs : List Rl) (w : World) (hf : FewR gs) (hr : Rules w v gs) (hw : WfF gs) :
    Calls Tryd.prog 65 #[v] w fun e w' => e = .returned (.tuple #[.int .i64 (facN gs), .bool (facOk gs)]) ∧ Below w.heap.size w w' := by
  have hn := hf.len
  have HFW := Lib.hid hf
  obtain ⟨A, c, rfl, hr⟩ := hr
  obtain ⟨n, hng⟩ : ∃ n, n = gs.length := ⟨_, rfl⟩
  rw [← hng] at hn ⊢
  have HN := Lib.hid hng
  have HR := Lib.hid hr
  have HW := Lib.hid hw
  by_cases hlong : 120 < n
  · obtain ⟨e1, e2⟩ := fac_no (facR_long (gs := gs) (by omega))
    rw [e1, e2]
    clear hr hw hng e1 e2
    go_enter Tryd.func65, Tryd.ntmps65
    go_wp2
    go_ret2
    exact ⟨rfl, Below.refl _ _⟩
  · obtain ⟨R, hR⟩ : ∃ R, R = facR gs := ⟨_, rfl⟩
    have hR0 : facF (gs.drop 0) 0 = R := by rw [hR, facR_short (by omega)]
    have HNO := Lib.hid (fun (h : R = none) => fac_no (gs := gs) (hR ▸ h))
    have HYES := Lib.hid (fun m (h : R = some m) => fac_yes (gs := gs) (n := m) (hR ▸ h))
    have HR0 := Lib.hid hR0
    generalize facOk gs = ok at *
    generalize facN gs = N at *
    clear hr hw hng hR hR0 hf
    go_enter Tryd.func65, Tryd.ntmps65
    go_wp2
    go_loopw [4, 5, 6] (fun nv iv' _ wr => FvRel gs w R nv iv' wr) (fun _ i _ _ => n - (intOf i).toNat)
    case atStart => exact ⟨0, 0, Nat.zero_le _, rfl, rfl, by omega, by omega, HR0.out, Below.refl _ _⟩
    case round =>
      obtain ⟨k, m, hk, rfl, rfl, hm0, hm1, hF, hB⟩ := hrel
      obtain ⟨wo, rfl⟩ : ∃ wo : World, wo = wr := ⟨_, rfl⟩
      by_cases hlt : k < n
      · have hkg : k < gs.length := by rw [← HN.out]; exact hlt
        rcases HR.out with h | ⟨g, rfl, hg, hc⟩
        · rw [h] at hkg; simp at hkg
        obtain ⟨a0, a1, a2⟩ := rules_cells hc hkg
        rw [← hB.cell (p := ⟨g, k * 3, none⟩) hg] at a0
        rw [← hB.cell (p := ⟨g, k * 3 + 1, none⟩) hg] at a1
        rw [← hB.cell (p := ⟨g, k * 3 + 2, none⟩) hg] at a2
        rw [facF_drop m hkg] at hF
        have hszL := HFW.out.at_ k hkg
        have hwl := (HW.out k hkg).1
        have hwB := (Below.refl wo.heap.size wo).alloc (Nat.le_refl _) (.cells #[.string gs[k].L, .int .i64 gs[k].l, .int .i64 gs[k].r] 74)
        have HB := Lib.hid (hB.trans (hwB.mono hB.size))
        have hbs := hB.size
        have t1 : (0 : Int) ≤ (k : Int) := by omega
        have t2 : (k : Int) < (n : Int) := by omega
        have HST := Lib.hid (fun q (hq : 0 ≤ q ∧ q ≤ 1000000000000000) (h : facF (gs.drop (k + 1)) q = R) => show FvRel gs w R (.int .i64 q) (.int .i64 ((k + 1 : Nat) : Int)) (wo.alloc (.cells #[.string gs[k].L, .int .i64 gs[k].l, .int .i64 gs[k].r] 74)) from ⟨k + 1, q, by omega, rfl, rfl, hq.1, hq.2, h, HB.out⟩)
        generalize facF (gs.drop (k + 1)) = FF at *
        unfold facFits facLn at hF
        generalize gs[k].L = L at *
        generalize gs[k].l = l at *
        generalize gs[k].r = r at *
        clear hc hk hB hwB
        by_cases h0 : L.size = 0
        · rw [if_pos h0, if_pos h0] at hF
          obtain rfl := empty_arr h0
          clear h0 hszL
          by_cases hbad : r < 1 ∨ l < 0 ∨ m < l ∨ (0 ≤ l ∧ m - l < r)
          · rw [if_neg (by simp; omega)] at hF
            obtain ⟨e1, e2⟩ := HNO.out hF.symm
            have HE := Lib.hid (And.intro e1 e2)
            clear hF e1 e2
            by_cases g1 : r < 1
            · go_wp2_with fail
              go_ret2
              exact ⟨by rw [HE.out.1, HE.out.2]; rfl, HB.out⟩
            · by_cases g2 : l < 0
              · go_wp2_with fail
                go_ret2
                exact ⟨by rw [HE.out.1, HE.out.2]; rfl, HB.out⟩
              · by_cases g3 : m < l
                · go_wp2_with fail
                  go_ret2
                  exact ⟨by rw [HE.out.1, HE.out.2]; rfl, HB.out⟩
                · have hwr : IntKind.i64.wrap (m - l) = m - l := IntWalk.i64_in _ (by omega)
                  have g4 : m - l < r := by omega
                  go_wp2_with fail
                  go_ret2
                  exact ⟨by rw [HE.out.1, HE.out.2]; rfl, HB.out⟩
          · rw [if_pos (by simp; omega)] at hF
            have g1 : ¬ r < 1 := by omega
            have g2 : ¬ l < 0 := by omega
            have g3 : ¬ m < l := by omega
            have g4 : ¬ m - l < r := by omega
            have hwr : IntKind.i64.wrap (m - l) = m - l := IntWalk.i64_in _ (by omega)
            have hws : IntKind.i64.wrap (m + r) = m + r := IntWalk.i64_in _ (by omega)
            clear hbad
            by_cases hbig : 1000000000000000 < m + r
            · rw [if_neg (by omega)] at hF
              obtain ⟨e1, e2⟩ := HNO.out hF.symm
              have HE := Lib.hid (And.intro e1 e2)
              clear hF e1 e2
              go_wp2_with fail
              go_ret2
              exact ⟨by rw [HE.out.1, HE.out.2]; rfl, HB.out⟩
            · rw [if_pos (by omega)] at hF
              have HS1 := Lib.hid (HST.out (m + r) (by omega) hF)
              clear hF
              go_wp2_with fail
              go_roundw
              all_goals first | exact HS1.out | ((repeat apply Exists.intro); exact ⟨HS1.out, rfl⟩) | (simp [intOf]; done) | (simp [intOf]; omega) | omega
        · rw [if_neg h0, if_neg h0] at hF
          have he := full_list h0
          have HL := Lib.hid (fun W => l05Letter_any L W hszL)
          clear h0 hszL
          cases hL : isL L
          · rw [hL] at HL hF
            rw [if_neg (by simp)] at hF
            obtain ⟨e1, e2⟩ := HNO.out hF.symm
            have HE := Lib.hid (And.intro e1 e2)
            clear hF e1 e2 hL
            go_wp2_with (go_at_call 90; refine (HL.out _).mono ?_; rintro e w' ⟨rfl, rfl⟩)
            go_ret2
            exact ⟨by rw [HE.out.1, HE.out.2]; rfl, HB.out⟩
          · rw [hL] at HL hF
            clear hL
            by_cases hl0 : l = 0
            · by_cases hr0 : r = 0
              · rw [if_pos (by simp [hl0, hr0])] at hF
                subst hl0 hr0
                have hws : IntKind.i64.wrap (m + 1) = m + 1 := IntWalk.i64_in _ (by omega)
                by_cases hbig : 1000000000000000 < m + 1
                · rw [if_neg (by omega)] at hF
                  obtain ⟨e1, e2⟩ := HNO.out hF.symm
                  have HE := Lib.hid (And.intro e1 e2)
                  clear hF e1 e2
                  go_wp2_with (go_at_call 90; refine (HL.out _).mono ?_; rintro e w' ⟨rfl, rfl⟩)
                  go_ret2
                  exact ⟨by rw [HE.out.1, HE.out.2]; rfl, HB.out⟩
                · rw [if_pos (by omega)] at hF
                  have HS1 := Lib.hid (HST.out (m + 1) (by omega) hF)
                  clear hF
                  go_wp2_with (go_at_call 90; refine (HL.out _).mono ?_; rintro e w' ⟨rfl, rfl⟩)
                  go_roundw
                  all_goals first | exact HS1.out | ((repeat apply Exists.intro); exact ⟨HS1.out, rfl⟩) | (simp [intOf]; done) | (simp [intOf]; omega) | omega
              · rw [if_neg (by simp [hr0])] at hF
                have hr1 : (r == 0) = false := by rw [beq_eq_false_iff_ne]; exact hr0
                subst hl0
                obtain ⟨e1, e2⟩ := HNO.out hF.symm
                have HE := Lib.hid (And.intro e1 e2)
                clear hF e1 e2
                go_wp2_with (go_at_call 90; refine (HL.out _).mono ?_; rintro e w' ⟨rfl, rfl⟩)
                go_ret2
                exact ⟨by rw [HE.out.1, HE.out.2]; rfl, HB.out⟩
            · rw [if_neg (by simp [hl0])] at hF
              have hl1 : (l == 0) = false := by rw [beq_eq_false_iff_ne]; exact hl0
              obtain ⟨e1, e2⟩ := HNO.out hF.symm
              have HE := Lib.hid (And.intro e1 e2)
              clear hF e1 e2
              go_wp2_with (go_at_call 90; refine (HL.out _).mono ?_; rintro e w' ⟨rfl, rfl⟩)
              go_ret2
              exact ⟨by rw [HE.out.1, HE.out.2]; rfl, HB.out⟩
      · have hkn : k = n := by have := HN.out; omega
        rw [facF_end m (by rw [← HN.out]; omega)] at hF
        obtain ⟨e1, e2⟩ := HYES.out m hF.symm
        have HE := Lib.hid (And.intro e1 e2)
        clear hF e1 e2
        go_wp2
        go_ret2
        exact ⟨by rw [HE.out.1, HE.out.2]; rfl, hB⟩

theorem specValidFactors (v : Value) (gs : List Rl) (w : World) (hf : FewR gs) (hr : Rules w v gs) (hw : WfF gs) :
    Calls Tryd.prog 33 #[v] w fun e w' => e = .returned (.bool (facOk gs)) ∧ Below w.heap.size w w' := by
  have HC := Lib.hid (l06Length_any v gs w hf hr hw)
  obtain ⟨A, c, rfl, _⟩ := hr
  go_enter Tryd.func33, Tryd.ntmps33
  go_wp2_with fail
  refine HC.out.mono ?_
  rintro e w1 ⟨rfl, hB⟩
  go_wp2_with fail
  go_ret
  exact ⟨rfl, hB⟩
theorem implValidFactors (v : Value) (gs : List Rl) (w : World) (hf : FewR gs) (hr : Rules w v gs) (hw : WfF gs) :
    Calls Tryd.prog 36 #[v] w fun e w' => e = .returned (.bool (facOk gs)) ∧ Below w.heap.size w w' := by
  have HC := Lib.hid (vfl_any v gs w hf hr hw)
  obtain ⟨A, c, rfl, _⟩ := hr
  go_enter Tryd.func36, Tryd.ntmps36
  go_wp2_with fail
  refine HC.out.mono ?_
  rintro e w1 ⟨rfl, hB⟩
  go_wp2_with fail
  go_ret
  exact ⟨rfl, hB⟩
end Go.Proofs.YtcaeihdfljljbaaDoor
