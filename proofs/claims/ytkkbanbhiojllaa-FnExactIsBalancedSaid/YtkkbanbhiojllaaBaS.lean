/-
  Walk: spec.IsBalanced.
-/
import Derived.Test.YtkkbanbhiojllaaClA
import Derived.Test.YtkkbanbhiojllaaOwnK
import Derived.Test.YtkkbanbhiojllaaTaX
import Derived.Laws.MakeOwn
namespace Go.Proofs.Ytkkbanbhiojllaa
open Go.RowKit
open Wd
set_option linter.unusedVariables false
namespace Wd
/-- the weights of a pair of letters -/
def balW (a b : Nat) : List Int := ((List.replicate 4 (0 : Int)).set a 1).set b (-1)
theorem balW_ok {a b : Nat} (ha : a < 4) (hb : b < 4) : wOkB (balW a b) = true := by
  obtain rfl | rfl | rfl | rfl : a = 0 ∨ a = 1 ∨ a = 2 ∨ a = 3 := by omega
  all_goals
    obtain rfl | rfl | rfl | rfl : b = 0 ∨ b = 1 ∨ b = 2 ∨ b = 3 := by omega
    all_goals rfl
/-- is the word balanced? -/
def balG (gs : List Rl) (s t : ByteArray) : Bool × Int :=
  if (gOk gs && isL s && isL t) = true then (if s = t then (false, 2) else (decide (0 ≤ (clWh (balW (lNo s) (lNo t)) gs).getD 1 0) && decide ((clWh (balW (lNo s) (lNo t)) gs).getD 0 0 = 0), 0)) else (false, 1)
end Wd
set_option maxRecDepth 100000 in
set_option maxHeartbeats 3200000 in
theorem specIsBalanced (v : Value) (gs : List Rl) (s t : ByteArray) (w : World) (hf : FewR gs) (hr : Rules w v gs) (hs : s.size ≤ maxLen) (ht : t.size ≤ maxLen) :
    Calls Try.prog 21 #[.agg #[v], .string s, .string t] w fun e w' => e = .returned (.tuple #[.bool (balG gs s t).1, .int .i64 (balG gs s t).2]) ∧ Below w.heap.size w w' := by
  obtain ⟨j0, hj, hy0, hy1, hy2⟩ := info_parts Try.info_i64
  have hg := rules_gpT hr 33
  have h1 := l02Ok_any w.heap.size gs _ hf hg
  have HG := Lib.hid hg
  have hb := (Below.refl _ w).alloc (Nat.le_refl _) (.cells #[v] 33)
  have HLS := Lib.hid (fun W => l05Letter_any s W hs)
  have HLT := Lib.hid (fun W => l05Letter_any t W ht)
  obtain ⟨A, c, rfl, _⟩ := hr
  have HB := Lib.hid hb
  unfold balG
  cases hok : gOk gs
  · rw [hok] at h1
    rw [if_neg (by simp)]
    have H1 := Lib.hid h1
    clear h1 hok hg hb
    go_enter Try.func21, Try.ntmps21
    go_wp2_with fail
    refine H1.out.mono ?_
    rintro e w1 ⟨rfl, hB1⟩
    have HB1 := Lib.hid (HB.out.trans (hB1.mono (by simp)))
    clear hB1
    go_wp2_with fail
    go_ret2
    exact ⟨rfl, HB1.out⟩
  · rw [hok] at h1
    have H1 := Lib.hid h1
    have HOK := Lib.hid hok
    cases hl : isL s
    · rw [hl] at HLS
      rw [if_neg (by simp)]
      clear h1 hok hg hl hb
      go_enter Try.func21, Try.ntmps21
      go_wp2_with fail
      refine H1.out.mono ?_
      rintro e w1 ⟨rfl, hB1⟩
      have HB1 := Lib.hid (HB.out.trans (hB1.mono (by simp)))
      clear hB1
      go_wp2_with fail
      refine (HLS.out _).mono ?_
      rintro e w2 ⟨rfl, rfl⟩
      go_wp2_with fail
      go_ret2
      exact ⟨rfl, HB1.out⟩
    · rw [hl] at HLS
      cases hl2 : isL t
      · rw [hl2] at HLT
        rw [if_neg (by simp)]
        clear h1 hok hg hl hl2 hb
        go_enter Try.func21, Try.ntmps21
        go_wp2_with fail
        refine H1.out.mono ?_
        rintro e w1 ⟨rfl, hB1⟩
        have HB1 := Lib.hid (HB.out.trans (hB1.mono (by simp)))
        clear hB1
        go_wp2_with fail
        refine (HLS.out _).mono ?_
        rintro e w2 ⟨rfl, rfl⟩
        go_wp2_with fail
        refine (HLT.out _).mono ?_
        rintro e w2 ⟨rfl, rfl⟩
        go_wp2_with fail
        go_ret2
        exact ⟨rfl, HB1.out⟩
      · rw [hl2] at HLT
        rw [if_pos (by rfl)]
        by_cases hst : s = t
        · rw [if_pos hst]
          subst hst
          clear h1 hok hg hl hl2 hb
          go_enter Try.func21, Try.ntmps21
          go_wp2_with fail
          refine H1.out.mono ?_
          rintro e w1 ⟨rfl, hB1⟩
          have HB1 := Lib.hid (HB.out.trans (hB1.mono (by simp)))
          clear hB1
          go_wp2_with fail
          refine (HLS.out _).mono ?_
          rintro e w2 ⟨rfl, rfl⟩
          go_wp2_with fail
          refine (HLS.out _).mono ?_
          rintro e w2 ⟨rfl, rfl⟩
          go_wp2_with fail
          go_ret2
          exact ⟨rfl, HB1.out⟩
        · rw [if_neg hst]
          obtain ⟨cs, rfl, hs1, hs2, hsn⟩ := isL_byte hl
          obtain ⟨ct, rfl, ht1, ht2, htn⟩ := isL_byte hl2
          have hcc : (cs == ct) = false := by rw [beq_eq_false_iff_ne]; intro e; exact hst (by rw [e])
          have HLA := Lib.hid (fun W => sLetter_any cs hs1 hs2 W)
          have HLB := Lib.hid (fun W => sLetter_any ct ht1 ht2 W)
          have ha4 := lNo_lt hl
          have hb4 := lNo_lt hl2
          rw [hsn] at ha4 ⊢
          rw [htn] at hb4 ⊢
          generalize cs.toNat - 97 = a at *
          generalize ct.toNat - 97 = b at *
          have hwo := balW_ok ha4 hb4
          have HCL := Lib.hid (fun wv W (hg : GP W w.heap.size gs) (hw : IW W wv (balW a b)) => l05Climb_any w.heap.size wv (balW a b) gs W hok (wOkB_ok hwo) hg hw)
          obtain ⟨ws, hws⟩ : ∃ ws, ws = balW a b := ⟨_, rfl⟩
          have HWS := Lib.hid hws
          have hq : clCs (clWh ws gs) = #[.int .i64 ((clWh ws gs).getD 0 0), .int .i64 ((clWh ws gs).getD 1 0), .int .i64 ((clWh ws gs).getD 2 0)] := rfl
          rw [← hws] at HCL ⊢
          rw [hq] at HCL
          generalize (clWh ws gs).getD 0 0 = x0 at *
          generalize (clWh ws gs).getD 1 0 = x1 at *
          generalize (clWh ws gs).getD 2 0 = x2 at *
          have a0 : (0 : Int) ≤ (a : Int) := by omega
          have a1 : (a : Int) < 4 := by omega
          have b0 : (0 : Int) ≤ (b : Int) := by omega
          have b1 : (b : Int) < 4 := by omega
          clear h1 hok hg hl hl2 hb hsn htn hs1 hs2 ht1 ht2 hwo hws hq hst
          go_enter Try.func21, Try.ntmps21
          go_wp2_with fail
          refine H1.out.mono ?_
          rintro e w1 ⟨rfl, hB1⟩
          have HB1 := Lib.hid (HB.out.trans (hB1.mono (by simp)))
          have HG1 := Lib.hid (HG.out.kept hB1)
          clear hB1
          go_wp2_with fail
          refine (HLS.out _).mono ?_
          rintro e w2 ⟨rfl, rfl⟩
          go_wp2_with fail
          refine (HLT.out _).mono ?_
          rintro e w3 ⟨rfl, rfl⟩
          go_wp2_with (refine wpList_make_full _ rfl _ _ 25 rfl w1.heap.size 2 j0 (.int .i64 0) 1 Try.underlying25 hj hy0 hy1 .i64 .i64 _ _ 4 rfl rfl rfl rfl (by rw [hy2]; omega) (by unfold maxLen; omega) (Nat.le_refl _) ?_)
          intro w4 hown hgr
          have hB4 := below_of_grown hgr
          rw [made_i64] at hown
          obtain ⟨T, hT⟩ : ∃ T, T = w1.heap.size := ⟨_, rfl⟩
          have HT := Lib.hid hT
          rw [← hT] at hown ⊢
          have c4 : w4.cell? ⟨T, a, none⟩ = some (.int .i64 0) := by
            rw [hown.cellAt a (by omega)]
            obtain rfl | rfl | rfl | rfl : a = 0 ∨ a = 1 ∨ a = 2 ∨ a = 3 := by omega
            all_goals rfl
          have f4 : w4.frozen? ⟨T, a, none⟩ = false := hown.frozenAt _
          have HB4 := Lib.hid hB4
          have HO4 := Lib.hid hown
          clear hB4 hown hgr hT
          go_wp2_with fail
          refine (HLA.out _).mono ?_
          rintro e w5 ⟨rfl, rfl⟩
          go_wp2_with fail
          refine (HLB.out _).mono ?_
          rintro e w6 ⟨rfl, hw6⟩
          have HO6 := Lib.hid (u_store HO4.out a 1)
          have HB6 := Lib.hid (HB4.out.setCell (p := ⟨T, a, none⟩) (by have := HT.out; simp only; omega) (.int .i64 1))
          rw [← hw6] at HO6 HB6
          clear hw6 c4 f4
          have c6 : w6.cell? ⟨T, b, none⟩ = some (.int .i64 (((List.replicate 4 (0 : Int)).set a 1).getD b 0)) := by
            rw [HO6.out.cellAt b (by omega)]; exact iv_at (by simp; omega)
          have f6 : w6.frozen? ⟨T, b, none⟩ = false := HO6.out.frozenAt _
          generalize ((List.replicate 4 (0 : Int)).set a 1).getD b 0 = y6 at *
          have HO7 : Hid (OwnsI (w6.setCell ⟨T, b, none⟩ (.int .i64 (-1))) w1.heap.size (.slice (some ⟨T, 0, none⟩) 4 4) ws) := Lib.hid (by
            unfold OwnsI
            rw [HWS.out, show (balW a b).length = 4 from by simp [balW]]
            have := u_store HO6.out b (-1)
            rw [HT.out] at this ⊢
            exact this)
          have HB7 := Lib.hid (HB6.out.setCell (p := ⟨T, b, none⟩) (by have := HT.out; simp only; omega) (.int .i64 (-1)))
          go_wp2_with fail
          refine (HCL.out _ _ (HG1.out.kept HB7.out) (IW.of_own HO7.out)).mono ?_
          rintro e w8 ⟨rfl, hB8⟩
          have HB8 := Lib.hid (HB1.out.trans ((HB7.out.trans (hB8.mono HB7.out.size)).mono (HB1.out.size)))
          have HE : Hid (∀ o, Below w.heap.size w (w8.alloc o)) := Lib.hid (fun o => HB8.out.alloc HB8.out.size o)
          clear hB8 c6 f6
          by_cases hlo : 0 ≤ x1
          · have hlod : decide (0 ≤ x1) = true := decide_eq_true hlo
            go_wp2_with fail
            go_ret2
            exact ⟨by rw [hlod]; by_cases h : x0 = 0 <;> simp [h], HE.out _⟩
          · have hlod : decide (0 ≤ x1) = false := decide_eq_false hlo
            go_wp2_with fail
            go_ret2
            exact ⟨by rw [hlod]; rfl, HE.out _⟩
end Go.Proofs.Ytkkbanbhiojllaa
