/-
  The walk of FnPlaces.
-/
import Derived.Test.YtdfdeppfhadopaaHas
import Derived.Test.YtdfdeppfhadopaaPlaces
namespace Go.Proofs.Ytdfdeppfhadopaa.fnPlaces
open Go.RowKit Wd
set_option linter.unusedVariables false

theorem few_ok {l : List UInt8} (h : Few l) (hs : l.length ≤ 2000) : okL l = true := by
  simp only [okL, Bool.and_eq_true, decide_eq_true_eq, List.all_eq_true]
  refine ⟨hs, fun c hc => ?_⟩
  obtain ⟨h1, h2⟩ := h c hc
  simp only [lt, Bool.and_eq_true, decide_eq_true_eq]
  exact ⟨h1, Nat.le_trans h2 (by decide)⟩
theorem fc_facts (v : ByteArray) (r : Nat) (hr : r ≤ v.size) : 1 ≤ cnt v r (v.size - r + 1) ∧ cnt v r (v.size - r + 1) ≤ v.size - r + 1 ∧ (r = v.size → cnt v r (v.size - r + 1) = 1) ∧ (r < v.size → cnt v r (v.size - r + 1) ≤ cnt v (r + 1) (v.size - (r + 1) + 1) + 1) ∧ cnt v (r + 1) (v.size - (r + 1) + 1) ≤ v.size + 1 := by
  have h1 := cnt_mono v r (k := 1) (m := v.size - r + 1) (by omega)
  rw [cnt_one] at h1
  refine ⟨h1, cnt_le _ _ _, fun h => by rw [h, Nat.sub_self]; exact cnt_one _ _, fun h => ?_, ?_⟩
  · rw [show v.size - (r + 1) + 1 = v.size - r from by omega]
    exact Nat.le_trans (cnt_step v r _) (Nat.succ_le_succ (cnt_pre v r _))
  · have := cnt_le v (r + 1) (v.size - (r + 1) + 1)
    omega
theorem in_found {u v : ByteArray} {j : Nat} (h : j < v.size) : decide ((j : Int) ∈ found u.data.toList v.data.toList v.size) = begins u.data.toList v.data.toList j := by
  rw [Bool.eq_iff_iff, decide_eq_true_iff, found_mem]
  exact ⟨fun h' => h'.2, fun h' => ⟨h, h'⟩⟩

set_option maxRecDepth 100000 in
set_option maxHeartbeats 1600000 in
theorem walk (a0 : Option Addr) (len0 cap0 : Nat) (z0 : List Int) (a1 : Option Addr) (len1 cap1 : Nat) (z1 : List Int) (w : World) (w0 : IsRow .u8 w a0 len0 cap0 z0) (w1 : IsRow .u8 w a1 len1 cap1 z1) :
    Calls Try.prog 3 #[.slice a0 len0 cap0, .slice a1 len1 cap1] w fun e w' => e = .returned (.bool true) ∧ Below w.heap.size w w' := by
  have b0 := bytes_of w0
  have b1 := bytes_of w1
  clear w0 w1
  by_cases hlong : ¬ (len0 ≤ 3000 ∧ len1 ≤ 3000)
  · have H1 := Lib.hid (a2Long_out a0 a1 len0 len1 cap0 cap1 w hlong)
    clear hlong b0 b1
    go_enter Try.func3, Try.ntmps3
    go_wp2_with fail
    refine H1.out.mono ?_; rintro e w' ⟨rfl, rfl⟩
    go_wp2
    go_ret
    exact ⟨rfl, Below.refl _ _⟩
  obtain ⟨hl0, hl1⟩ := Classical.not_not.1 hlong
  clear hlong
  have H1 := Lib.hid (a2Long_in a0 a1 len0 len1 cap0 cap1 w hl0 hl1)
  go_enter Try.func3, Try.ntmps3
  go_wp2_with fail
  refine H1.out.mono ?_; rintro e w' ⟨rfl, hw⟩
  have hw := hw.symm
  subst hw
  have H2 := Lib.hid (a2Word a0 len0 cap0 w (by omega) b0 20 (by decide) (by decide))
  go_wp2_with fail
  refine H2.out.mono ?_; rintro e w1 ⟨v, rfl, hv1, hv2, hB1⟩
  have H3 := Lib.hid (a2Word a1 len1 cap1 w1 (by omega) (b1.kept hB1) 3 (by decide) (by decide))
  go_wp2_with fail
  refine H3.out.mono ?_; rintro e w2 ⟨u, rfl, hu1, hu2, hB2⟩
  have hB02 := hB1.trans (hB2.mono hB1.size)
  have b12 := b1.kept hB02
  clear hB1 hB2 b0 b1 H1 H2 H3
  have hv3 : v.size ≤ 20 := by omega
  have hu3 : u.size ≤ 3 := by omega
  have hvk := few_ok hv2 (by simp; omega)
  have huk := few_ok hu2 (by simp; omega)
  clear hv1 hu1 hv2 hu2
  by_cases hu0 : u.size = 0
  · have H4 := Lib.hid (implOcc u v [] 4 w2 (by unfold maxLen; omega) (by unfold maxLen; omega) (.inr (.inr (.inl ⟨huk, hvk, hu0, rfl, rfl⟩))))
    have hue : u = ⟨#[]⟩ := empty_of_size hu0
    subst hue
    clear hvk huk hu0
    go_wp2_with fail
    refine H4.out.mono ?_; rintro e w3 ⟨x, rfl, _, hB3⟩
    go_wp2
    go_ret
    exact ⟨rfl, hB02.trans (hB3.mono hB02.size)⟩
  have H4 := Lib.hid (implOcc u v _ 0 w2 (by unfold maxLen; omega) (by unfold maxLen; omega) (.inr (.inr (.inr ⟨huk, hvk, by omega, rfl, rfl⟩))))
  have hu4 : ((u.size : Int) == 0) = false := by rw [beq_eq_false_iff_ne]; omega
  have HF1 := Lib.hid (fun w' L hL => implFactor_ok v L w' (by omega) hvk hL)
  clear hvk huk
  go_wp2_with fail
  refine H4.out.mono ?_; rintro e w3 ⟨x, rfl, ho, hB3⟩
  have hB03 := hB02.trans (hB3.mono hB02.size)
  have b13 := b12.kept hB3
  obtain ⟨xa, xl, xc, rfl, hxl⟩ : ∃ xa xl xc, x = .slice xa xl xc ∧ xl = (found u.data.toList v.data.toList v.size).length := by
    rcases ho.shape with ⟨rfl, e⟩ | ⟨g, cp, rfl, _⟩
    · exact ⟨_, _, _, rfl, by rw [e]; rfl⟩
    · exact ⟨_, _, _, rfl, rfl⟩
  have HX := Lib.hid hxl
  have HO := Lib.hid ho
  have HB := Lib.hid hB03
  have HB13 := Lib.hid b13
  clear hxl ho hB03 b13 b12 hB02 hB3 H4
  have hlen : (found u.data.toList v.data.toList v.size).length ≤ 1000000 := Nat.le_trans (found_len _ _ _) (by omega)
  have hxl3 : xl ≤ 20 := by rw [HX.out]; exact Nat.le_trans (found_len _ _ _) hv3
  go_wp2_with fail
  go_loopw [9, 10] (fun c i wr => ∃ k n : Nat, k ≤ v.size ∧ n ≤ k ∧ (found u.data.toList v.data.toList k).length = n ∧ c = .int .i64 n ∧ i = .int .i64 k ∧ Drawn w3 wr) (fun _ i _ => v.size - (intOf i).toNat)
  case atStart => exact ⟨0, 0, Nat.zero_le _, Nat.le_refl _, rfl, rfl, rfl, Drawn.refl _⟩
  case round =>
    obtain ⟨k, n, hk, hnk, hfl, rfl, rfl, hD⟩ := hrel
    have HL := Lib.hid hfl
    have HD := Lib.hid hD
    clear hfl hD
    by_cases hlt : k + u.size ≤ v.size
    · have hbx := begins_extract u v k
      have hc1 : ∀ w', Drawn w3 w' → _ := fun w' hD' => a2Has _ _ _ (k : Int) w' (HO.out.drawn hD') hlen
      rw [in_found (by omega)] at hc1
      have HY := Lib.hid (fun h => found_yes (p := u.data.toList) (w := v.data.toList) (k := k) h)
      have HN := Lib.hid (fun h => found_no (p := u.data.toList) (w := v.data.toList) (k := k) h)
      cases hb : begins u.data.toList v.data.toList k
      · rw [hb] at hbx hc1
        have HN2 := Lib.hid (HN.out hb)
        have HC1 := Lib.hid hc1
        clear hc1 hb HN HY
        go_wp2_with fail
        refine (HC1.out _ HD.out).mono ?_; rintro e w4 ⟨rfl, hD4⟩
        have HD4 := HD.out.trans hD4
        clear hD4
        go_wp2
        go_roundw
        all_goals first | exact ⟨k + 1, n, by omega, by omega, by rw [HN2.out]; exact HL.out, by go_num, by go_num, HD4⟩ | ((repeat apply Exists.intro); exact ⟨⟨k + 1, n, by omega, by omega, by rw [HN2.out]; exact HL.out, by go_num, by go_num, HD4⟩, rfl⟩) | (simp [intOf]; done) | (simp [intOf]; omega) | omega
      · rw [hb] at hbx hc1
        have HY2 := Lib.hid (HY.out hb)
        have HC1 := Lib.hid hc1
        clear hc1 hb HN HY
        go_wp2_with fail
        refine (HC1.out _ HD.out).mono ?_; rintro e w4 ⟨rfl, hD4⟩
        have HD4 := HD.out.trans hD4
        clear hD4
        go_wp2
        go_roundw
        all_goals first | exact ⟨k + 1, n + 1, by omega, by omega, by rw [HY2.out, List.length_append, HL.out]; rfl, by go_num, by go_num, HD4⟩ | ((repeat apply Exists.intro); exact ⟨⟨k + 1, n + 1, by omega, by omega, by rw [HY2.out, List.length_append, HL.out]; rfl, by go_num, by go_num, HD4⟩, rfl⟩) | (simp [intOf]; done) | (simp [intOf]; omega) | omega
    · have hst : found u.data.toList v.data.toList v.size = found u.data.toList v.data.toList k := by
        have := found_stop (p := u.data.toList) (w := v.data.toList) (k := k) (by simp; omega) (by simp; omega) (v.size - k)
        rwa [show k + (v.size - k) = v.size by omega] at this
      obtain rfl : n = xl := by rw [HX.out, hst, HL.out]
      clear hst
      have hex : ¬ ((k : Int) + (u.size : Int) ≤ (v.size : Int)) := by omega
      have H5 := Lib.hid (fun W (hb : Drawn w3 W) => a2At a1 len1 cap1 W (by omega) (HB13.out.kept (hb.below _)) 0 (v.size + 1) (by decide) (by omega) (by omega))
      have e1 : ((v.size + 1 : Nat) : Int) = (v.size : Int) + 1 := rfl
      have e2 : ((0 : Nat) : Int) = 0 := rfl
      rw [e1, e2] at H5
      have HFC := Lib.hid (fun r hr => fc_facts v r hr)
      have HB4 := Lib.hid (HB.out.trans ((HD.out.below w3.heap.size).mono HB.out.size))
      have H5 := Lib.hid (H5.out _ HD.out)
      have hw1 : IntKind.i64.wrap ((v.size : Int) + 1) = (v.size : Int) + 1 := by rw [IntKind.wrap_i64]; omega
      have hv20 : (v.size : Int) ≤ 20 := by omega
      clear e1 e2 HX HO HB HB13 HL HD hlen hxl3 hl0 hl1
      go_wp2_with fail
      refine H5.out.mono ?_; rintro e w5 ⟨r, rfl, hr, hD5⟩
      have HB5 := Lib.hid (HB4.out.trans ((hD5.below _).mono HB4.out.size))
      have H6 := HF1.out w5 r (by omega)
      obtain ⟨hx1, hx2, hx3, hx4, hx5⟩ := HFC.out r (by omega)
      generalize cnt v r (v.size - r + 1) = X at H6 hx1 hx2 hx3 hx4
      have H6 := Lib.hid H6
      clear hD5 H5 HB4 HFC hex hlt hk hnk hu4 hu3 hu0 hw1
      by_cases hrv : r = v.size
      · obtain rfl := hx3 hrv
        subst hrv
        have g2 : ¬ ((v.size : Int) - (v.size : Int) + 1 < 1) := by omega
        have w2' : IntKind.i64.wrap ((v.size : Int) - (v.size : Int) + 1) = (v.size : Int) - (v.size : Int) + 1 := by rw [IntKind.wrap_i64]; omega
        have w3' : IntKind.i64.wrap ((v.size : Int) - (v.size : Int)) = (v.size : Int) - (v.size : Int) := by rw [IntKind.wrap_i64]; omega
        clear hx1 hx2 hx3 hx4 hx5 HF1
        go_wp2_with fail
        refine H6.out.mono ?_; rintro e w6 ⟨rfl, hB6⟩
        have HB6 := Lib.hid (HB5.out.trans (hB6.mono HB5.out.size))
        clear hB6 H6
        go_wp2_with fail
        go_ret
        exact ⟨rfl, HB6.out⟩
      · have g4 := hx4 (by omega)
        have H7 := fun w' => HF1.out w' (r + 1) (by omega)
        generalize cnt v (r + 1) (v.size - (r + 1) + 1) = Y at H7 g4 hx5
        rw [show ((r + 1 : Nat) : Int) = (r : Int) + 1 from rfl] at H7
        have H7 := Lib.hid H7
        have g1 : ¬ (X : Int) < 1 := by omega
        have g2 : ¬ ((v.size : Int) - (r : Int) + 1 < (X : Int)) := by omega
        have g3 : ((r : Int) == (v.size : Int)) = false := by rw [beq_eq_false_iff_ne]; omega
        have g5 : (X : Int) - 1 ≤ (Y : Int) := by omega
        have w1' : IntKind.i64.wrap ((v.size : Int) - (r : Int)) = (v.size : Int) - (r : Int) := by rw [IntKind.wrap_i64]; omega
        have w2' : IntKind.i64.wrap ((v.size : Int) - (r : Int) + 1) = (v.size : Int) - (r : Int) + 1 := by rw [IntKind.wrap_i64]; omega
        have w3' : IntKind.i64.wrap ((r : Int) + 1) = (r : Int) + 1 := by rw [IntKind.wrap_i64]; omega
        have w4' : IntKind.i64.wrap ((X : Int) - 1) = (X : Int) - 1 := by rw [IntKind.wrap_i64]; omega
        clear hx1 hx2 hx3 hx4 hx5 HF1 hr hrv g4
        go_wp2_with fail
        refine H6.out.mono ?_; rintro e w6 ⟨rfl, hB6⟩
        have HB6 := Lib.hid (HB5.out.trans (hB6.mono HB5.out.size))
        clear hB6 H6
        go_wp2_with fail
        refine (H7.out _).mono ?_; rintro e w7 ⟨rfl, hB7⟩
        have HB7 := Lib.hid (HB6.out.trans (hB7.mono HB6.out.size))
        clear hB7 H7
        go_wp2_with fail
        go_ret
        exact ⟨rfl, HB7.out⟩
end Go.Proofs.Ytdfdeppfhadopaa.fnPlaces
