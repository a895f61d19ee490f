/-
  The height at a place: its climb's total, and the tallies weighed. Walks: impl.ClimbAt, spec.ClimbAt.
-/
import Derived.Test.YtkkbanbhiojllaaClQ
import Derived.Test.YtkkbanbhiojllaaClO
import Derived.Test.YtkkbanbhiojllaaTaR
import Derived.Test.YtkkbanbhiojllaaGramLen
namespace Go.Proofs.Ytkkbanbhiojllaa
open Go.RowKit
set_option linter.unusedVariables false
namespace Wd
/-- tallies, weighed -/
def dotW (ws t : List Int) : Int := ws.getD 0 0 * t.getD 0 0 + ws.getD 1 0 * t.getD 1 0 + ws.getD 2 0 * t.getD 2 0 + ws.getD 3 0 * t.getD 3 0
theorem dot_J (ws u v : List Int) : dotW ws (taJ u v) = dotW ws u + dotW ws v := by
  unfold dotW
  rw [taJ_get u v 0 (by decide), taJ_get u v 1 (by decide), taJ_get u v 2 (by decide), taJ_get u v 3 (by decide)]
  simp only [Int.mul_add]
  omega
theorem dot_F (ws : List Int) (d : Nat) (hd : d < 4) : dotW ws (taF d) = ws.getD d 0 := by
  unfold dotW
  rw [taF_get d 0 (by decide), taF_get d 1 (by decide), taF_get d 2 (by decide), taF_get d 3 (by decide)]
  obtain rfl | rfl | rfl | rfl : d = 0 ∨ d = 1 ∨ d = 2 ∨ d = 3 := by omega
  all_goals simp
theorem dot_at {ws : List Int} {gs : List Rl} (hok : gOk gs = true) : ∀ n k, k < n → k < gs.length → (clAt ws gs k).getD 0 0 = dotW ws (taAt gs k)
  | 0, _, h, _ => by omega
  | n + 1, k, h, hk => by
    by_cases h0 : gs[k].L.size = 0
    · obtain ⟨a, b, ha, hb, hak, hbk, _⟩ := pair_parts hok hk h0
      unfold clAt taAt
      rw [valAt_pair (gOk_iff.1 hok).2.1 hk h0 ha hb hak hbk, valAt_pair (gOk_iff.1 hok).2.1 hk h0 ha hb hak hbk]
      show (clAt ws gs a).getD 0 0 + (clAt ws gs b).getD 0 0 = dotW ws (taJ (taAt gs a) (taAt gs b))
      rw [dot_at hok n a (by omega) (by omega), dot_at hok n b (by omega) (by omega), dot_J]
    · unfold clAt taAt
      rw [valAt_letter hk h0, valAt_letter hk h0]
      obtain ⟨c, _, hc1, hc2, hc3⟩ := letter_byte h0 (fits_at (gOk_iff.1 hok).2.1 k hk)
      rw [dot_F ws _ (by omega)]
      rfl
theorem dot_acc {ws : List Int} {gs : List Rl} (hok : gOk gs = true) : ∀ (c : List Int) (u u' : List Int), (∀ q ∈ c, 0 ≤ q ∧ q < (gs.length : Int)) → u.getD 0 0 = dotW ws u' → (accV clJ u (clAt ws gs) c).getD 0 0 = dotW ws (accV taJ u' (taAt gs) c)
  | [], u, u', _, h => h
  | q :: c, u, u', hq, h => by
    have h1 := hq q (by simp)
    show (accV clJ (clJ u (clAt ws gs q.toNat)) (clAt ws gs) c).getD 0 0 = dotW ws (accV taJ (taJ u' (taAt gs q.toNat)) (taAt gs) c)
    refine dot_acc hok c _ _ (fun x hx => hq x (by simp [hx])) ?_
    show u.getD 0 0 + (clAt ws gs q.toNat).getD 0 0 = _
    rw [dot_J, h, dot_at hok (q.toNat + 1) q.toNat (by omega) (by omega)]
/-- the spec's sum, so far -/
def sumW (ws : List Int) (R : Nat → Int) : Nat → Int
  | 0 => 0
  | k + 1 => sumW ws R k + ws.getD k 0 * R k
theorem rank_zero {gs : List Rl} {V l} : ∀ f k, rankF gs V l f k 0 = 0
  | 0, _ => rfl
  | f + 1, _ => rank_none (by omega)
/-- the height at a place -/
theorem height_eq {ws : List Int} {gs : List Rl} (hok : gOk gs = true) {n : Int} (hn : 0 ≤ n ∧ n ≤ wordLen gs) : sumW ws (fun l => rankF gs (taAt gs) l gs.length (gs.length - 1) n) 4 = (clPart ws gs 0 n).getD 0 0 := by
  by_cases h0 : n = 0
  · subst h0
    unfold clPart
    rw [if_pos rfl]
    simp only [sumW, rank_zero]
    show _ = (0 : Int)
    omega
  · have hg : 0 < gs.length := by
      rcases Nat.eq_zero_or_pos gs.length with h | h
      · have := wordLen_zero h; omega
      · exact h
    unfold clPart
    rw [if_neg (by omega), dot_acc hok (covA gs 0 n) clNil taNil (covA_lt hok hg 0 n) (by unfold dotW; simp [clNil, taNil])]
    have hx : taPart gs 0 n = accV taJ taNil (taAt gs) (covA gs 0 n) := by unfold taPart; rw [if_neg (by omega)]
    rw [← hx]
    unfold dotW
    rw [taPart_get hok hg 0 (by decide) n hn.1, taPart_get hok hg 1 (by decide) n hn.1, taPart_get hok hg 2 (by decide) n hn.1, taPart_get hok hg 3 (by decide) n hn.1]
    simp only [sumW]
    omega
/-- a rank lies between nothing and the length -/
theorem rank_bd {gs : List Rl} (hok : gOk gs = true) {l : Nat} (hl : l < 4) : ∀ f k (n : Int), k < gs.length → 0 ≤ rankF gs (taAt gs) l f k n ∧ rankF gs (taAt gs) l f k n ≤ (lens gs).getD k 0
  | 0, k, n, hk => by
    have := lens_pos hk fun q hq _ => fits_at (gOk_iff.1 hok).2.1 q hq
    rw [rankF]; omega
  | f + 1, k, n, hk => by
    have hp := lens_pos hk fun q hq _ => fits_at (gOk_iff.1 hok).2.1 q hq
    have hk' := (taAt_ok hok hk).2 l hl
    by_cases h1 : n ≤ 0
    · rw [rank_none h1]; omega
    · by_cases h2 : (lens gs).getD k 0 ≤ n
      · rw [rank_all h1 h2]; exact hk'
      · have h0 : gs[k].L.size = 0 := by
          by_cases h0 : gs[k].L.size = 0
          · exact h0
          · have h1 : (lens gs).getD k 0 = 1 := vals_letter _ gs k hk h0
            omega
        obtain ⟨a, b, ha, hb, hak, hbk, hs2, p1, _, p2, _⟩ := pair_parts hok hk h0
        by_cases h3 : (lens gs).getD a 0 ≤ n
        · rw [rank_right hk ha hb h1 h2 h3]
          have := rank_bd hok hl f b (n - (lens gs).getD a 0) (by omega)
          have := (taAt_ok hok (show a < gs.length by omega)).2 l hl
          omega
        · rw [rank_left hk ha h1 h2 h3]
          have := rank_bd hok hl f a n (by omega)
          omega
end Wd
open Wd
namespace Wd
/-- the height that is asked for, and the code -/
def atG (gs : List Rl) (zs : List Int) (n : Int) : Int × Int := if (gOk gs && wOkB zs) = true then (if 0 ≤ n ∧ n ≤ wordLen gs then ((clPart zs gs 0 n).getD 0 0, 0) else (0, 2)) else (0, wCode (gOk gs) (wOkB zs))
end Wd
set_option maxRecDepth 100000 in
set_option maxHeartbeats 3200000 in
theorem implClimbAt (v wv : Value) (gs : List Rl) (zs : List Int) (n : Int) (w : World) (hf : FewR gs) (hr : Rules w v gs) (hm : zs.length ≤ 1048576) (hz : IW w wv zs) (hn : -9223372036854775808 ≤ n ∧ n ≤ 9223372036854775807) :
    Calls Try.prog 26 #[.agg #[v], wv, .int .i64 n] w fun e w' => e = .returned (.tuple #[.int .i64 (atG gs zs n).1, .int .i64 (atG gs zs n).2]) ∧ Below w.heap.size w w' := by
  have hb := (Below.refl _ w).alloc (Nat.le_refl _) (.cells #[v] 33)
  have h1 := climbFold_any v wv gs zs _ hf (hr.kept hb) hm (hz.kept hb)
  have H1 := Lib.hid h1
  have HB := Lib.hid hb
  have HRU := Lib.hid (fun W (hb : Below w.heap.size w W) => hr.kept hb)
  obtain ⟨A, c, rfl, _⟩ := hr
  unfold atG
  cases hk : gOk gs && wOkB zs
  · rw [if_neg (by simp)]
    have HK := Lib.hid hk
    obtain ⟨cd, hcd⟩ : ∃ cd : Int, cd = if gOk gs then 2 else 1 := ⟨_, rfl⟩
    have hne : (cd != 0) = true := by rw [hcd]; cases gOk gs <;> rfl
    rw [show wCode (gOk gs) (wOkB zs) = cd from by rw [hcd]; unfold wCode; rw [hk]; rfl]
    have HCD := Lib.hid hcd
    clear hb h1 hz hk hcd
    go_enter Try.func26, Try.ntmps26
    go_wp2_with fail
    refine H1.out.mono ?_
    rintro e w1 hp
    obtain ⟨_, _, k1, k2, _⟩ | ⟨_, rfl, hB1⟩ := hp
    · have := HK.out; rw [k1, k2] at this; simp at this
    rw [← HCD.out]
    have HB1 := Lib.hid (HB.out.trans (hB1.mono (by simp)))
    have HE : Hid (∀ o, Below w.heap.size w (w1.alloc o)) := Lib.hid (fun o => HB1.out.alloc HB1.out.size o)
    clear hB1
    go_wp2_with fail
    go_ret2
    exact ⟨rfl, HE.out _⟩
  · rw [if_pos rfl]
    have HK := Lib.hid hk
    obtain ⟨hok, hwb⟩ : gOk gs = true ∧ wOkB zs = true := by simpa using hk
    have hwo := wOkB_ok hwb
    have hn400 := gOk_len hok
    have hwl := wordLen_bd' hok
    have HLN := Lib.hid (fun fv lo bw W (h : IsCl W lo bw zs fv (.slice A gs.length c) gs) => clLength_any fv _ gs lo bw zs W (by omega) h)
    by_cases hneg : n < 0
    · rw [if_neg (by omega)]
      clear hb h1 hz hk hok hwb hwo hn
      go_enter Try.func26, Try.ntmps26
      go_wp2_with fail
      refine H1.out.mono ?_
      rintro e w1 hp
      obtain ⟨fv, bw, _, _, rfl, hy, hB1⟩ | ⟨k1, _⟩ := hp
      rotate_left
      · have := HK.out; rw [k1] at this; simp at this
      obtain ⟨A1, c1, A2, c2, he, _, _⟩ := hy.shape
      injection he with he
      subst he
      have HB1 := Lib.hid (HB.out.trans (hB1.mono (by simp)))
      have HE : Hid (∀ o, Below w.heap.size w (w1.alloc o)) := Lib.hid (fun o => HB1.out.alloc HB1.out.size o)
      clear hB1 hy
      go_wp2_with fail
      go_ret2
      exact ⟨rfl, HE.out _⟩
    · by_cases hbig : wordLen gs < n
      · rw [if_neg (by omega)]
        clear hb h1 hz hk hok hwb hwo hn
        go_enter Try.func26, Try.ntmps26
        go_wp2_with fail
        refine H1.out.mono ?_
        rintro e w1 hp
        obtain ⟨fv, bw, _, _, rfl, hy, hB1⟩ | ⟨k1, _⟩ := hp
        rotate_left
        · have := HK.out; rw [k1] at this; simp at this
        obtain ⟨A1, c1, A2, c2, he, _, _⟩ := hy.shape
        injection he with he
        subst he
        have HB1 := Lib.hid (HB.out.trans (hB1.mono (by simp)))
        have hb3 := (Below.refl _ w1).alloc (Nat.le_refl _) (.cells (clAll bw (.slice A gs.length c) (.slice A1 gs.length c1) (.slice A2 gs.length c2)) 67)
        have HY3 := Lib.hid (hy.kept hb3)
        have HE : Hid (∀ o o', Below w.heap.size w ((w1.alloc o).alloc o')) := Lib.hid (fun o o' => (HB1.out.alloc HB1.out.size o).alloc (by have := HB1.out.size; simp; omega) o')
        clear hB1 hy hb3
        go_wp2_with fail
        refine (HLN.out _ _ _ _ HY3.out).mono ?_
        rintro e w3 ⟨rfl, rfl⟩
        go_wp2_with fail
        go_ret2
        exact ⟨rfl, HE.out _ _⟩
      · have hin : 0 ≤ n ∧ n ≤ wordLen gs := by omega
        rw [if_pos hin]
        have HPA := Lib.hid (fun fv lo bw W (hb : Below w.heap.size w W) (h : IsCl W lo bw zs fv (.slice A gs.length c) gs) => clPart_any fv _ gs 0 n lo bw zs W hwo hok (HRU.out W hb) h ⟨Int.le_refl _, hin.1, hin.2⟩)
        have hq : clCs (clPart zs gs 0 n) = #[.int .i64 ((clPart zs gs 0 n).getD 0 0), .int .i64 ((clPart zs gs 0 n).getD 1 0), .int .i64 ((clPart zs gs 0 n).getD 2 0)] := rfl
        rw [hq] at HPA
        generalize (clPart zs gs 0 n).getD 0 0 = x0 at *
        generalize (clPart zs gs 0 n).getD 1 0 = x1 at *
        generalize (clPart zs gs 0 n).getD 2 0 = x2 at *
        clear hb h1 hz hk hok hwb hwo hn hq hin
        have hfd : ∀ W : World, (Instr.field 28 (.agg #[.int .i64 x0, .int .i64 x1, .int .i64 x2]) 0).run Try.prog W = .ok (.int .i64 x0) W := fun _ => by kernel_rfl
        go_enter Try.func26, Try.ntmps26
        go_wp2_with fail
        refine H1.out.mono ?_
        rintro e w1 hp
        obtain ⟨fv, bw, _, _, rfl, hy, hB1⟩ | ⟨k1, _⟩ := hp
        rotate_left
        · have := HK.out; rw [k1] at this; simp at this
        obtain ⟨A1, c1, A2, c2, he, _, _⟩ := hy.shape
        injection he with he
        subst he
        have HB1 := Lib.hid (HB.out.trans (hB1.mono (by simp)))
        have hb3 := (Below.refl _ w1).alloc (Nat.le_refl _) (.cells (clAll bw (.slice A gs.length c) (.slice A1 gs.length c1) (.slice A2 gs.length c2)) 67)
        have HY3 := Lib.hid (hy.kept hb3)
        have HB3 := Lib.hid (HB1.out.trans (hb3.mono HB1.out.size))
        have hb4 := (Below.refl _ (w1.alloc (.cells (clAll bw (.slice A gs.length c) (.slice A1 gs.length c1) (.slice A2 gs.length c2)) 67))).alloc (Nat.le_refl _) (.cells (clAll bw (.slice A gs.length c) (.slice A1 gs.length c1) (.slice A2 gs.length c2)) 67)
        have HY4 := Lib.hid (HY3.out.kept hb4)
        have HB4 := Lib.hid (HB3.out.trans (hb4.mono HB3.out.size))
        clear hB1 hy hb3 hb4
        go_wp2_with fail
        refine (HLN.out _ _ _ _ HY3.out).mono ?_
        rintro e w3 ⟨rfl, rfl⟩
        go_wp2_with fail
        refine (HPA.out _ _ _ _ HB4.out HY4.out).mono ?_
        rintro e w4 ⟨rfl, hB5⟩
        have HB5 := Lib.hid (HB4.out.trans (hB5.mono HB4.out.size))
        clear hB5
        go_wp2_with fail
        go_ret2
        exact ⟨rfl, HB5.out⟩
namespace Wd
theorem mul_bd {z r : Int} (hz : -9 ≤ z ∧ z ≤ 9) (hr : 0 ≤ r ∧ r ≤ 1000000000000000) : -9000000000000000 ≤ z * r ∧ z * r ≤ 9000000000000000 := by
  obtain h | h | h | h | h | h | h | h | h | h | h | h | h | h | h | h | h | h | h : z = -9 ∨ z = -8 ∨ z = -7 ∨ z = -6 ∨ z = -5 ∨ z = -4 ∨ z = -3 ∨ z = -2 ∨ z = -1 ∨ z = 0 ∨ z = 1 ∨ z = 2 ∨ z = 3 ∨ z = 4 ∨ z = 5 ∨ z = 6 ∨ z = 7 ∨ z = 8 ∨ z = 9 := by omega
  all_goals (subst h; omega)
theorem sum_bd {ws : List Int} {R : Nat → Int} (hw : wOk ws) (hR : ∀ l, l < 4 → 0 ≤ R l ∧ R l ≤ 1000000000000000) : ∀ k : Nat, k ≤ 4 → -9000000000000000 * (k : Int) ≤ sumW ws R k ∧ sumW ws R k ≤ 9000000000000000 * (k : Int)
  | 0, _ => by simp [sumW]
  | k + 1, hk => by
    have h1 := sum_bd hw hR k (by omega)
    have h2 := mul_bd (hw.2 k (by omega)) (hR k (by omega))
    simp only [sumW]
    omega
end Wd
set_option maxRecDepth 100000 in
set_option maxHeartbeats 3200000 in
theorem specClimbAt (v wv : Value) (gs : List Rl) (zs : List Int) (n : Int) (w : World) (hf : FewR gs) (hr : Rules w v gs) (hm : zs.length ≤ 1048576) (hz : IW w wv zs) (hn : -9223372036854775808 ≤ n ∧ n ≤ 9223372036854775807) :
    Calls Try.prog 25 #[.agg #[v], wv, .int .i64 n] w fun e w' => e = .returned (.tuple #[.int .i64 (atG gs zs n).1, .int .i64 (atG gs zs n).2]) ∧ Below w.heap.size w w' := by
  have hg := rules_gpT hr 33
  have hb := (Below.refl _ w).alloc (Nat.le_refl _) (.cells #[v] 33)
  have h1 := l05Weights_any w.heap.size wv zs gs _ hf hg hm (hz.kept hb)
  have H1 := Lib.hid h1
  have HB := Lib.hid hb
  have HG := Lib.hid hg
  have HIN := Lib.hid (fun W => in_any n 0 (wordLen gs) W)
  obtain ⟨A, c, rfl, _⟩ := hr
  unfold atG
  cases hk : gOk gs && wOkB zs
  · rw [if_neg (by simp)]
    obtain ⟨cd, hcd⟩ : ∃ cd : Int, cd = wCode (gOk gs) (wOkB zs) := ⟨_, rfl⟩
    have hne : (cd != 0) = true := by rw [hcd]; unfold wCode; rw [hk]; cases gOk gs <;> rfl
    rw [← hcd]
    rw [← hcd] at H1
    clear hb h1 hz hk hcd hg
    go_enter Try.func25, Try.ntmps25
    go_wp2_with fail
    refine H1.out.mono ?_
    rintro e w1 ⟨rfl, hB1⟩
    have HB1 := Lib.hid (HB.out.trans (hB1.mono (by simp)))
    clear hB1
    go_wp2_with fail
    go_ret2
    exact ⟨rfl, HB1.out⟩
  · rw [if_pos rfl]
    have hcd : wCode (gOk gs) (wOkB zs) = 0 := by unfold wCode; rw [hk]; rfl
    rw [hcd] at H1
    obtain ⟨hok, hwb⟩ : gOk gs = true ∧ wOkB zs = true := by simpa using hk
    have hwo := wOkB_ok hwb
    have hn400 := gOk_len hok
    have hwl := wordLen_bd' hok
    have hfs : (fits gs && small gs) = true := by rw [(gOk_iff.1 hok).2.1, (gOk_iff.1 hok).2.2]; rfl
    have HLN := Lib.hid (fun W (hW : GP W w.heap.size gs) => l02Length_any w.heap.size gs W hf hW hfs)
    have HLS := Lib.hid (fun W (hW : GP W w.heap.size gs) => lengths_any w.heap.size gs W hf hW)
    have HCT := Lib.hid (fun W (h : GP W w.heap.size gs) => l05Counts_any w.heap.size gs W hok h)
    have HOK := Lib.hid hok
    by_cases hin : 0 ≤ n ∧ n ≤ wordLen gs
    · rw [if_pos hin, ← height_eq hok hin]
      rw [show (decide (0 ≤ n) && decide (n ≤ wordLen gs)) = true from by simp [hin]] at HIN
      have HRK := Lib.hid (fun lv yv l W (hl : l < 4) (h : SpT W w.heap.size lv yv gs) => l05Rank_any w.heap.size lv yv gs l n W hok hl hin h)
      have hRb : ∀ l, l < 4 → 0 ≤ rankF gs (taAt gs) l gs.length (gs.length - 1) n ∧ rankF gs (taAt gs) l gs.length (gs.length - 1) n ≤ 1000000000000000 := fun l hl => by
        rcases Nat.eq_zero_or_pos gs.length with h0 | h0
        · rw [h0, rankF]; omega
        · have h2 := rank_bd hok hl gs.length (gs.length - 1) n (by omega)
          have h3 := small_at (gOk_iff.1 hok).2.2 (gs.length - 1) (by omega)
          omega
      obtain ⟨R, hR⟩ : ∃ R : Nat → Int, R = fun l => rankF gs (taAt gs) l gs.length (gs.length - 1) n := ⟨_, rfl⟩
      have HRR : Hid (∀ l, rankF gs (taAt gs) l gs.length (gs.length - 1) n = R l) := Lib.hid (fun l => by rw [hR])
      rw [← hR]
      have hRb' : ∀ l, l < 4 → 0 ≤ R l ∧ R l ≤ 1000000000000000 := fun l hl => by rw [← HRR.out]; exact hRb l hl
      have HRB := Lib.hid hRb'
      have HSB := Lib.hid (sum_bd hwo hRb')
      have HWO := Lib.hid hwo
      obtain ⟨Aw, cw, rfl, hw0 | ⟨gw, rfl, hwc⟩⟩ := hz
      · have := hwo.1; rw [hw0] at this; simp at this
      have HWC : Hid (∀ d, d < 4 → w.cell? ⟨gw, d, none⟩ = some (.int .i64 (zs.getD d 0))) := Lib.hid (fun d hd => by
        have h4 := hwo.1
        rw [hwc d (by omega), List.getD_eq_getElem?_getD, List.getElem?_eq_getElem (by omega)]; rfl)
      rw [hwo.1] at H1 ⊢
      clear hb h1 hk hcd hg hok hwb hin hfs hRb hRb' hR hwc hwo hm
      go_enter Try.func25, Try.ntmps25
      go_wp2_with fail
      refine H1.out.mono ?_
      rintro e w1 ⟨rfl, hB1⟩
      have HB1 := Lib.hid (HB.out.trans (hB1.mono (by simp)))
      have HG1 := Lib.hid (HG.out.kept hB1)
      clear hB1
      go_wp2_with fail
      refine (HLN.out _ HG1.out).mono ?_
      rintro e w3 ⟨rfl, hB3⟩
      have HB3 := Lib.hid (HB1.out.trans (hB3.mono HB1.out.size))
      have HG3 := Lib.hid (HG1.out.kept hB3)
      clear hB3
      go_wp2_with fail
      refine (HIN.out _).mono ?_
      rintro e w4 ⟨rfl, rfl⟩
      go_wp2_with fail
      refine (HLS.out _ HG3.out).mono ?_
      rintro e w5 ⟨x, rfl, ho5, hB5⟩
      have ho5 := ho5 HOK.out
      have HB5 := Lib.hid (HB3.out.trans (hB5.mono HB3.out.size))
      have HG5 := Lib.hid (HG3.out.kept hB5)
      have HO5 : Hid (w5.ownsRow w3.heap.size 2 1 x gs.length (iv (lens gs))) := Lib.hid (by unfold OwnsI at ho5; rw [lens_len] at ho5; exact ho5)
      clear hB5 ho5
      go_wp2_with fail
      refine (HCT.out _ HG5.out).mono ?_
      rintro e w6 ⟨y, rfl, U, hmm, hB6⟩
      have HB6 := Lib.hid (HB5.out.trans (Below.mono hB6 HB5.out.size))
      have HSP := Lib.hid (SpT.mk (HG5.out.kept hB6) ⟨_, own_below HO5.out hB6 (Nat.le_refl _)⟩ ⟨_, _, hmm⟩)
      clear hmm hB6
      go_wp2_with fail
      go_loopw [12, 13] (fun s i wr => ∃ l : Nat, l ≤ 4 ∧ i = .int .i64 l ∧ s = .int .i64 (sumW zs R l) ∧ Below w6.heap.size w6 wr) (fun _ i _ => 4 - (intOf i).toNat)
      case atStart => exact ⟨0, by omega, rfl, rfl, Below.refl _ _⟩
      case round =>
        obtain ⟨l, hl, rfl, rfl, hB⟩ := hrel
        obtain ⟨wo, rfl⟩ : ∃ wo : World, wo = wr := ⟨_, rfl⟩
        by_cases hl4 : l < 4
        · have l0 : (0 : Int) ≤ (l : Int) := by omega
          have l1 : (l : Int) < 4 := by omega
          have hz := HWO.out.2 l hl4
          have hr := HRB.out l hl4
          have hmb := mul_bd hz hr
          have hsb := HSB.out l (by omega)
          have hsn : sumW zs R (l + 1) = sumW zs R l + zs.getD l 0 * R l := rfl
          have hcw := ((HB6.out.trans (hB.mono HB6.out.size)).cell (lt_of_cell (HWC.out l hl4))).trans (HWC.out l hl4)
          have HK := Lib.hid (fun m => HRK.out x y l (wo.drewN m) hl4 (HSP.out.kept (below_drewN hB m)))
          rw [HRR.out] at HK
          have HBO := Lib.hid hB
          have HCW := Lib.hid hcw
          have HSN := Lib.hid hsn
          clear hsn hB
          generalize sumW zs R l = s0 at *
          generalize zs.getD l 0 = z at *
          generalize R l = r at *
          obtain ⟨p, hp⟩ : ∃ p, p = z * r := ⟨_, rfl⟩
          have hw1 : IntKind.i64.wrap (z * r) = p := by rw [IntKind.wrap_i64, hp]; omega
          rw [← hp] at hmb HSN
          have hw2 : IntKind.i64.wrap (s0 + p) = s0 + p := by rw [IntKind.wrap_i64]; omega
          clear hz hr hmb hsb hp
          go_upto_region 12 with fail
          go_region_held3 (fun w' => w'.cell? ⟨gw, l, none⟩ = some (.int .i64 z))
            (first | go_keep | exact HS7.out)
            (first
              | (go_at_call 62
                 refine (HK.out _).mono ?_
                 rintro e w7 ⟨rfl, hB7⟩
                 have hB7 : Below wo.heap.size wo w7 := below_undrew hB7
                 have HB7 := Lib.hid (HBO.out.trans (hB7.mono HBO.out.size))
                 have HS7 := Lib.hid ((hB7.cell (lt_of_cell HCW.out)).trans HCW.out)
                 clear hB7))
          all_goals
            go_wp2_with fail
            go_roundw
            all_goals first | exact ⟨l + 1, by omega, by go_num, by rw [HSN.out], HB7.out⟩ | (simp [intOf]; done) | (simp [intOf]; omega)
        · obtain rfl : l = 4 := by omega
          go_wp2_with fail
          go_ret2
          exact ⟨rfl, HB6.out.trans (hB.mono HB6.out.size)⟩
    · rw [if_neg hin]
      rw [show (decide (0 ≤ n) && decide (n ≤ wordLen gs)) = false from by rw [← Bool.not_eq_true, Bool.and_eq_true, decide_eq_true_iff, decide_eq_true_iff]; exact hin] at HIN
      clear hb h1 hk hcd hg hok hwb hin hfs hwo hm hz
      go_enter Try.func25, Try.ntmps25
      go_wp2_with fail
      refine H1.out.mono ?_
      rintro e w1 ⟨rfl, hB1⟩
      have HB1 := Lib.hid (HB.out.trans (hB1.mono (by simp)))
      have HG1 := Lib.hid (HG.out.kept hB1)
      clear hB1
      go_wp2_with fail
      refine (HLN.out _ HG1.out).mono ?_
      rintro e w3 ⟨rfl, hB3⟩
      have HB3 := Lib.hid (HB1.out.trans (hB3.mono HB1.out.size))
      clear hB3
      go_wp2_with fail
      refine (HIN.out _).mono ?_
      rintro e w4 ⟨rfl, rfl⟩
      go_wp2_with fail
      go_ret2
      exact ⟨rfl, HB3.out⟩
end Go.Proofs.Ytkkbanbhiojllaa
