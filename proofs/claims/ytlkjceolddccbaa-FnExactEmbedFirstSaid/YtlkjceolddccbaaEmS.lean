/-
  Where a text is first embedded: numbers. Walk: spec.l05Embed.
-/
import Derived.Test.YtlkjceolddccbaaTaT
import Derived.ArgAppend
namespace Go.Proofs.Ytlkjceolddccbaa
open Go.RowKit
open Wd
set_option linter.unusedVariables false
namespace Wd
theorem sel_bd {gs : List Rl} (hok : gOk gs = true) {l : Nat} (hl : l < 4) : ∀ f k (c : Int), k < f → k < gs.length → 0 ≤ c → c < (taAt gs k).getD l 0 → 0 ≤ selF gs l f k c ∧ selF gs l f k c < (lens gs).getD k 0
  | 0, _, _, h, _, _, _ => by omega
  | f + 1, k, c, h, hk, hc, hlt => by
    have hp := lens_pos hk fun q hq _ => fits_at (gOk_iff.1 hok).2.1 q hq
    by_cases h0 : gs[k].L.size = 0
    · obtain ⟨a, b, ha, hb, hak, hbk, hs2, p1, _, p2, _⟩ := pair_parts hok hk h0
      have hs : (taAt gs k).getD l 0 = (taAt gs a).getD l 0 + (taAt gs b).getD l 0 := by
        rw [← taJ_get _ _ l hl]
        exact congrArg (fun q => q.getD l 0) (valAt_pair (gOk_iff.1 hok).2.1 hk h0 ha hb hak hbk)
      by_cases h3 : c < (taAt gs a).getD l 0
      · rw [sel_left hk h0 ha h3]
        have := sel_bd hok hl f a c (by omega) (by omega) hc h3
        omega
      · rw [sel_right hk h0 ha hb h3]
        have := sel_bd hok hl f b (c - (taAt gs a).getD l 0) (by omega) (by omega) (by omega) (by omega)
        omega
    · rw [sel_letter hk h0]
      omega
/-- how many of a letter stand ahead of a place -/
def rkAt (gs : List Rl) (l : Nat) (n : Int) : Int := rankF gs (taAt gs) l gs.length (gs.length - 1) n
/-- the places of a text's letters, each the first behind the one before -/
def embL (gs : List Rl) : List UInt8 → Int → List Int
  | [], _ => []
  | c :: cs, fr => if totT gs (c.toNat - 97) ≤ rkAt gs (c.toNat - 97) fr then [] else selF gs (c.toNat - 97) gs.length (gs.length - 1) (rkAt gs (c.toNat - 97) fr) :: embL gs cs (selF gs (c.toNat - 97) gs.length (gs.length - 1) (rkAt gs (c.toNat - 97) fr) + 1)
theorem embL_drop {gs : List Rl} {s : ByteArray} {k : Nat} (h : k < s.size) (fr : Int) : embL gs (s.data.toList.drop k) fr = if totT gs (s[k].toNat - 97) ≤ rkAt gs (s[k].toNat - 97) fr then [] else selF gs (s[k].toNat - 97) gs.length (gs.length - 1) (rkAt gs (s[k].toNat - 97) fr) :: embL gs (s.data.toList.drop (k + 1)) (selF gs (s[k].toNat - 97) gs.length (gs.length - 1) (rkAt gs (s[k].toNat - 97) fr) + 1) := by
  have h' : k < s.data.toList.length := by simpa using h
  rw [List.drop_eq_getElem_cons h']
  rfl
theorem rkAt_nonneg {gs : List Rl} (hok : gOk gs = true) {l : Nat} (hl : l < 4) (n : Int) : 0 ≤ rkAt gs l n ∧ rkAt gs l n ≤ 9223372036854775807 := by
  unfold rkAt
  rcases Nat.eq_zero_or_pos gs.length with h0 | h0
  · rw [h0, rankF]; omega
  · have h3 := small_at (gOk_iff.1 hok).2.2 (gs.length - 1) (by omega)
    have key : ∀ f k (n : Int), k < gs.length → 0 ≤ rankF gs (taAt gs) l f k n ∧ rankF gs (taAt gs) l f k n ≤ (lens gs).getD k 0 := by
      intro f
      induction f with
      | zero =>
        intro k n hk
        have := lens_pos hk fun q hq _ => fits_at (gOk_iff.1 hok).2.1 q hq
        rw [rankF]; omega
      | succ f ih =>
        intro k n hk
        have hp := lens_pos hk fun q hq _ => fits_at (gOk_iff.1 hok).2.1 q hq
        have hk' := (taAt_ok hok hk).2 l hl
        by_cases h1 : n ≤ 0
        · rw [rank_none h1]; omega
        · by_cases h2 : (lens gs).getD k 0 ≤ n
          · rw [rank_all h1 h2]; exact hk'
          · have h0 : gs[k].L.size = 0 := by
              by_cases h0 : gs[k].L.size = 0
              · exact h0
              · have h1 : (lens gs).getD k 0 = 1 := vals_letter _ gs k hk h0
                omega
            obtain ⟨a, b, ha, hb, hak, hbk, hs2, p1, _, p2, _⟩ := pair_parts hok hk h0
            by_cases h3 : (lens gs).getD a 0 ≤ n
            · rw [rank_right hk ha hb h1 h2 h3]
              have := ih b (n - (lens gs).getD a 0) (by omega)
              have := (taAt_ok hok (show a < gs.length by omega)).2 l hl
              omega
            · rw [rank_left hk ha h1 h2 h3]
              have := ih a n (by omega)
              omega
    have := key gs.length (gs.length - 1) n (by omega)
    omega
end Wd
/-- between two letters of the text -/
def EmSt (gs : List Rl) (s : ByteArray) (w w6 : World) (E : List Int) (ov fv iv' : Value) (wr : World) : Prop :=
  ∃ (k : Nat) (fr : Int) (done : List Int), iv' = .int .i64 k ∧ fv = .int .i64 fr ∧ k ≤ s.size ∧ done.length = k ∧ 0 ≤ fr ∧ fr ≤ wordLen gs ∧ done ++ embL gs (s.data.toList.drop k) fr = E ∧ OwnsI wr w.heap.size ov done ∧ ((k = 0 ∧ ov = .slice (some ⟨w.heap.size, 0, none⟩) 0 0) ∨ OwnsI wr w6.heap.size ov done) ∧ Below w6.heap.size w6 wr
set_option maxRecDepth 100000 in
set_option maxHeartbeats 6400000 in
theorem l05Embed_any (pg : Nat) (gs : List Rl) (s : ByteArray) (w : World) (hf : FewR gs) (hok : gOk gs = true) (hs : okL s.data.toList = true) (hg : GP w pg gs) :
    Calls Try.prog 80 #[.pointer (some ⟨pg, 0, none⟩), .string s] w fun e w' => ∃ y, e = .returned y ∧ OwnsI w' w.heap.size y (embL gs s.data.toList 0) ∧ Below w.heap.size w w' := by
  obtain ⟨j0, hj, hy0, hy1, hy2⟩ := info_parts Try.info_i64
  have hs2 : s.size ≤ 2000 := by
    have := hs
    simp only [okL, Bool.and_eq_true, decide_eq_true_iff] at this
    simpa using this.1
  have hwl := wordLen_bd' hok
  have HLS := Lib.hid (fun W (hW : GP W pg gs) => lengths_any pg gs W hf hW)
  have HCT := Lib.hid (fun W (h : GP W pg gs) => l05Counts_any pg gs W hok h)
  have HRK := Lib.hid (fun lv yv l n W (hl : l < 4) (hn : 0 ≤ n ∧ n ≤ wordLen gs) (h : SpT W pg lv yv gs) => l05Rank_any pg lv yv gs l n W hok hl hn h)
  have HTT := Lib.hid (fun B yv U l W (hl : l < 4) (h : OwnM W B yv U (taZ gs gs.length)) => l05Total_any B yv U gs l W hok hl h)
  have HSE := Lib.hid (fun lv yv l c W (hl : l < 4) (hg : 0 < gs.length) (hc : 0 ≤ c ∧ c ≤ 9223372036854775807) (h : SpT W pg lv yv gs) => l05Select_any pg lv yv gs l c W hok hl hg hc h)
  have HOK := Lib.hid hok
  have HS := Lib.hid hs
  have HG := Lib.hid hg
  have HW := Lib.hid hwl
  clear hs hg hwl hok
  go_enter Try.func80, Try.ntmps80
  go_wp2_with fail
  have hB1 := (Below.refl _ w).alloc (Nat.le_refl _) (.cells #[] 2)
  have HO1 : Hid (OwnsI (w.alloc (.cells #[] 2)) w.heap.size (.slice (some ⟨w.heap.size, 0, none⟩) 0 0) []) := Lib.hid (World.ownsRow_lit (base := w.heap.size) (e := 2) (size := 1) w #[] 0 (Nat.le_refl _) (by decide) rfl)
  have HB1 := Lib.hid hB1
  have HG1 := Lib.hid (HG.out.kept hB1)
  clear hB1
  refine (HLS.out _ HG1.out).mono ?_
  rintro e w5 ⟨x, rfl, ho5, hB5⟩
  have ho5 := ho5 HOK.out
  have HB5 := Lib.hid (HB1.out.trans (hB5.mono HB1.out.size))
  have HG5 := Lib.hid (HG1.out.kept hB5)
  have HO5 : Hid (w5.ownsRow (w.alloc (.cells #[] 2)).heap.size 2 1 x gs.length (iv (lens gs))) := Lib.hid (by unfold OwnsI at ho5; rw [lens_len] at ho5; exact ho5)
  have HD5 := Lib.hid (own_below HO1.out hB5 (Nat.le_refl _))
  clear hB5 ho5
  go_wp2_with fail
  refine (HCT.out _ HG5.out).mono ?_
  rintro e w6 ⟨y, rfl, U, hmm, hB6⟩
  have HB6 := Lib.hid (HB5.out.trans (Below.mono hB6 HB5.out.size))
  have HSP := Lib.hid (SpT.mk (HG5.out.kept hB6) ⟨_, own_below HO5.out hB6 (Nat.le_refl _)⟩ ⟨_, _, hmm⟩)
  have HMM := Lib.hid hmm
  have HD6 := Lib.hid (own_below HD5.out hB6 (Nat.le_refl _))
  obtain ⟨E, hE⟩ : ∃ E, E = embL gs s.data.toList 0 := ⟨_, rfl⟩
  have HE := Lib.hid hE
  clear hmm hB6 hE
  go_wp2_with fail
  go_loopw [5, 9, 10, 11, 12, 13] (fun ov fv iv' _ _ _ wr => EmSt gs s w w6 E ov fv iv' wr) (fun _ _ i _ _ _ _ => s.size - (intOf i).toNat)
  case atStart => exact ⟨0, 0, [], rfl, rfl, Nat.zero_le _, rfl, Int.le_refl _, HW.out.1, by rw [HE.out]; rfl, HD6.out, .inl ⟨rfl, rfl⟩, Below.refl _ _⟩
  case round =>
    obtain ⟨k, fr, done, rfl, rfl, hk, hdl, hf0, hf1, hemb, hown, hcase, hB⟩ := hrel
    obtain ⟨wo, rfl⟩ : ∃ wo : World, wo = wr := ⟨_, rfl⟩
    by_cases hlt : k < s.size
    · have hlt8 := of_lt (okL_at HS.out (i := k) (by simpa using hlt))
      have hch : s.data.toList[k]'(by simpa using hlt) = s[k] := rfl
      rw [hch] at hlt8
      rw [embL_drop hlt] at hemb
      obtain ⟨d, hd⟩ : ∃ d : Nat, d = s[k].toNat - 97 := ⟨_, rfl⟩
      have hd4 : d < 4 := by omega
      have hd1 : s[k].toNat = 97 + d := by omega
      rw [← hd] at hemb
      have HLT : Hid (∀ W, Calls Try.prog 109 #[.int .u8 ((s[k].toNat : Nat) : Int)] W fun e w' => e = .returned (.int .i64 (d : Int)) ∧ w' = W) := Lib.hid (fun W => by rw [hd1]; exact letterN_any d hd4 W)
      have hrb := rkAt_nonneg HOK.out hd4 fr
      obtain ⟨rk, hrk⟩ : ∃ rk, rk = rkAt gs d fr := ⟨_, rfl⟩
      have HRKE : Hid (rankF gs (taAt gs) d gs.length (gs.length - 1) fr = rk) := Lib.hid hrk.symm
      rw [← hrk] at hemb hrb
      have HB := Lib.hid hB
      have HOW := Lib.hid hown
      have hwo := hB.size
      obtain ⟨Ao, co, hov⟩ := own_slice hown
      rw [hdl] at hov
      subst hov
      have k0 : (0 : Int) ≤ (k : Int) := by omega
      have k1 : (k : Int) < (s.size : Int) := by omega
      have HR1 := Lib.hid (HRK.out x y d fr wo hd4 ⟨hf0, hf1⟩ (HSP.out.kept hB))
      rw [HRKE.out] at HR1
      by_cases htt : totT gs d ≤ rk
      · rw [if_pos htt, List.append_nil] at hemb
        have HEND := Lib.hid hemb
        have hge : decide (totT gs d ≤ rk) = true := decide_eq_true htt
        clear hemb hown hB hlt8 hd hd1 hrk hcase
        go_wp2_with fail
        refine (HLT.out _).mono ?_
        rintro e w7 ⟨rfl, rfl⟩
        go_wp2_with fail
        refine HR1.out.mono ?_
        rintro e w8 ⟨rfl, hB8⟩
        have HB8 := Lib.hid (HB.out.trans (hB8.mono HB.out.size))
        have HO8 := Lib.hid (own_below HOW.out hB8 (Nat.le_refl _))
        have HT8 := Lib.hid (HTT.out _ y U d w8 hd4 (HMM.out.kept HB8.out))
        clear hB8
        go_wp2_with fail
        refine (HT8.out).mono ?_
        rintro e w9 ⟨rfl, rfl⟩
        go_wp2_with fail
        go_ret
        exact ⟨_, rfl, by rw [← HE.out, ← HEND.out]; exact HO8.out, HB6.out.trans (HB8.out.mono HB6.out.size)⟩
      · rw [if_neg htt] at hemb
        have hg0 : 0 < gs.length := by
          rcases Nat.eq_zero_or_pos gs.length with h0 | h0
          · exfalso
            apply htt
            unfold totT
            rw [if_pos h0]
            exact hrb.1
          · exact h0
        have htl : rk < (taAt gs (gs.length - 1)).getD d 0 := by
          unfold totT at htt
          rw [if_neg (by omega)] at htt
          omega
        have hsb := sel_bd HOK.out hd4 gs.length (gs.length - 1) rk (by omega) (by omega) hrb.1 htl
        have hwl : wordLen gs = (lens gs).getD (gs.length - 1) 0 := rfl
        have hw15 := HW.out
        have HS1 := Lib.hid (fun W (hb : Below w6.heap.size w6 W) => HSE.out x y d rk W hd4 hg0 hrb (HSP.out.kept hb))
        generalize selF gs d gs.length (gs.length - 1) rk = at' at *
        rw [← hwl] at hsb
        have hge : decide (totT gs d ≤ rk) = false := decide_eq_false htt
        have HEMB : Hid ((done ++ [at']) ++ embL gs (s.data.toList.drop (k + 1)) (at' + 1) = E) := Lib.hid (by rw [List.append_assoc]; exact hemb)
        have HDL : Hid ((done ++ [at']).length = k + 1) := Lib.hid (by simp [hdl])
        have HF : Hid (0 ≤ at' + 1 ∧ at' + 1 ≤ wordLen gs) := Lib.hid ⟨by omega, by omega⟩
        have hwr : IntKind.i64.wrap (at' + 1) = at' + 1 := by rw [IntKind.wrap_i64]; omega
        have HDD := Lib.hid hdl
        rcases hcase with ⟨rfl, hov0⟩ | hown6
        · clear hemb hown hB hlt8 hd hd1 hrk hwl hw15 htl hsb hdl
          injection hov0 with hA0 _ hc0
          subst hA0 hc0
          go_wp2_with fail
          refine (HLT.out _).mono ?_
          rintro e w7 ⟨rfl, rfl⟩
          go_wp2_with fail
          refine HR1.out.mono ?_
          rintro e w8 ⟨rfl, hB8⟩
          have HB8 := Lib.hid (HB.out.trans (hB8.mono HB.out.size))
          have HO8 := Lib.hid (own_below HOW.out hB8 (Nat.le_refl _))
          have HT8 := Lib.hid (HTT.out _ y U d w8 hd4 (HMM.out.kept HB8.out))
          clear hB8
          go_wp2_with fail
          refine (HT8.out).mono ?_
          rintro e w9 ⟨rfl, rfl⟩
          go_wp2_with fail
          refine (HS1.out _ HB8.out).mono ?_
          rintro e w10 ⟨rfl, hB10⟩
          have HB10 := Lib.hid (HB8.out.trans (hB10.mono HB8.out.size))
          have HO10 := Lib.hid (own_below HO8.out hB10 (Nat.le_refl _))
          clear hB10
          go_wp2_with (first | (at_builtin; refine wpList_append_grows _ rfl _ _ 53 rfl 2 j0 (.int .i64 0) 1 8 Try.underlying53 hj hy0 hy1 hy2 rfl (by decide) (some ⟨w.heap.size, 0, none⟩) 0 0 [] rfl (by simp) rfl (by simp) ⟨w10.heap.size, 0, none⟩ 1 1 [.int .i64 at'] rfl rfl (one_new _ _ _) (one_int _ _) (by omega) (by unfold maxLen; omega) (by omega) ?_))
          intro v' w11 hown' hgr
          have HST : Hid (EmSt gs s w w6 E v' (.int .i64 (at' + 1)) (.int .i64 ((0 + 1 : Nat) : Int)) w11) := Lib.hid (by
            have h11 := (HB10.out.alloc HB10.out.size (.cells #[.int .i64 at'] 2)).trans ((below_of_grown hgr).mono (by have := HB10.out.size; simp; omega))
            have ho : OwnsI w11 w6.heap.size v' (done ++ [at']) := by
              unfold OwnsI
              rw [HDL.out, List.eq_nil_of_length_eq_zero HDD.out]
              exact own_lower hown' (by have := HB10.out.size; simp; omega)
            exact ⟨0 + 1, at' + 1, done ++ [at'], rfl, rfl, by omega, HDL.out, HF.out.1, HF.out.2, HEMB.out, own_lower ho HB6.out.size, .inr ho, h11⟩)
          clear hown' hgr
          go_wp2_with fail
          go_roundw
          all_goals first | exact HST.out | ((repeat apply Exists.intro); exact ⟨HST.out, rfl⟩) | (simp [intOf]; done) | (simp [intOf]; omega) | omega
        · have HC := Lib.hid hown6
          clear hown6
          clear hemb hown hB hlt8 hd hd1 hrk hwl hw15 htl hsb hdl
          go_wp2_with fail
          refine (HLT.out _).mono ?_
          rintro e w7 ⟨rfl, rfl⟩
          go_wp2_with fail
          refine HR1.out.mono ?_
          rintro e w8 ⟨rfl, hB8⟩
          have HB8 := Lib.hid (HB.out.trans (hB8.mono HB.out.size))
          have HB1a := Lib.hid hB8
          have HO8 := Lib.hid (own_below HOW.out hB8 (Nat.le_refl _))
          have HT8 := Lib.hid (HTT.out _ y U d w8 hd4 (HMM.out.kept HB8.out))
          clear hB8
          go_wp2_with fail
          refine (HT8.out).mono ?_
          rintro e w9 ⟨rfl, rfl⟩
          go_wp2_with fail
          refine (HS1.out _ HB8.out).mono ?_
          rintro e w10 ⟨rfl, hB10⟩
          have HB10 := Lib.hid (HB8.out.trans (hB10.mono HB8.out.size))
          have HO10 := Lib.hid (own_below HO8.out hB10 (Nat.le_refl _))
          have hcc : OwnsI w10 w6.heap.size (.slice Ao k co) done := own_below HC.out ((HB1a.out).trans (hB10.mono HB1a.out.size)) (Nat.le_refl _)
          have HCC := Lib.hid hcc
          have HOD : Hid (∀ o, (w10.alloc o).ownsRow w6.heap.size 2 1 (.slice Ao k co) k (iv done)) := Lib.hid (fun o => by
            have := HCC.out
            unfold OwnsI at this
            rw [HDD.out] at this
            exact this.alloc o)
          have hs10 : w6.heap.size ≤ w10.heap.size := HB10.out.size
          clear hB10 hcc
          go_wp2_with (first | (at_builtin; refine wpList_append_own _ rfl _ _ 53 rfl w6.heap.size 2 j0 (.int .i64 0) 1 8 Try.underlying53 hj hy0 hy1 hy2 rfl (by decide) _ _ _ rfl (HOD.out _) ⟨w10.heap.size, 0, none⟩ 1 1 [.int .i64 at'] rfl rfl (one_new _ _ _) (one_int _ _) (by unfold maxLen; omega) (by omega) (by simp; omega) ?_))
          intro v' w11 hown' hgr _
          have HST : Hid (EmSt gs s w w6 E v' (.int .i64 (at' + 1)) (.int .i64 ((k + 1 : Nat) : Int)) w11) := Lib.hid (by
            have h11 := (HB10.out.alloc HB10.out.size (.cells #[.int .i64 at'] 2)).grown hgr (by have := HB10.out.size; simp; omega) (fun q hq => (HCC.out.lt q hq).1)
            have ho : OwnsI w11 w6.heap.size v' (done ++ [at']) := by
              unfold OwnsI
              rw [HDL.out, iv_app]
              exact hown'
            exact ⟨k + 1, at' + 1, done ++ [at'], rfl, rfl, by omega, HDL.out, HF.out.1, HF.out.2, HEMB.out, own_lower ho HB6.out.size, .inr ho, h11⟩)
          clear hown' hgr
          go_wp2_with fail
          go_roundw
          all_goals first | exact HST.out | ((repeat apply Exists.intro); exact ⟨HST.out, rfl⟩) | (simp [intOf]; done) | (simp [intOf]; omega) | omega
    · obtain rfl : k = s.size := by omega
      have hend : done = E := by rw [← hemb, List.drop_of_length_le (by simp)]; simp [embL]
      have HEND := Lib.hid hend
      have HOW := Lib.hid hown
      have HBB := Lib.hid (HB6.out.trans (hB.mono HB6.out.size))
      clear hend hemb hown hB hcase
      go_wp2_with fail
      go_ret
      exact ⟨_, rfl, by rw [← HE.out, ← HEND.out]; exact HOW.out, HBB.out⟩
end Go.Proofs.Ytlkjceolddccbaa
