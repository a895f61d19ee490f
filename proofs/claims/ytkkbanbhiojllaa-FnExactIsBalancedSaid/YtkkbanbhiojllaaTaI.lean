/-
  Walk: impl.RankOf.
-/
import Derived.Test.YtkkbanbhiojllaaTaX
import Derived.Test.YtkkbanbhiojllaaTaW
namespace Go.Proofs.Ytkkbanbhiojllaa
open Go.RowKit
open Wd
set_option linter.unusedVariables false
theorem idxL_any (s : ByteArray) (h : isL s = true) (w : World) :
    Calls Try.prog 54 #[.string ⟨#[97, 98, 99, 100]⟩, .string s] w fun e w' => e = .returned (.int .i64 (lNo s : Int)) ∧ w' = w := by
  obtain ⟨c, rfl, h1, h2, h3⟩ := isL_byte h
  rw [h3]
  exact idx_letter c (c.toNat - 97) (by omega) (by omega) w
theorem rank_impl {gs : List Rl} (hok : gOk gs = true) {l : Nat} (hl : l < 4) {n : Int} (hn : 0 ≤ n ∧ n ≤ wordLen gs) : (taPart gs 0 n).getD l 0 = rankF gs (taAt gs) l gs.length (gs.length - 1) n := by
  rcases Nat.eq_zero_or_pos gs.length with h0 | h0
  · have := wordLen_zero h0
    obtain rfl : n = 0 := by omega
    rw [h0]
    unfold taPart
    rw [if_pos rfl, taNil_get l hl]
    rfl
  · exact taPart_get hok h0 l hl n hn.1
set_option maxRecDepth 100000 in
set_option maxHeartbeats 6400000 in
theorem implRankOf (v : Value) (gs : List Rl) (s : ByteArray) (n : Int) (w : World) (hf : FewR gs) (hr : Rules w v gs) (hs : s.size ≤ maxLen) (hn : -9223372036854775808 ≤ n ∧ n ≤ 9223372036854775807) :
    Calls Try.prog 33 #[.agg #[v], .string s, .int .i64 n] w fun e w' => e = .returned (.tuple #[.int .i64 (rankG gs s n).1, .int .i64 (rankG gs s n).2]) ∧ Below w.heap.size w w' := by
  have hb := (Below.refl _ w).alloc (Nat.le_refl _) (.cells #[v] 33)
  have h1 := letterFold_any v gs _ hf (hr.kept hb)
  have HLE := Lib.hid (fun W => isLetter_all s W hs)
  have HB := Lib.hid hb
  have HRU := Lib.hid (fun W (hb : Below w.heap.size w W) => hr.kept hb)
  obtain ⟨A, c, rfl, _⟩ := hr
  unfold rankG
  cases hok : gOk gs
  · rw [hok] at h1
    rw [if_neg (by simp)]
    have H1 := Lib.hid h1
    clear h1 hok hb hn
    go_enter Try.func33, Try.ntmps33
    go_wp2_with fail
    refine H1.out.mono ?_
    rintro e w1 ⟨fv, rfl, _, hz, hB1⟩
    obtain rfl := hz trivial
    have HB1 := Lib.hid (HB.out.trans (hB1.mono (by simp)))
    clear hB1 hz
    go_wp2_with fail
    go_ret2
    exact ⟨rfl, HB1.out.alloc HB1.out.size _⟩
  · rw [hok] at h1
    have H1 := Lib.hid h1
    have HOK := Lib.hid hok
    have hn400 := gOk_len hok
    have hwl := wordLen_bd' hok
    cases hl : isL s
    · rw [hl] at HLE
      rw [if_neg (by simp)]
      clear h1 hok hl hb hn
      go_enter Try.func33, Try.ntmps33
      go_wp2_with fail
      refine H1.out.mono ?_
      rintro e w1 ⟨fv, rfl, hy, _, hB1⟩
      obtain ⟨A1, c1, A2, c2, he, _, _⟩ := (hy trivial).shape
      injection he with he
      subst he
      have HB1 := Lib.hid (HB.out.trans (hB1.mono (by simp)))
      clear hB1 hy
      go_wp2_with fail
      refine (HLE.out _).mono ?_
      rintro e w2 ⟨rfl, rfl⟩
      go_wp2_with fail
      go_ret2
      exact ⟨rfl, HB1.out.alloc HB1.out.size _⟩
    · rw [hl] at HLE
      rw [if_pos ⟨rfl, rfl⟩]
      have HIX := Lib.hid (fun W => idxL_any s hl W)
      have hl4 := lNo_lt hl
      have HFO : Hid (∀ fv W, IsTa W (w.heap.size + 1) fv (.slice A gs.length c) gs → Calls Try.prog 73 #[fv] W fun e w' => e = .returned (.int .i64 (wordLen gs)) ∧ w' = W.alloc (.cells fv.cells 119)) := Lib.hid (fun fv W h => taLength_any fv _ gs _ W (by omega) h)
      by_cases hneg : n < 0
      · rw [if_neg (by omega)]
        clear h1 hok hl hb hn
        go_enter Try.func33, Try.ntmps33
        go_wp2_with fail
        refine H1.out.mono ?_
        rintro e w1 ⟨fv, rfl, hy, _, hB1⟩
        obtain ⟨A1, c1, A2, c2, he, _, _⟩ := (hy trivial).shape
        injection he with he
        subst he
        have HB1 := Lib.hid (HB.out.trans (hB1.mono (by simp)))
        clear hB1 hy
        go_wp2_with fail
        refine (HLE.out _).mono ?_
        rintro e w2 ⟨rfl, rfl⟩
        go_wp2_with fail
        go_ret2
        exact ⟨rfl, HB1.out.alloc HB1.out.size _⟩
      · by_cases hbig : wordLen gs < n
        · rw [if_neg (by omega)]
          clear h1 hok hl hb
          go_enter Try.func33, Try.ntmps33
          go_wp2_with fail
          refine H1.out.mono ?_
          rintro e w1 ⟨fv, rfl, hy, _, hB1⟩
          have hy := hy trivial
          have HY : Hid (IsTa w1 (w.heap.size + 1) (.agg fv) (.slice A gs.length c) gs) := Lib.hid (hy.lower (by simp))
          obtain ⟨A1, c1, A2, c2, he, _, _⟩ := hy.shape
          injection he with he
          subst he
          have HB1 := Lib.hid (HB.out.trans (hB1.mono (by simp)))
          clear hB1 hy
          go_wp2_with fail
          refine (HLE.out _).mono ?_
          rintro e w2 ⟨rfl, rfl⟩
          go_wp2_with fail
          have hb3 := (Below.refl _ w1).alloc (Nat.le_refl _) (.cells (taAll (.slice A gs.length c) (.slice A1 gs.length c1) (.slice A2 gs.length c2)) 119)
          refine (HFO.out _ _ (HY.out.kept hb3)).mono ?_
          rintro e w3 ⟨rfl, rfl⟩
          have HE : Hid (∀ o, Below w.heap.size w ((w1.alloc (.cells (taAll (.slice A gs.length c) (.slice A1 gs.length c1) (.slice A2 gs.length c2)) 119)).alloc o)) := Lib.hid (fun o => (HB1.out.alloc HB1.out.size _).alloc (by have := HB1.out.size; simp; omega) o)
          clear hb3
          go_wp2_with fail
          go_ret2
          exact ⟨rfl, HE.out _⟩
        · have hin : 0 ≤ n ∧ n ≤ wordLen gs := by omega
          rw [if_pos hin, ← rank_impl hok hl4 hin]
          have HPA : Hid (∀ fv W, IsTa W (w.heap.size + 1) fv (.slice A gs.length c) gs → Below w.heap.size w W → Calls Try.prog 74 #[fv, .int .i64 0, .int .i64 n] W fun e w' => e = .returned (.agg (taCs (taPart gs 0 n))) ∧ Below W.heap.size W w') := Lib.hid (fun fv W h hb => taPart_any fv _ gs 0 n _ W hok (HRU.out W hb) h ⟨Int.le_refl _, hin.1, hin.2⟩)
          have hix := fun W => index_ta ((taPart gs 0 n).getD 0 0) ((taPart gs 0 n).getD 1 0) ((taPart gs 0 n).getD 2 0) ((taPart gs 0 n).getD 3 0) (lNo s) hl4 W
          have hgd : [(taPart gs 0 n).getD 0 0, (taPart gs 0 n).getD 1 0, (taPart gs 0 n).getD 2 0, (taPart gs 0 n).getD 3 0].getD (lNo s) 0 = (taPart gs 0 n).getD (lNo s) 0 := by
            have : (taPart gs 0 n).length = 4 := by
              rcases Nat.eq_zero_or_pos gs.length with h0 | h0
              · have := wordLen_zero h0
                obtain rfl : n = 0 := by omega
                unfold taPart
                rw [if_pos rfl]
                rfl
              · exact (taPart_ok hok h0 0 n).1
            rw [← four_of this]
          rw [hgd] at hix
          generalize (taPart gs 0 n).getD (lNo s) 0 = R at *
          have HQ : Hid (taCs (taPart gs 0 n) = #[.int .i64 ((taPart gs 0 n).getD 0 0), .int .i64 ((taPart gs 0 n).getD 1 0), .int .i64 ((taPart gs 0 n).getD 2 0), .int .i64 ((taPart gs 0 n).getD 3 0)]) := Lib.hid rfl
          rw [HQ.out] at HPA
          generalize (taPart gs 0 n).getD 0 0 = x0 at *
          generalize (taPart gs 0 n).getD 1 0 = x1 at *
          generalize (taPart gs 0 n).getD 2 0 = x2 at *
          generalize (taPart gs 0 n).getD 3 0 = x3 at *
          generalize lNo s = l at *
          have l0 : (0 : Int) ≤ (l : Int) := by omega
          have l1 : (l : Int) < 4 := by omega
          clear h1 hok hl hb hgd HQ hin
          go_enter Try.func33, Try.ntmps33
          go_wp2_with fail
          refine H1.out.mono ?_
          rintro e w1 ⟨fv, rfl, hy, _, hB1⟩
          have hy := hy trivial
          have HY : Hid (IsTa w1 (w.heap.size + 1) (.agg fv) (.slice A gs.length c) gs) := Lib.hid (hy.lower (by simp))
          obtain ⟨A1, c1, A2, c2, he, _, _⟩ := hy.shape
          injection he with he
          subst he
          have HB1 := Lib.hid (HB.out.trans (hB1.mono (by simp)))
          clear hB1 hy
          go_wp2_with fail
          refine (HLE.out _).mono ?_
          rintro e w2 ⟨rfl, rfl⟩
          go_wp2_with fail
          have hb3 := (Below.refl _ w1).alloc (Nat.le_refl _) (.cells (taAll (.slice A gs.length c) (.slice A1 gs.length c1) (.slice A2 gs.length c2)) 119)
          refine (HFO.out _ _ (HY.out.kept hb3)).mono ?_
          rintro e w3 ⟨rfl, rfl⟩
          have HE : Hid (∀ o, Below w1.heap.size w1 ((w1.alloc (.cells (taAll (.slice A gs.length c) (.slice A1 gs.length c1) (.slice A2 gs.length c2)) 119)).alloc o)) := Lib.hid (fun o => ((Below.refl _ w1).alloc (Nat.le_refl _) _).alloc (by simp) o)
          clear hb3
          go_wp2_with fail
          refine (HPA.out _ _ (HY.out.kept (HE.out _)) (HB1.out.trans ((HE.out _).mono HB1.out.size))).mono ?_
          rintro e w4 ⟨rfl, hB4⟩
          have HB4 := Lib.hid (HB1.out.trans (((HE.out _).trans (hB4.mono (HE.out _).size)).mono HB1.out.size))
          clear hB4
          go_wp2_with fail
          refine (HIX.out _).mono ?_
          rintro e w5 ⟨rfl, rfl⟩
          go_wp2_with fail
          go_ret2
          exact ⟨rfl, HB4.out⟩
end Go.Proofs.Ytkkbanbhiojllaa
