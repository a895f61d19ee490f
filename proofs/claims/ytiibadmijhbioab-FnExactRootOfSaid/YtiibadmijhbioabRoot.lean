/-
  Walks: spec.RootOf, impl.RootOf.
-/
import Derived.Test.YtiibadmijhbioabBordI
namespace Go.Proofs.Ytiibadmijhbioab
open Go.RowKit Go.Maps
open Wd
set_option linter.unusedVariables false

namespace Wd
/-- p is the least period of s that divides its length -/
def IsRt (s : ByteArray) (p : Nat) : Prop := Per s p ∧ s.size % p = 0 ∧ ∀ q, Per s q → s.size % q = 0 → p ≤ q
theorem per_self {s : ByteArray} (h : 0 < s.size) : Per s s.size := ⟨h, Nat.le_refl _, by rw [Nat.sub_self]; exact Bd.zero h⟩
theorem rt_exists {s : ByteArray} (h : 0 < s.size) : ∃ p, IsRt s p := by
  have key : ∀ k, (∃ p, IsRt s p) ∨ ∀ q, q ≤ k → Per s q → s.size % q ≠ 0 := by
    intro k
    induction k with
    | zero => exact .inr fun q hq hp => by have := hp.1; omega
    | succ k ih =>
      rcases ih with h | h
      · exact .inl h
      · by_cases hk : Per s (k + 1) ∧ s.size % (k + 1) = 0
        · refine .inl ⟨k + 1, hk.1, hk.2, fun q hq hd => ?_⟩
          by_cases hqk : q ≤ k
          · exact absurd hd (h q hqk hq)
          · omega
        · refine .inr fun q hq hp hd => ?_
          by_cases hqk : q ≤ k
          · exact h q hqk hp hd
          · obtain rfl : q = k + 1 := by omega
            exact hk ⟨hp, hd⟩
  rcases key s.size with h' | h'
  · exact h'
  · exact absurd (Nat.mod_self _) (h' _ (Nat.le_refl _) (per_self h))
theorem IsRt.unique {s : ByteArray} {p q : Nat} (h : IsRt s p) (h' : IsRt s q) : p = q :=
  Nat.le_antisymm (h.2.2 q h'.1 h'.2.1) (h'.2.2 p h.1 h.2.1)
theorem mod_yes {n p : Nat} (h : n % p = 0) : ((n : Int) % (p : Int) == 0) = true := by
  rw [beq_iff_eq]; omega
theorem mod_no {n p : Nat} (h : ¬ n % p = 0) : ((n : Int) % (p : Int) == 0) = false := by
  rw [beq_eq_false_iff_ne]; omega
end Wd

theorem wrap_div {n p : Nat} (hn : n ≤ 2000) (hp : 0 < p) : wrap64 ((n : Int) / (p : Int)) = (n : Int) / (p : Int) := by
  have h1 : n / p ≤ n := Nat.div_le_self _ _
  have h2 : ((n / p : Nat) : Int) = (n : Int) / (p : Int) := by simp
  have h3 := Int.natCast_nonneg (n / p)
  have h4 : ((n / p : Nat) : Int) ≤ (n : Int) := Int.ofNat_le.2 h1
  rw [h2] at h3 h4
  exact IntWalk.wrap64_in _ ⟨by omega, by omega⟩
theorem ret_sii {a b : ByteArray} {k l : IntKind} {c d e : Int} (h : a = b) (h' : c = d) : Ending.returned (.tuple #[.string a, .int k c, .int l e]) = .returned (.tuple #[.string b, .int k d, .int l e]) := by rw [h, h']

set_option maxRecDepth 100000 in
set_option maxHeartbeats 3200000 in
theorem specRoot_ok (s : ByteArray) (p : Nat) (w : World) (hs : s.size ≤ 2000) (h : okL s.data.toList = true) (h0 : 0 < s.size) (hp : IsRt s p) :
    Calls Try.prog 24 #[.string s] w fun e w' => e = .returned (.tuple #[.string (s.extract 0 p), .int .i64 ((s.size : Int) / (p : Int)), .int .i64 0]) ∧ Below w.heap.size w w' := by
  have c1 := specOk s w (by unfold maxLen; omega)
  rw [h] at c1
  have C1 := Lib.hid c1
  have C2 := Lib.hid (fun w => specPers s w hs)
  have h3 : ((s.size : Int) == 0) = false := by rw [beq_eq_false_iff_ne]; omega
  have HP := Lib.hid hp
  clear c1 h hp
  go_enter Try.func24, Try.ntmps24
  go_wp2_with fail
  refine C1.out.mono ?_; rintro e w' ⟨rfl, rfl⟩
  go_wp2_with fail
  refine (C2.out _).mono ?_; rintro e w1 ⟨x, rfl, ho, hb⟩
  have hmem := fun q => upTo_mem (f := perB s) (k := s.size) q
  have hris := upTo_rising (perB s) s.size
  generalize hzs : upTo (perB s) s.size = zs at ho hmem hris
  have hpz : (p : Int) ∈ zs := (hmem p).2 ⟨p, HP.out.1.1, HP.out.1.2.1, (per_iff HP.out.1.1 HP.out.1.2.1).2 HP.out.1, rfl⟩
  rcases ho.shape with ⟨_, rfl⟩ | ⟨g, c, rfl, hg1, hg2⟩
  · cases hpz
  have hlen : zs.length ≤ 2000 := by rw [← hzs]; exact Nat.le_trans (upTo_len _ _) hs
  unfold OwnsI at ho
  have HO := Lib.hid ho
  have HM := Lib.hid hmem
  have HR := Lib.hid hris
  have HPZ := Lib.hid hpz
  generalize hl : zs.length = l at *
  have HL := Lib.hid hl
  clear hzs ho hmem hris hpz hl
  go_wp2
  go_loopw [6] (fun i wr => ∃ k : Nat, i = .int .i64 k ∧ k ≤ l ∧ (∀ j (hj : j < zs.length), j < k → zs[j] ≠ (p : Int)) ∧ wr = w1) (fun i _ => l - (intOf i).toNat)
  case atStart => exact ⟨0, rfl, Nat.zero_le _, fun j hj h => by omega, rfl⟩
  case round =>
    obtain ⟨k, rfl, hk, hbef, rfl⟩ := hrel
    have HBEF := Lib.hid hbef
    clear hbef
    by_cases hlt : k < l
    · have hkz : k < zs.length := by rw [HL.out]; exact hlt
      have hc : wr.cell? ⟨g, k, none⟩ = some (.int .i64 zs[k]) := by rw [HO.out.cellAt k (by omega)]; exact iv_get zs k hkz
      obtain ⟨q, hq1, hq2, hq3, hqe⟩ := (HM.out zs[k]).1 (List.getElem_mem _)
      have hper := (per_iff hq1 hq2).1 hq3
      have hwhen : s.size % q = 0 → q = p := fun hd => by
        have h1 := HP.out.2.2 q hper hd
        obtain ⟨j, hj, hje⟩ := List.mem_iff_getElem.1 HPZ.out
        have hjk : ¬ j < k := fun h => HBEF.out j hj h hje
        by_cases hjk' : j = k
        · subst hjk'; omega
        · have := List.pairwise_iff_getElem.1 HR.out k j hkz hj (by omega)
          omega
      rw [hqe] at hc
      have q0 : (0 : Int) < (q : Int) := by omega
      have q1 : (q : Int) ≤ (s.size : Int) := by omega
      by_cases hd : s.size % q = 0
      · obtain rfl := hwhen hd
        have t := mod_yes hd
        clear hqe hwhen hper hq3
        go_wp2
        go_quiet (fail)
        go_wp2
        go_ret3
        exact ⟨ret_sii rfl (wrap_div hs (by omega)), below_drewN hb _⟩
      · have t := mod_no hd
        have hne : (q : Int) ≠ (p : Int) := fun e => by
          have : q = p := by omega
          subst this
          exact hd HP.out.2.1
        have hbef2 : ∀ j (hj : j < zs.length), j < k + 1 → zs[j] ≠ (p : Int) := fun j hj hjk => by
          by_cases h : j < k
          · exact HBEF.out j hj h
          · have : j = k := by omega
            subst this
            rw [hqe]; exact hne
        have HB2 := Lib.hid hbef2
        clear hqe hwhen hper hq3 hne hbef2
        go_wp2
        go_roundw
        case rel => exact ⟨k + 1, by go_num, by omega, HB2.out, trivial⟩
        case measure => simp [intOf]; omega
    · exfalso
      obtain ⟨j, hj, hje⟩ := List.mem_iff_getElem.1 HPZ.out
      exact HBEF.out j hj (by have := HL.out; omega) hje

set_option maxRecDepth 100000 in
set_option maxHeartbeats 3200000 in
theorem implRoot_ok (s : ByteArray) (p : Nat) (w : World) (hs : s.size ≤ 2000) (h : okL s.data.toList = true) (h0 : 0 < s.size) (hp : IsRt s p) :
    Calls Try.prog 25 #[.string s] w fun e w' => e = .returned (.tuple #[.string (s.extract 0 p), .int .i64 ((s.size : Int) / (p : Int)), .int .i64 0]) ∧ Below w.heap.size w w' := by
  have c1 := implOk s w (by unfold maxLen; omega)
  rw [h] at c1
  have C1 := Lib.hid c1
  have he : s.toList.isEmpty = false := by
    rw [ByteArray.toList_eq]
    cases hl : s.data.toList with
    | nil => have : s.data.size = 0 := by simpa using congrArg List.length hl
             exact absurd (show s.size = 0 from this) (by omega)
    | cons _ _ => rfl
  have HP := Lib.hid hp
  clear c1 h hp
  go_enter Try.func25, Try.ntmps25
  go_wp2_with fail
  refine C1.out.mono ?_; rintro e w' ⟨rfl, rfl⟩
  go_wp2_with fail
  refine (implPeriods s _ hs).mono ?_
  rintro e w1 ⟨b, n, D, rfl, hPM, hb1⟩
  have s1 := hb1.size
  have hkeys := hPM.has
  have HKEYS := Lib.hid hkeys
  have hmp := hPM.1
  clear hkeys hPM
  go_wp2_with (first | (at_range; refine wpList_range_own _ rfl _ 57 rfl 2 4 keyed64 Try.underlying57 _ b n _ rfl hmp ?_; intro w2 hrg2 hg2 hs2))
  have hB2 : Below w.heap.size w w2 := hb1.grown hg2 s1 (fun k hk => by cases hk)
  generalize hr : w1.heap.size = r at hrg2 s1 ⊢
  have hmin0 : ∀ y, Per s y → s.size % y = 0 → Maps.has D (.int .i64 (y : Int)) = false → s.size ≤ y := fun y h1 _ h3 => by
    rw [(HKEYS.out _).2 ⟨y, h1, rfl⟩] at h3; cases h3
  have HMIN0 := Lib.hid hmin0
  clear hb1 hg2 hs2 hmp hr hmin0
  go_frame
  go_loopw [6, 7] (fun x _ wr => ∃ (left : Lit → Bool) (cnt q : Nat), x = .int .i64 q ∧ wr.ranges Try.prog 2 (plainElem Try.prog 4) b r n D left cnt ∧ (q = s.size ∨ Per s q ∧ s.size % q = 0) ∧ 0 < q ∧ q ≤ s.size ∧
      (∀ y, Per s y → s.size % y = 0 → left (.int .i64 (y : Int)) = false → q ≤ y) ∧ Below w.heap.size w wr ∧ (∀ kl, left kl = true → Maps.has D kl = true)) (fun _ _ wr => wr.rangeLeft b r)
  case atStart => exact ⟨_, _, s.size, rfl, hrg2, .inl rfl, h0, Nat.le_refl _, HMIN0.out, hB2, fun _ h => h⟩
  case round =>
    obtain ⟨left, cnt, q, rfl, hrg, hq, hq0, hqs, hmin, hBr, hlD⟩ := hrel
    clear hrg2 hB2
    have HQ := Lib.hid hq
    have HMIN := Lib.hid hmin
    have HLD := Lib.hid hlD
    clear hq hmin hlD
    go_wp2_with (first | (at_next; refine wpList_next_ranges_ib _ rfl _ rfl 2 .i64 keyed64 Try.underlying2 _ b r n _ _ _ rfl hrg ?_ ?_))
    · intro _ hl0
      have hrt : IsRt s q := by
        refine ⟨?_, ?_, fun y h1 h2 => HMIN.out y h1 h2 (hl0 _)⟩
        · rcases HQ.out with rfl | h
          · exact per_self h0
          · exact h.1
        · rcases HQ.out with rfl | h
          · exact Nat.mod_self _
          · exact h.2
      obtain rfl : p = q := HP.out.unique hrt
      have q0 : (0 : Int) < (p : Int) := by omega
      have q1 : (p : Int) ≤ (s.size : Int) := by omega
      clear hl0 hrt
      go_wp2
      go_quiet (fail)
      go_wp2
      go_ret3
      exact ⟨ret_sii rfl (wrap_div hs (by omega)), below_drewN hBr _⟩
    · intro x c w4 cnt1 hwx hlx hrg1 hlt hg1 hs1 hen
      obtain ⟨y, hy, he⟩ := (HKEYS.out _).1 (HLD.out _ hlx)
      obtain rfl : x = (y : Int) := by injection he
      have hy1 := hy.1
      have hy2 := hy.2.1
      have hB4 : Below w.heap.size w w4 := hBr.grown hg1 hBr.size (fun q hq => by cases hq; exact s1)
      have hlD1 : ∀ kl, (left kl && !kl.sameKey (.int .i64 (y : Int))) = true → Maps.has D kl = true := fun kl hk => HLD.out kl (by simp at hk; exact hk.1)
      have HLD1 := Lib.hid hlD1
      have hle1 := hrg.left_eq
      have hle2 := hrg1.left_eq
      have HLE := Lib.hid (show w4.rangeLeft b r < wr.rangeLeft b r by rw [hle1, hle2]; exact hlt)
      have HY := Lib.hid hy
      have y0 : (0 : Int) < (y : Int) := by omega
      clear hlx he hlD1 hle1 hle2 hBr hg1 hs1 hwx hy
      have hnew : ∀ q', q' ≤ q → (s.size % y = 0 → q' ≤ y) → ∀ z, Per s z → s.size % z = 0 → (left (.int .i64 (z : Int)) && !(Lit.int .i64 (z : Int)).sameKey (.int .i64 (y : Int))) = false → q' ≤ z := by
        intro q' h1 h2 z hz hd hl
        by_cases hzy : z = y
        · subst hzy; exact h2 hd
        · have : ¬ (z : Int) = (y : Int) := by omega
          rw [sameKey_int] at hl
          simp [this] at hl
          exact Nat.le_trans h1 (HMIN.out z hz hd hl)
      have HNEW := Lib.hid hnew
      clear hnew
      by_cases hd : s.size % y = 0
      · have t := mod_yes hd
        by_cases hqy : q ≤ y
        · have hm := Lib.hid (HNEW.out q (Nat.le_refl _) (fun _ => hqy))
          have hqy' : (q : Int) ≤ (y : Int) := by omega
          clear hd
          go_wp2
          go_roundw
          case rel => exact ⟨_, cnt1, q, by go_num, hrg1, HQ.out, hq0, hqs, hm.out, hB4, HLD1.out⟩
          case measure => exact HLE.out
        · have hm := Lib.hid (HNEW.out y (by omega) (fun _ => Nat.le_refl _))
          have hqy' : ¬ (q : Int) ≤ (y : Int) := by omega
          have HDY := Lib.hid hd
          clear hd
          go_wp2
          go_roundw
          case rel => exact ⟨_, cnt1, y, by go_num, hrg1, .inr ⟨HY.out, HDY.out⟩, by omega, by omega, hm.out, hB4, HLD1.out⟩
          case measure => exact HLE.out
      · have t := mod_no hd
        have hm := Lib.hid (HNEW.out q (Nat.le_refl _) (fun h => absurd h hd))
        clear hd
        go_wp2
        go_roundw
        case rel => exact ⟨_, cnt1, q, rfl, hrg1, HQ.out, hq0, hqs, hm.out, hB4, HLD1.out⟩
        case measure => exact HLE.out
end Go.Proofs.Ytiibadmijhbioab
