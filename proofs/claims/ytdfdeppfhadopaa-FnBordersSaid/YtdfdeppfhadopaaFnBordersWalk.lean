/-
  The walk of FnBorders.
-/
import Derived.Test.YtdfdeppfhadopaaHas
import Derived.Test.YtdfdeppfhadopaaBordI
import Derived.Test.YtdfdeppfhadopaaPeriodsI
import Derived.Test.YtdfdeppfhadopaaFine
namespace Go.Proofs.Ytdfdeppfhadopaa.fnBorders
open Go.RowKit Wd
set_option linter.unusedVariables false

theorem few_ok {l : List UInt8} (h : Few l) (hs : l.length ≤ 2000) : okL l = true := by
  simp only [okL, Bool.and_eq_true, decide_eq_true_eq, List.all_eq_true]
  refine ⟨hs, fun c hc => ?_⟩
  obtain ⟨h1, h2⟩ := h c hc
  simp only [lt, Bool.and_eq_true, decide_eq_true_eq]
  exact ⟨h1, Nat.le_trans h2 (by decide)⟩
theorem empty_s {s : ByteArray} (h : s.size = 0) : s = ⟨#[]⟩ := by
  have : s.data = #[] := Array.eq_empty_of_size_eq_zero h
  cases s; simp at this; rw [this]
theorem in_bord {s : ByteArray} {j : Nat} (h1 : 1 ≤ j) (h2 : j < s.size) : decide ((j : Int) ∈ upTo (brdB s) (s.size - 1)) = brdB s j := by
  rw [Bool.eq_iff_iff, decide_eq_true_iff, upTo_mem]
  constructor
  · rintro ⟨n, _, _, h, e⟩
    obtain rfl : j = n := by omega
    exact h
  · intro h
    exact ⟨j, h1, by omega, h, rfl⟩
theorem in_per {s : ByteArray} {j : Nat} (h1 : 1 ≤ j) (h2 : j < s.size) : decide ((s.size : Int) - (j : Int) ∈ upTo (perB s) s.size) = brdB s j := by
  rw [Bool.eq_iff_iff, decide_eq_true_iff, upTo_mem, brd_iff h1 h2]
  constructor
  · rintro ⟨n, a, b, h, e⟩
    obtain rfl : s.size - j = n := by omega
    exact (per_iff a b).1 h
  · intro h
    exact ⟨s.size - j, by omega, by omega, (per_iff (by omega) (by omega)).2 h, by omega⟩
theorem in_gcd {s : ByteArray} {p q : Nat} (hp : (p : Int) ∈ upTo (perB s) s.size) (hq : (q : Int) ∈ upTo (perB s) s.size) (h : p + q ≤ s.size + Nat.gcd p q) :
    ((Nat.gcd p q : Nat) : Int) ∈ upTo (perB s) s.size := by
  obtain ⟨p', a, b, c, e⟩ := (upTo_mem _).1 hp
  obtain rfl : p = p' := by omega
  obtain ⟨q', a', b', c', e'⟩ := (upTo_mem _).1 hq
  obtain rfl : q = q' := by omega
  have := per_gcd ((per_iff a b).1 c) ((per_iff a' b').1 c') h
  exact (upTo_mem _).2 ⟨_, this.1, this.2.1, (per_iff this.1 this.2.1).2 this, rfl⟩

set_option maxRecDepth 100000 in
set_option maxHeartbeats 3200000 in
theorem walk (a0 : Option Addr) (len0 cap0 : Nat) (z0 : List Int) (a1 : Option Addr) (len1 cap1 : Nat) (z1 : List Int) (w : World) (w0 : IsRow .u8 w a0 len0 cap0 z0) (w1 : IsRow .u8 w a1 len1 cap1 z1) :
    Calls Try.prog 4 #[.slice a0 len0 cap0, .slice a1 len1 cap1] w fun e w' => e = .returned (.bool true) ∧ Below w.heap.size w w' := by
  have b0 := bytes_of w0
  clear w0 w1
  by_cases hlong : ¬ (len0 ≤ 3000 ∧ len1 ≤ 3000)
  · have H1 := Lib.hid (a2Long_out a0 a1 len0 len1 cap0 cap1 w hlong)
    clear hlong b0
    go_enter Try.func4, Try.ntmps4
    go_wp2_with fail
    refine H1.out.mono ?_; rintro e w' ⟨rfl, rfl⟩
    go_wp2
    go_ret
    exact ⟨rfl, Below.refl _ _⟩
  obtain ⟨hl0, hl1⟩ := Classical.not_not.1 hlong
  clear hlong
  have H1 := Lib.hid (a2Long_in a0 a1 len0 len1 cap0 cap1 w hl0 hl1)
  go_enter Try.func4, Try.ntmps4
  go_wp2_with fail
  refine H1.out.mono ?_; rintro e w' ⟨rfl, hw⟩
  have hw := hw.symm
  subst hw
  have H2 := Lib.hid (a2Word a0 len0 cap0 w (by omega) b0 20 (by decide) (by decide))
  go_wp2_with fail
  refine H2.out.mono ?_; rintro e w1 ⟨s, rfl, hs1, hs2, hB1⟩
  have hs3 : s.size ≤ 20 := by omega
  have hsk := few_ok hs2 (by simp; omega)
  have H3 := Lib.hid (implBorders_ok s w1 (by omega) hsk)
  go_wp2_with fail
  refine H3.out.mono ?_; rintro e w2 ⟨vb, rfl, hob, hB2⟩
  have H4 := Lib.hid (implPeriodsOf_ok s w2 (by omega) hsk)
  go_wp2_with fail
  refine H4.out.mono ?_; rintro e w3 ⟨vp, rfl, hop, hB3⟩
  have hob3 := hob.below hB3 (Nat.le_refl _)
  have hB03 := (hB1.trans (hB2.mono hB1.size)).trans (hB3.mono (hB1.trans (hB2.mono hB1.size)).size)
  clear hob hB1 hB2 hB3 b0 H1 H2 H3 H4 hs1 hs2 hsk
  have hl1 : (upTo (brdB s) (s.size - 1)).length ≤ 1000000 := Nat.le_trans (upTo_len _ _) (by omega)
  have hl2 : (upTo (perB s) s.size).length ≤ 1000000 := Nat.le_trans (upTo_len _ _) (by omega)
  by_cases hs0 : s.size = 0
  · have hz0 : upTo (perB s) s.size = [] := by rw [hs0]; rfl
    obtain ⟨Ax, cx, rfl⟩ : ∃ Ax cx, vp = .slice Ax 0 cx := by
      rcases hop.shape with ⟨e, _⟩ | ⟨g, cp, e, _⟩
      · exact ⟨_, _, e⟩
      · rw [hz0] at e
        exact ⟨_, _, e⟩
    have HBB := Lib.hid hB03
    obtain rfl := empty_s hs0
    clear hop hob3 hB03 hl1 hl2 hz0 hs0 hs3
    go_wp2_with fail
    go_loopw [11] (fun v W => v = .int .i64 1 ∧ W = w3) (fun _ _ => 0)
    case atStart => exact ⟨rfl, rfl⟩
    case round =>
      obtain ⟨rfl, rfl⟩ := hrel
      go_wp2_with fail
      go_loopw [13] (fun v W => v = .int .i64 0 ∧ W = wr) (fun _ _ => 0)
      case atStart => exact ⟨rfl, rfl⟩
      case round =>
        obtain ⟨rfl, rfl⟩ := hrel
        go_wp2_with fail
        go_ret
        exact ⟨rfl, HBB.out⟩
  have hmem : (s.size : Int) ∈ upTo (perB s) s.size := (upTo_mem _).2 ⟨s.size, by omega, Nat.le_refl _, (per_iff (by omega) (Nat.le_refl _)).2 (per_def.2 ⟨by omega, Nat.le_refl _, fun i hi => by omega⟩), rfl⟩
  obtain ⟨l, hl⟩ : ∃ l, l = (upTo (perB s) s.size).length := ⟨_, rfl⟩
  obtain ⟨g, cp, rfl⟩ : ∃ g cp, vp = .slice (some ⟨g, 0, none⟩) l cp := by
    rcases hop.shape with ⟨_, e⟩ | ⟨g, cp, e, _⟩
    · rw [e] at hmem; cases hmem
    · rw [hl]; exact ⟨g, cp, e⟩
  have hz : ∀ i, i < l → ∃ p : Nat, 1 ≤ p ∧ p ≤ s.size ∧ w3.cell? ⟨g, i, none⟩ = some (.int .i64 (p : Int)) := fun i hi => by
    have hi' : i < (upTo (perB s) s.size).length := by omega
    obtain ⟨p, h1, h2, _, h3⟩ := (upTo_mem _).1 (List.getElem_mem hi')
    refine ⟨p, h1, h2, ?_⟩
    rw [← h3]
    rw [hl] at hop
    exact hop.cell i hi'
  have HZ := Lib.hid hz
  have HMEM := Lib.hid hmem
  have HL := Lib.hid hl
  have hri : ∀ (i p q : Nat), i + 1 < l → w3.cell? ⟨g, i, none⟩ = some (.int .i64 (p : Int)) → w3.cell? ⟨g, i + 1, none⟩ = some (.int .i64 (q : Int)) → p < q := fun i p q hi h1 h2 => by
    rw [hl] at hop
    have hi1 : i < (upTo (perB s) s.size).length := by omega
    have hi2 : i + 1 < (upTo (perB s) s.size).length := by omega
    have e1 := (hop.cell i hi1).symm.trans h1
    have e2 := (hop.cell (i + 1) hi2).symm.trans h2
    injection e1 with e1
    injection e1 with _ e1
    injection e2 with e2
    injection e2 with _ e2
    have := List.pairwise_iff_getElem.1 (upTo_rising (perB s) s.size) i (i + 1) hi1 hi2 (Nat.lt_succ_self _)
    omega
  have HRISE := Lib.hid hri
  have hiN : ∀ (i p : Nat), i < l → w3.cell? ⟨g, i, none⟩ = some (.int .i64 (p : Int)) → (p : Int) ∈ upTo (perB s) s.size := fun i p hi h1 => by
    rw [hl] at hop
    have hi1 : i < (upTo (perB s) s.size).length := by omega
    have e1 := (hop.cell i hi1).symm.trans h1
    injection e1 with e1
    injection e1 with _ e1
    rw [← e1]
    exact List.getElem_mem hi1
  have HIN := Lib.hid hiN
  clear hri hiN
  have hl3 : l ≤ 20 := by rw [hl]; exact Nat.le_trans (upTo_len _ _) hs3
  clear hz hmem hl
  have HOB := Lib.hid hob3
  have HOP := Lib.hid hop
  have HBB := Lib.hid hB03
  clear hob3 hop hB03
  go_wp2_with fail
  go_loopw [11] (fun i wr => ∃ j : Nat, 1 ≤ j ∧ j ≤ 21 ∧ i = .int .i64 j ∧ Drawn w3 wr) (fun i _ => s.size - (intOf i).toNat)
  case atStart => exact ⟨1, by decide, by decide, rfl, Drawn.refl _⟩
  case round =>
    obtain ⟨j, hj1, hj2, rfl, hD⟩ := hrel
    by_cases hlt : j < s.size
    · have hp0 : (0 : Int) ≤ (j : Int) := by omega
      have hp1 : (j : Int) < (s.size : Int) := by omega
      have hc1 : ∀ w', Drawn w3 w' → _ := fun w' hD' => a2Has vb _ _ (j : Int) w' (HOB.out.drawn hD') hl1
      have hc2 : ∀ w', Drawn w3 w' → _ := fun w' hD' => a2Has _ _ _ ((s.size : Int) - (j : Int)) w' (HOP.out.drawn hD') hl2
      rw [in_bord hj1 hlt] at hc1
      rw [in_per hj1 hlt] at hc2
      have hbx : ((s.extract 0 j).toList == (s.extract (s.size - j) s.size).toList) = brdB s j := rfl
      generalize brdB s j = b at hc1 hc2 hbx
      have HC1 := Lib.hid hc1
      have HC2 := Lib.hid hc2
      have HD := Lib.hid hD
      clear hc1 hc2 hD
      cases b
      all_goals go_wp2_with fail
      all_goals go_quiet (fail)
      all_goals go_wp2_with fail
      all_goals refine (HC1.out _ (HD.out.drewN _)).mono ?_
      all_goals rintro e w4 ⟨rfl, hD4⟩
      all_goals have HD4 := (HD.out.drewN _).trans hD4
      all_goals clear hD4
      all_goals go_wp2_with fail
      all_goals refine (HC2.out _ HD4).mono ?_
      all_goals rintro e w5 ⟨rfl, hD5⟩
      all_goals have HD5 := HD4.trans hD5
      all_goals clear hD5
      all_goals go_wp2
      all_goals go_roundw
      all_goals first | exact ⟨j + 1, by omega, by omega, by go_num, HD5⟩ | (simp [intOf]; omega)
    · have HD := Lib.hid hD
      clear hD
      go_wp2_with fail
      go_loopw [13] (fun i wr => ∃ j : Nat, j ≤ l ∧ i = .int .i64 j ∧ Drawn w3 wr) (fun i _ => l - (intOf i).toNat)
      case atStart => exact ⟨0, Nat.zero_le _, rfl, HD.out⟩
      case round =>
        obtain ⟨i, hi1, rfl, hD⟩ := hrel
        have HD := Lib.hid hD
        clear hD
        by_cases hlt : i < l
        · obtain ⟨p, hp1, hp2, hp3⟩ := HZ.out i hlt
          have hd1 : decide ((p : Int) < 1) = false := decide_eq_false (by omega)
          have hd2 : decide (s.size < p) = false := decide_eq_false (by omega)
          have i0' : (0 : Int) ≤ (i : Int) := by omega
          have i1' : (i : Int) < (l : Int) := by omega
          have hc0 : wr.cell? ⟨g, i, none⟩ = some (.int .i64 (p : Int)) := by obtain ⟨q, hq⟩ := HD.out; rw [hq]; exact hp3
          have HC := Lib.hid hp3
          clear hp3
          by_cases hi0 : i = 0
          · subst hi0
            have l0 : (0 : Int) < (l : Int) := by omega
            go_upto_region 18 with fail
            clear HOB HOP HBB HZ HMEM HL HC HIN HRISE hl0 hl1 hl2 hs3 hl3 hs0 hw hi1 hp1 hp2
            go_quiet (fail)
            have HDQ := Lib.hid (HD.out.drewN nq)
            generalize wr.drewN nq = wq at *
            clear hc0 HD
            go_wp2_with fail
            go_loopw [14] (fun v W => v = .int .i64 0 ∧ Drawn w3 W) (fun _ _ => 0)
            case atStart => exact ⟨rfl, HDQ.out⟩
            case round =>
              obtain ⟨rfl, hDr⟩ := hrel
              go_wp2_with fail
              go_roundw
              all_goals first | exact ⟨1, by omega, by go_num, hDr⟩ | ((repeat apply Exists.intro); exact ⟨⟨1, by omega, by go_num, hDr⟩, rfl⟩) | (simp [intOf]; done) | (simp [intOf]; omega) | omega
          · obtain ⟨m, hm⟩ : ∃ m, i = m + 1 := ⟨i - 1, by omega⟩
            obtain ⟨p', hp1', hp2', hp3'⟩ := HZ.out m (by omega)
            have hrs : p' < p := HRISE.out m p' p (by omega) hp3' (by rw [← hm]; exact HC.out)
            have hcm : wr.cell? ⟨g, m, none⟩ = some (.int .i64 (p' : Int)) := by obtain ⟨q, hq⟩ := HD.out; rw [hq]; exact hp3'
            have hd4 : decide (p ≤ p') = false := decide_eq_false (by omega)
            have hd5 : decide (0 < i) = true := decide_eq_true (by omega)
            have m0 : (0 : Int) ≤ (m : Int) := by omega
            have m1 : (m : Int) < (l : Int) := by omega
            have mm : IntKind.i64.wrap ((i : Int) - 1) = (m : Int) := by rw [IntKind.wrap_i64]; omega
            clear HOB HBB HMEM HL hl0 hl1 hs0 hw hp3' hrs hp1' hp2' hi0 hm
            go_upto_region 18 with fail
            go_quiet (fail)
            have HDQ := Lib.hid (HD.out.drewN nq)
            generalize wr.drewN nq = wq at *
            clear hc0 hcm HD hd1 hd2 hd4 hd5 m0 m1 mm
            go_wp2_with fail
            go_loopw [14] (fun v W => ∃ k : Nat, k ≤ i ∧ v = .int .i64 k ∧ Drawn w3 W) (fun v _ => i - (intOf v).toNat)
            case atStart => exact ⟨0, Nat.zero_le _, rfl, HDQ.out⟩
            case round =>
              obtain ⟨k, hki, rfl, hDr⟩ := hrel
              obtain ⟨wo, rfl⟩ : ∃ wo : World, wo = wr := ⟨_, rfl⟩
              have HD := Lib.hid hDr
              clear hDr
              by_cases hlt2 : k < i
              · obtain ⟨q, hq1, hq2, hq3⟩ := HZ.out k (by omega)
                have c1 : wo.cell? ⟨g, i, none⟩ = some (.int .i64 (p : Int)) := by obtain ⟨m', hm'⟩ := HD.out; rw [hm']; exact HC.out
                have c2 : wo.cell? ⟨g, k, none⟩ = some (.int .i64 (q : Int)) := by obtain ⟨m', hm'⟩ := HD.out; rw [hm']; exact hq3
                have k0' : (0 : Int) ≤ (k : Int) := by omega
                have k1' : (k : Int) < (l : Int) := by omega
                have HG := Lib.hid (fun W => a2Gcd p q W (by omega) (by omega))
                have hgl : Nat.gcd p q ≤ p := Nat.gcd_le_left _ (by omega)
                have hmp := HIN.out i p hlt HC.out
                have hmq := HIN.out k q (by omega) hq3
                have hin := fun h => in_gcd hmp hmq h
                obtain ⟨G, hG⟩ : ∃ G, G = Nat.gcd p q := ⟨_, rfl⟩
                rw [← hG] at HG hgl hin
                obtain ⟨S1, hS1⟩ : ∃ S1 : Int, S1 = (p : Int) + (q : Int) := ⟨_, rfl⟩
                obtain ⟨S2, hS2⟩ : ∃ S2 : Int, S2 = S1 - (G : Int) := ⟨_, rfl⟩
                have w1' : IntKind.i64.wrap ((p : Int) + (q : Int)) = S1 := by rw [IntKind.wrap_i64]; omega
                have w2' : IntKind.i64.wrap (S1 - (G : Int)) = S2 := by rw [IntKind.wrap_i64]; omega
                have HNEXT : Hid (∀ W, Drawn w3 W → ∃ k' : Nat, k' ≤ i ∧ (.int .i64 ((k : Int) + 1) : Value) = .int .i64 k' ∧ Drawn w3 W) := Lib.hid (fun W h => ⟨k + 1, hlt2, by simp, h⟩)
                by_cases hS : S2 ≤ (s.size : Int)
                · have hdec : decide (S2 ≤ (s.size : Int)) = true := decide_eq_true hS
                  have hmem := hin (by omega)
                  have HA := Lib.hid (fun W (hD' : Drawn w3 W) => by
                    have := a2Has _ _ _ (G : Int) W (HOP.out.drawn hD') hl2
                    rw [decide_eq_true hmem] at this
                    exact this)
                  clear hmem hin hmp hmq hq1 hq2 hq3 hgl hG hS1 hS2 hS HZ HIN HC HRISE
                  go_upto_region 23 with fail
                  go_quiet ((go_at_call 14; exact Calls.quiet_of (HG.out _)))
                  have c3 : (wo.drewN nq).cell? ⟨g, i, none⟩ = some (.int .i64 (p : Int)) := c1
                  have c4 : (wo.drewN nq).cell? ⟨g, k, none⟩ = some (.int .i64 (q : Int)) := c2
                  have HDZ := Lib.hid (HD.out.drewN nq)
                  clear c1 c2 HD HG
                  generalize wo.drewN nq = wz at *
                  go_upto_region 24 with fail
                  go_quiet ((go_at_call 9; exact Calls.quiet_of (HA.out _ (HDZ.out.drewN _))))
                  have HNX := Lib.hid (HNEXT.out _ (HDZ.out.drewN nq))
                  clear c3 c4
                  go_wp2_with fail
                  go_roundw
                  all_goals first | exact HNX.out | ((repeat apply Exists.intro); exact ⟨HNX.out, rfl⟩) | (simp [intOf]; done) | (simp [intOf]; omega) | omega
                · have hdec : decide (S2 ≤ (s.size : Int)) = false := decide_eq_false hS
                  clear hin hmp hmq hq1 hq2 hq3 hgl hG hS1 hS2 hS HZ HIN HC HRISE
                  go_upto_region 23 with fail
                  go_quiet ((go_at_call 14; exact Calls.quiet_of (HG.out _)))
                  have c3 : (wo.drewN nq).cell? ⟨g, i, none⟩ = some (.int .i64 (p : Int)) := c1
                  have c4 : (wo.drewN nq).cell? ⟨g, k, none⟩ = some (.int .i64 (q : Int)) := c2
                  have HDZ := Lib.hid (HD.out.drewN nq)
                  clear c1 c2 HD HG
                  generalize wo.drewN nq = wz at *
                  go_upto_region 24 with fail
                  go_quiet (fail)
                  have HNX := Lib.hid (HNEXT.out _ (HDZ.out.drewN nq))
                  clear c3 c4
                  go_wp2_with fail
                  go_roundw
                  all_goals first | exact HNX.out | ((repeat apply Exists.intro); exact ⟨HNX.out, rfl⟩) | (simp [intOf]; done) | (simp [intOf]; omega) | omega
              · obtain rfl : k = i := by omega
                have HNEXT : Hid (∃ k' : Nat, k' ≤ l ∧ (.int .i64 ((k : Int) + 1) : Value) = .int .i64 k' ∧ Drawn w3 wo) := Lib.hid ⟨k + 1, hlt, by simp, HD.out⟩
                clear HD HC HZ HIN HRISE HOP
                go_wp2_with fail
                go_roundw
                all_goals first | exact HNEXT.out | ((repeat apply Exists.intro); exact ⟨HNEXT.out, rfl⟩) | (simp [intOf]; done) | (simp [intOf]; omega) | omega
        · have HA := Lib.hid (fun W (hD' : Drawn w3 W) => by
            have := a2Has _ _ _ (s.size : Int) W (HOP.out.drawn hD') hl2
            rw [decide_eq_true HMEM.out] at this
            exact this)
          have n0 : ((s.size : Int) == 0) = false := by rw [beq_eq_false_iff_ne]; omega
          have n1 : decide ((0 : Int) < (s.size : Int)) = true := decide_eq_true (by omega)
          have n2 : decide (0 < s.size) = true := decide_eq_true (by omega)
          have HBW := Lib.hid (fun W (hD' : Drawn w3 W) => HBB.out.trans ((hD'.below w3.heap.size).mono HBB.out.size))
          clear HZ HIN HRISE HOP HOB HMEM HL HBB hl0 hl1 hl2 hl3
          go_wp2_with fail
          refine (HA.out _ HD.out).mono ?_
          rintro e w9 ⟨rfl, hD9⟩
          have HB9 := Lib.hid (HBW.out _ (HD.out.trans hD9))
          clear hD9
          go_wp2_with fail
          go_ret
          exact ⟨rfl, HB9.out⟩
end Go.Proofs.Ytdfdeppfhadopaa.fnBorders
