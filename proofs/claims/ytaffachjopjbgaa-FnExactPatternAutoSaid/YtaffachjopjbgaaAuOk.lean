/-
  Walks: spec.l00In, l00Rises, l04Next, l04Ok: valid automata.
-/
import Derived.Test.YtaffachjopjbgaaAuEq
import Derived.Deep.RegionLaw
import Derived.Deep.RegionHeld3
namespace Go.Proofs.Ytaffachjopjbgaa
open Go.RowKit
open Wd
set_option linter.unusedVariables false

theorem inB_any (n lo hi : Int) (w : World) :
    Calls Try.prog 80 #[.int .i64 n, .int .i64 lo, .int .i64 hi] w fun e w' => e = .returned (.bool (decide (lo ≤ n ∧ n ≤ hi))) ∧ w' = w := by
  by_cases h1 : lo ≤ n
  · by_cases h2 : n ≤ hi
    · rw [decide_eq_true ⟨h1, h2⟩]
      go_enter Try.func80, Try.ntmps80
      go_wp2
      go_ret
      exact ⟨rfl, rfl⟩
    · rw [decide_eq_false (fun h => h2 h.2)]
      go_enter Try.func80, Try.ntmps80
      go_wp2
      go_ret
      exact ⟨rfl, rfl⟩
  · rw [decide_eq_false (fun h => h1 h.1)]
    go_enter Try.func80, Try.ntmps80
    go_wp2
    go_ret
    exact ⟨rfl, rfl⟩
set_option maxRecDepth 100000 in
set_option maxHeartbeats 1600000 in
theorem rises_any (v : Value) (zs : List Int) (lo hi : Int) (w : World) (hn : zs.length ≤ 1048576) (h : IsL w v zs) :
    Calls Try.prog 151 #[v, .int .i64 lo, .int .i64 hi] w fun e w' => e = .returned (.bool (risesL lo hi zs)) ∧ Drawn w w' := by
  obtain ⟨A, c, rfl, hin⟩ := h
  have HI := Lib.hid hin
  obtain ⟨n, hn'⟩ : ∃ n, n = zs.length := ⟨_, rfl⟩
  rw [← hn'] at hn ⊢
  have HN := Lib.hid hn'
  clear hin hn'
  have HINA := Lib.hid (fun (x : Int) W => inB_any x lo hi W)
  go_enter Try.func151, Try.ntmps151
  go_wp2_with fail
  go_loopw [7] (fun i wr => ∃ k : Nat, k ≤ n ∧ i = .int .i64 k ∧ (∀ j, j < k → goodAt lo hi zs j) ∧ Drawn w wr) (fun i _ => n - (intOf i).toNat)
  case atStart => exact ⟨0, Nat.zero_le _, rfl, fun j hj => by omega, Drawn.refl _⟩
  case round =>
    obtain ⟨k, hk, rfl, hgood, hD⟩ := hrel
    obtain ⟨wo, rfl⟩ : ∃ wo : World, wo = wr := ⟨_, rfl⟩
    have HG := Lib.hid hgood
    have HD := Lib.hid hD
    clear hgood
    by_cases hlt : k < n
    · have hkg : k < zs.length := by rw [← HN.out]; exact hlt
      rcases HI.out with hn | ⟨x, rfl, hc⟩
      · rw [hn] at hkg; simp at hkg
      have c0 : wo.cell? (x.add k) = some (.int .i64 (zs.getD k 0)) := by
        obtain ⟨m, rfl⟩ := hD
        rw [List.getD_eq_getElem?_getD, List.getElem?_eq_getElem hkg]
        exact hc k hkg
      have c1 : 0 < k → wo.cell? (x.add (k - 1)) = some (.int .i64 (zs.getD (k - 1) 0)) := by
        intro h0
        obtain ⟨m, rfl⟩ := hD
        rw [List.getD_eq_getElem?_getD, List.getElem?_eq_getElem (by omega)]
        exact hc (k - 1) (by omega)
      have HBAD : Hid (¬ goodAt lo hi zs k → risesL lo hi zs = false) := Lib.hid (fun h => decide_eq_false (fun h' => h (h' k hkg)))
      have HNEXT : Hid (goodAt lo hi zs k → ∀ j, j < k + 1 → goodAt lo hi zs j) := Lib.hid (fun h j hj => by
        by_cases e : j = k
        · subst e; exact h
        · exact HG.out j (by omega))
      have hk0 : (0 : Int) ≤ (k : Int) := by omega
      have hk1 : (k : Int) < (n : Int) := by omega
      have c0d : wo.drew.cell? (x.add k) = some (.int .i64 (zs.getD k 0)) := c0
      clear hc hD hkg
      by_cases hb : lo ≤ zs.getD k 0 ∧ zs.getD k 0 ≤ hi
      · have HC := Lib.hid (fun W => HINA.out (zs.getD k 0) W)
        rw [decide_eq_true hb] at HC
        by_cases h0 : 0 < k
        · have d1 := c1 h0
          obtain ⟨m, hm⟩ : ∃ m, k = m + 1 := ⟨k - 1, by omega⟩
          rw [show k - 1 = m from by omega] at d1
          have d1d : wo.drew.cell? (x.add m) = some (.int .i64 (zs.getD m 0)) := d1
          have hm0 : (0 : Int) ≤ (m : Int) := by omega
          have hm1 : (m : Int) < (n : Int) := by omega
          have hsub2 : wrap64 ((k : Int) - 1) = (m : Int) := by unfold wrap64; omega
          have hsub : IntKind.i64.wrap ((k : Int) - 1) = (m : Int) := by rw [IntKind.wrap_i64]; omega
          have hgt : decide ((0 : Int) < (k : Int)) = true := decide_eq_true (by omega)
          have hgt2 : decide (0 < k) = true := decide_eq_true (by omega)
          have HB0 := Lib.hid hb
          have HM := Lib.hid hm
          clear HINA hb h0 hm c1
          generalize hz : zs.getD k 0 = z at *
          generalize hy : zs.getD m 0 = y at *
          have HZ := Lib.hid (And.intro hz hy)
          clear hz hy
          by_cases hle : z ≤ y
          · have hge : decide (z ≤ y) = true := decide_eq_true hle
            have HFIN : Hid (risesL lo hi zs = false) := Lib.hid (HBAD.out (fun h => by
              have hm := HM.out
              have := h.2 (by omega)
              rw [show k - 1 = m from by omega, HZ.out.1, HZ.out.2] at this
              omega))
            clear HBAD HNEXT HG
            go_wp2_with fail
            go_quiet ((go_at_call 80; exact Calls.quiet_of_same (HC.out _)))
            go_wp2_with fail
            go_ret
            exact ⟨by rw [HFIN.out] <;> rfl, HD.out.drewN _⟩
          · have hge : decide (z ≤ y) = false := decide_eq_false hle
            have HOKK := Lib.hid (HNEXT.out ⟨by rw [HZ.out.1]; exact HB0.out, fun _ => by rw [show k - 1 = m from by have := HM.out; omega, HZ.out.1, HZ.out.2]; omega⟩)
            clear HBAD HNEXT HG
            go_wp2_with fail
            go_quiet ((go_at_call 80; exact Calls.quiet_of_same (HC.out _)))
            go_wp2_with fail
            go_roundw
            all_goals first | exact ⟨k + 1, by omega, by go_num, HOKK.out, HD.out.drewN _⟩ | (simp [intOf]; done) | (simp [intOf]; omega) | omega
        · have HOKK := Lib.hid (HNEXT.out ⟨hb, fun h => absurd h h0⟩)
          have hgt : decide ((0 : Int) < (k : Int)) = false := decide_eq_false (by omega)
          have hgt2 : decide (0 < k) = false := decide_eq_false (by omega)
          clear HINA hb h0 c1 HBAD HNEXT HG
          generalize zs.getD k 0 = z at *
          go_wp2_with fail
          go_quiet ((go_at_call 80; exact Calls.quiet_of_same (HC.out _)))
          all_goals go_wp2_with fail
          all_goals go_roundw
          all_goals first | exact ⟨k + 1, by omega, by go_num, HOKK.out, HD.out.drewN _⟩ | (simp [intOf]; done) | (simp [intOf]; omega) | omega
      · have HC := Lib.hid (fun W => HINA.out (zs.getD k 0) W)
        rw [decide_eq_false hb] at HC
        have HFIN := Lib.hid (HBAD.out (fun h => hb h.1))
        generalize zs.getD k 0 = z at *
        clear hb HBAD HNEXT HINA c1
        go_wp2_with fail
        go_quiet ((go_at_call 80; exact Calls.quiet_of_same (HC.out _)))
        all_goals go_wp2_with fail
        all_goals go_ret
        all_goals exact ⟨by rw [HFIN.out] <;> rfl, HD.out.drewN _⟩
    · obtain rfl : k = n := by omega
      have HFIN : Hid (risesL lo hi zs = true) := Lib.hid (decide_eq_true (fun j hj => HG.out j (by rw [HN.out]; exact hj)))
      go_wp2_with fail
      go_ret
      exact ⟨by rw [HFIN.out] <;> rfl, HD.out⟩
set_option maxRecDepth 100000 in
set_option maxHeartbeats 1600000 in
theorem next_any (v : Value) (xss : List (List Int)) (n : Int) (w : World) (hn1 : 1 ≤ n) (hn2 : n ≤ 24) (hl : xss.length ≤ 1048576) (hr : ∀ r ∈ xss, r.length ≤ 1048576) (h : IsLL w v xss) :
    Calls Try.prog 152 #[.int .i64 n, v] w fun e w' => e = .returned (.bool (xss.all (rowOk n) && decide ((xss.length : Int) = n))) ∧ w' = w := by
  obtain ⟨A, c, rfl, hin⟩ := h
  have HI := Lib.hid hin
  obtain ⟨N, hN⟩ : ∃ N, N = xss.length := ⟨_, rfl⟩
  rw [← hN] at hl
  have HN := Lib.hid hN
  have HR := Lib.hid hr
  have HFIN : Hid (∀ k (hk : k < xss.length), rowOk n xss[k] = false → (xss.all (rowOk n) && decide ((xss.length : Int) = n)) = false) := Lib.hid (fun k hk h => by
    have : xss.all (rowOk n) = false := by
      rw [List.all_eq_false]
      exact ⟨xss[k], List.getElem_mem hk, by rw [h]; decide⟩
    rw [this]; rfl)
  clear hin hr
  by_cases hcnt : (N : Int) = n
  all_goals
    have HCNT := Lib.hid hcnt
    rw [← hN]
    clear hN hcnt
    go_enter Try.func152, Try.ntmps152
    go_wp2_with fail
    go_loopw [5] (fun i wr => ∃ k : Nat, k ≤ N ∧ i = .int .i64 k ∧ (∀ j (hj : j < xss.length), j < k → rowOk n xss[j] = true) ∧ wr = w) (fun i _ => N - (intOf i).toNat)
    case atStart => exact ⟨0, Nat.zero_le _, rfl, fun j hj h => by omega, rfl⟩
    case round =>
      obtain ⟨k, hk, rfl, hall, rfl⟩ := hrel
      obtain ⟨wo, rfl⟩ : ∃ wo : World, wo = wr := ⟨_, rfl⟩
      have HALL := Lib.hid hall
      clear hall
      by_cases hlt : k < N
      · have hkg : k < xss.length := by rw [← HN.out]; exact hlt
        rcases HI.out with hn | ⟨x, rfl, hc⟩
        · rw [hn] at hkg; simp at hkg
        obtain ⟨u, c0, A2, c2, rfl, hrow⟩ := hc k hkg
        have hm := HR.out _ (List.getElem_mem hkg)
        have HBAD := Lib.hid (HFIN.out k hkg)
        have HGOOD : Hid (rowOk n xss[k] = true → ∀ j (hj : j < xss.length), j < k + 1 → rowOk n xss[j] = true) := Lib.hid (fun h j hj hjk => by
          by_cases e : j = k
          · subst e; exact h
          · exact HALL.out j hj (by omega))
        generalize xss[k] = r at *
        have HROW := Lib.hid hrow
        obtain ⟨m, hm'⟩ : ∃ m, m = r.length := ⟨_, rfl⟩
        rw [← hm'] at hm c0
        have HM := Lib.hid hm'
        clear hrow hc hm'
        by_cases h4 : m = 4
        · subst h4
          have hw1 : IntKind.i64.wrap (n - 1) = n - 1 := by rw [IntKind.wrap_i64]; omega
          have HM0 := HM.out
          rcases HROW.out with he | ⟨y, rfl, hz⟩
          · rw [he] at HM0; simp at HM0
          have HZ := Lib.hid hz
          have HIN := Lib.hid (fun (z : Int) W => inB_any z 0 (n - 1) W)
          clear HM0 hz HROW
          go_wp2_with fail
          go_loopw [6] (fun i wr => ∃ q : Nat, q ≤ 4 ∧ i = .int .i64 q ∧ (∀ j (hj : j < r.length), j < q → 0 ≤ r[j] ∧ r[j] < n) ∧ wr = wo) (fun i _ => 4 - (intOf i).toNat)
          case atStart => exact ⟨0, Nat.zero_le _, rfl, fun j hj h => by omega, rfl⟩
          case round =>
            obtain ⟨q, hq, rfl, hall, rfl⟩ := hrel
            have HA := Lib.hid hall
            clear hall
            by_cases hq4 : q < 4
            · have hqr : q < r.length := by rw [← HM.out]; exact hq4
              have z0 := HZ.out q hqr
              have hq0 : (0 : Int) ≤ (q : Int) := by omega
              have hq1 : (q : Int) < 4 := by omega
              have HB2 : Hid (¬ (0 ≤ r[q] ∧ r[q] ≤ n - 1) → rowOk n r = false) := Lib.hid (fun h => by
                unfold rowOk
                have : r.all (fun x => decide (0 ≤ x ∧ x < n)) = false := by
                  rw [List.all_eq_false]
                  exact ⟨r[q], List.getElem_mem hqr, by rw [decide_eq_true_iff]; omega⟩
                rw [this, Bool.and_false])
              have HG2 : Hid ((0 ≤ r[q] ∧ r[q] ≤ n - 1) → ∀ j (hj : j < r.length), j < q + 1 → 0 ≤ r[j] ∧ r[j] < n) := Lib.hid (fun h j hj hjq => by
                by_cases e : j = q
                · subst e; omega
                · exact HA.out j hj (by omega))
              have HI2 := Lib.hid (fun W => HIN.out r[q] W)
              generalize r[q] = z at *
              by_cases hb : 0 ≤ z ∧ z ≤ n - 1
              · rw [decide_eq_true hb] at HI2
                have HNX := Lib.hid (HG2.out hb)
                clear hb HB2 HG2 HIN
                go_wp2_with fail
                refine (HI2.out _).mono ?_
                rintro e w5 ⟨rfl, rfl⟩
                go_wp2_with fail
                go_roundw
                all_goals first | exact ⟨q + 1, by omega, by go_num, HNX.out, by first | rfl | trivial⟩ | ((repeat apply Exists.intro); exact ⟨⟨q + 1, by omega, by go_num, HNX.out, by first | rfl | trivial⟩, by first | rfl | trivial⟩) | (simp [intOf]; done) | (simp [intOf]; omega) | omega
              · rw [decide_eq_false hb] at HI2
                have HF := Lib.hid (HBAD.out (HB2.out hb))
                clear hb HB2 HG2 HIN
                go_wp2_with fail
                refine (HI2.out _).mono ?_
                rintro e w5 ⟨rfl, rfl⟩
                go_wp2_with fail
                go_ret
                exact ⟨by rw [HN.out, HF.out] <;> rfl, rfl⟩
            · obtain rfl : q = 4 := by omega
              have HNX := Lib.hid (HGOOD.out (by
                unfold rowOk
                rw [← HM.out]
                have : r.all (fun x => decide (0 ≤ x ∧ x < n)) = true := by
                  rw [List.all_eq_true]
                  intro x hx
                  obtain ⟨j, hj, e⟩ := List.getElem_of_mem hx
                  rw [← e, decide_eq_true_iff]
                  exact HA.out j hj (by rw [HM.out]; exact hj)
                rw [this]; rfl))
              clear HIN
              go_wp2_with fail
              go_roundw
              all_goals first | exact ⟨k + 1, by omega, by go_num, HNX.out, by first | rfl | trivial⟩ | ((repeat apply Exists.intro); exact ⟨⟨k + 1, by omega, by go_num, HNX.out, by first | rfl | trivial⟩, by first | rfl | trivial⟩) | (simp [intOf]; done) | (simp [intOf]; omega) | omega
        · have hne : ¬ (m : Int) = 4 := by omega
          have HF := Lib.hid (HBAD.out (by unfold rowOk; rw [← HM.out, decide_eq_false h4]; rfl))
          clear HBAD HGOOD HALL
          go_wp2_with fail
          go_ret
          exact ⟨by rw [HN.out, HF.out] <;> rfl, rfl⟩
      · obtain rfl : k = N := by omega
        have HT : Hid (xss.all (rowOk n) = true) := Lib.hid (by
          rw [List.all_eq_true]
          intro r hr
          obtain ⟨j, hj, e⟩ := List.getElem_of_mem hr
          rw [← e]
          exact HALL.out j hj (by rw [HN.out]; exact hj))
        have hcnt := HCNT.out
        clear HALL
        go_wp2_with fail
        go_ret
        refine ⟨?_, rfl⟩
        rw [HT.out]
        first
          | (rw [decide_eq_true HCNT.out]; simp [hcnt]; done)
          | (rw [decide_eq_false HCNT.out]; simp [hcnt]; done)
end Go.Proofs.Ytaffachjopjbgaa
