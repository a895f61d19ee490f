/-
  Walks: impl's validSteps and what it calls.
  Walks: impl.validSteps, impl.ValidAuto.
-/
import Derived.Test.YtaffachjopjbgaaAuOk2
namespace Go.Proofs.Ytaffachjopjbgaa
open Go.RowKit
open Wd
set_option linter.unusedVariables false

theorem isOf_any (s n : Int) (w : World) :
    Calls Try.prog 87 #[.int .i64 s, .int .i64 n] w fun e w' => e = .returned (.bool (decide (0 ≤ s ∧ s < n))) ∧ w' = w := by
  by_cases h1 : 0 ≤ s
  · by_cases h2 : s < n
    · rw [decide_eq_true ⟨h1, h2⟩]
      go_enter Try.func87, Try.ntmps87
      go_wp2
      go_ret
      exact ⟨rfl, rfl⟩
    · rw [decide_eq_false (fun h => h2 h.2)]
      go_enter Try.func87, Try.ntmps87
      go_wp2
      go_ret
      exact ⟨rfl, rfl⟩
  · rw [decide_eq_false (fun h => h1 h.1)]
    go_enter Try.func87, Try.ntmps87
    go_wp2
    go_ret
    exact ⟨rfl, rfl⟩
theorem wrong_any (s n : Int) (pb : Nat) (w : World) (hp : w.cell? ⟨pb, 0, none⟩ = some (.int .i64 n)) :
    Calls Try.prog 205 #[.int .i64 s, .pointer (some ⟨pb, 0, none⟩)] w fun e w' => e = .returned (.bool (!decide (0 ≤ s ∧ s < n))) ∧ w' = w := by
  have H := Lib.hid (fun W => isOf_any s n W)
  by_cases h : 0 ≤ s ∧ s < n
  · rw [decide_eq_true h] at H ⊢
    clear h
    go_enter Try.func205, Try.ntmps205
    go_wp2_with fail
    refine (H.out _).mono ?_
    rintro e w5 ⟨rfl, rfl⟩
    go_wp2_with fail
    go_ret
    exact ⟨rfl, rfl⟩
  · rw [decide_eq_false h] at H ⊢
    clear h
    go_enter Try.func205, Try.ntmps205
    go_wp2_with fail
    refine (H.out _).mono ?_
    rintro e w5 ⟨rfl, rfl⟩
    go_wp2_with fail
    go_ret
    exact ⟨rfl, rfl⟩
/-- whether all numbers are states -/
def allIn (n : Int) (zs : List Int) : Bool := zs.all fun x => decide (0 ≤ x ∧ x < n)
set_option maxRecDepth 100000 in
set_option maxHeartbeats 1600000 in
theorem indexF_any (v : Value) (zs : List Int) (n : Int) (pb : Nat) (w : World) (hl : zs.length ≤ 1048576) (hp : w.cell? ⟨pb, 0, none⟩ = some (.int .i64 n)) (h : IsL w v zs) :
    Calls Try.prog 224 #[v, .func (.func 205) #[] #[.pointer (some ⟨pb, 0, none⟩)]] w fun e w' => ∃ y, e = .returned (.int .i64 y) ∧ w' = w ∧ ((allIn n zs = true ∧ y = -1) ∨ (allIn n zs = false ∧ 0 ≤ y)) := by
  obtain ⟨A, c, rfl, hin⟩ := h
  have HI := Lib.hid hin
  obtain ⟨N, hN⟩ : ∃ N, N = zs.length := ⟨_, rfl⟩
  rw [← hN] at hl ⊢
  have HN := Lib.hid hN
  have HC := Lib.hid (fun s => wrong_any s n pb w hp)
  clear hin hN hp
  go_enter Try.func224, Try.ntmps224
  go_wp2_with fail
  go_loopw [8] (fun i wr => ∃ k : Nat, k ≤ N ∧ i = .int .i64 k ∧ (∀ j (hj : j < zs.length), j < k → 0 ≤ zs[j] ∧ zs[j] < n) ∧ wr = w) (fun i _ => N - (intOf i).toNat)
  case atStart => exact ⟨0, Nat.zero_le _, rfl, fun j hj h => by omega, rfl⟩
  case round =>
    obtain ⟨k, hk, rfl, hall, rfl⟩ := hrel
    have HA := Lib.hid hall
    clear hall
    by_cases hlt : k < N
    · have hkg : k < zs.length := by rw [← HN.out]; exact hlt
      rcases HI.out with hn | ⟨x, rfl, hc⟩
      · rw [hn] at hkg; simp at hkg
      have c0 := hc k hkg
      have HBAD : Hid (¬ (0 ≤ zs[k] ∧ zs[k] < n) → allIn n zs = false) := Lib.hid (fun h => by
        unfold allIn
        rw [List.all_eq_false]
        exact ⟨zs[k], List.getElem_mem hkg, by rw [decide_eq_true_iff]; exact h⟩)
      have HG2 : Hid ((0 ≤ zs[k] ∧ zs[k] < n) → ∀ j (hj : j < zs.length), j < k + 1 → 0 ≤ zs[j] ∧ zs[j] < n) := Lib.hid (fun h j hj hjq => by
        by_cases e : j = k
        · subst e; exact h
        · exact HA.out j hj (by omega))
      have HW := Lib.hid (HC.out zs[k])
      generalize zs[k] = z at *
      clear hc hkg
      by_cases hb : 0 ≤ z ∧ z < n
      · rw [decide_eq_true hb] at HW
        have HNX := Lib.hid (HG2.out hb)
        clear hb HBAD HG2 HC
        go_wp2_with fail
        refine HW.out.mono ?_
        rintro e w5 ⟨rfl, rfl⟩
        go_wp2_with fail
        go_roundw
        all_goals first | exact ⟨k + 1, by omega, by go_num, HNX.out, by first | rfl | trivial⟩ | ((repeat apply Exists.intro); exact ⟨⟨k + 1, by omega, by go_num, HNX.out, by first | rfl | trivial⟩, by first | rfl | trivial⟩) | (simp [intOf]; done) | (simp [intOf]; omega) | omega
      · rw [decide_eq_false hb] at HW
        have HF := Lib.hid (HBAD.out hb)
        clear hb HBAD HG2 HC
        go_wp2_with fail
        refine HW.out.mono ?_
        rintro e w5 ⟨rfl, rfl⟩
        go_wp2_with fail
        go_ret
        exact ⟨_, rfl, rfl, .inr ⟨HF.out, by omega⟩⟩
    · obtain rfl : k = N := by omega
      have HT : Hid (allIn n zs = true) := Lib.hid (by
        unfold allIn
        rw [List.all_eq_true]
        intro r hr
        obtain ⟨j, hj, e⟩ := List.getElem_of_mem hr
        rw [← e, decide_eq_true_iff]
        exact HA.out j hj (by rw [HN.out]; exact hj))
      clear HC
      go_wp2_with fail
      go_ret
      exact ⟨_, rfl, rfl, .inl ⟨HT.out, rfl⟩⟩
theorem containsF_any (v : Value) (zs : List Int) (n : Int) (pb : Nat) (w : World) (hl : zs.length ≤ 1048576) (hp : w.cell? ⟨pb, 0, none⟩ = some (.int .i64 n)) (h : IsL w v zs) :
    Calls Try.prog 206 #[v, .func (.func 205) #[] #[.pointer (some ⟨pb, 0, none⟩)]] w fun e w' => e = .returned (.bool (!allIn n zs)) ∧ w' = w := by
  have HX := Lib.hid (indexF_any v zs n pb w hl hp h)
  obtain ⟨A, c, rfl, _⟩ := h
  clear hp
  go_enter Try.func206, Try.ntmps206
  go_wp2_with fail
  refine HX.out.mono ?_
  rintro e w5 ⟨y, rfl, rfl, ⟨ha, rfl⟩ | ⟨ha, hy⟩⟩
  · have HA := Lib.hid ha
    clear ha
    go_wp2_with fail
    go_ret
    exact ⟨by rw [HA.out] <;> rfl, rfl⟩
  · have HA := Lib.hid ha
    have hd : decide (0 ≤ y) = true := decide_eq_true hy
    clear ha
    go_wp2_with fail
    go_ret
    exact ⟨by rw [HA.out] <;> first | rfl | (simp; done) | simp [hd], rfl⟩
def stepsOk (st go : Int) (xss : List (List Int)) : Bool := decide (1 ≤ st ∧ st ≤ 24) && decide (0 ≤ go ∧ go < st) && (decide ((xss.length : Int) = st) && xss.all (rowOk st))
set_option maxRecDepth 100000 in
set_option maxHeartbeats 3200000 in
theorem steps_ok (st go : Int) (v : Value) (xss : List (List Int)) (w : World) (hl : xss.length ≤ 1048576) (hr : ∀ r ∈ xss, r.length ≤ 1048576) (h : IsLL w v xss)
    (h1 : 1 ≤ st) (h2 : st ≤ 24) (h3 : 0 ≤ go ∧ go < st) (h4 : (xss.length : Int) = st) :
    Calls Try.prog 164 #[.int .i64 st, .int .i64 go, v] w fun e w' => e = .returned (.bool (xss.all (rowOk st))) ∧ Below w.heap.size w w' := by
  have hb := (Below.refl _ w).alloc (Nat.le_refl _) (.cells #[.int .i64 st] 2)
  have hp : (w.alloc (.cells #[.int .i64 st] 2)).cell? ⟨w.heap.size, 0, none⟩ = some (.int .i64 st) := cell_new _ _ _
  obtain ⟨A, c, rfl, hin⟩ := h.kept hb
  have HB := Lib.hid hb
  have HI := Lib.hid hin
  have HR := Lib.hid hr
  have HP := Lib.hid hp
  have HS := Lib.hid (fun W => isOf_any go st W)
  rw [decide_eq_true h3] at HS
  obtain ⟨N, hN⟩ : ∃ N, N = xss.length := ⟨_, rfl⟩
  rw [← hN] at hl h4 ⊢
  have HN := Lib.hid hN
  have hbe : ((N : Int) != st) = false := by simp [h4]
  have hd1 : decide (st < 1) = false := decide_eq_false (by omega)
  have hd2 : decide (24 < st) = false := decide_eq_false (by omega)
  clear hin hr hN h3 hb h hp h4
  go_enter Try.func164, Try.ntmps164
  go_wp2_with fail
  refine (HS.out _).mono ?_
  rintro e w5 ⟨rfl, rfl⟩
  have hp := HP.out
  go_wp2_with fail
  generalize w.alloc (.cells #[.int .i64 st] 2) = w1 at *
  obtain ⟨P, hPe⟩ : ∃ P, P = w.heap.size := ⟨_, rfl⟩
  rw [← hPe] at hp HP ⊢
  have HPE := Lib.hid hPe
  clear hPe hbe hd1 hd2
  go_loopw [31] (fun i wr => ∃ k : Nat, k ≤ N ∧ i = .int .i64 k ∧ (∀ j (hj : j < xss.length), j < k → rowOk st xss[j] = true) ∧ wr = w1) (fun i _ => N - (intOf i).toNat)
  case atStart => exact ⟨0, Nat.zero_le _, rfl, fun j hj h => by omega, rfl⟩
  case round =>
    obtain ⟨k, hk, rfl, hall, rfl⟩ := hrel
    have HALL := Lib.hid hall
    clear hall
    by_cases hlt : k < N
    · have hkg : k < xss.length := by rw [← HN.out]; exact hlt
      rcases HI.out with hn | ⟨x, rfl, hc⟩
      · rw [hn] at hkg; simp at hkg
      obtain ⟨u, c0, hrow⟩ := hc k hkg
      have hm := HR.out _ (List.getElem_mem hkg)
      have HBAD : Hid (rowOk st xss[k] = false → xss.all (rowOk st) = false) := Lib.hid (fun h => by
        rw [List.all_eq_false]
        exact ⟨xss[k], List.getElem_mem hkg, by rw [h]; decide⟩)
      have HGOOD : Hid (rowOk st xss[k] = true → ∀ j (hj : j < xss.length), j < k + 1 → rowOk st xss[j] = true) := Lib.hid (fun h j hj hjk => by
        by_cases e : j = k
        · subst e; exact h
        · exact HALL.out j hj (by omega))
      have HC := Lib.hid (containsF_any u xss[k] st P _ hm HP.out hrow)
      generalize xss[k] = r at *
      obtain ⟨A2, c2, rfl⟩ := hrow.shape
      obtain ⟨m, hm'⟩ : ∃ m, m = r.length := ⟨_, rfl⟩
      rw [← hm'] at hm c0 HC
      have HM := Lib.hid hm'
      clear hrow hc hm'
      by_cases h4 : m = 4
      · subst h4
        cases ha : allIn st r
        · rw [ha] at HC
          have HF := Lib.hid (HBAD.out (by
            unfold rowOk
            rw [show (r.all fun x => decide (0 ≤ x ∧ x < st)) = false from ha, Bool.and_false]))
          clear ha HBAD HGOOD HALL
          go_wp2_with fail
          refine HC.out.mono ?_
          rintro e w5 ⟨rfl, rfl⟩
          go_wp2_with fail
          go_ret
          exact ⟨by rw [HF.out] <;> rfl, HB.out⟩
        · rw [ha] at HC
          have HNX := Lib.hid (HGOOD.out (by
            unfold rowOk
            rw [show (r.all fun x => decide (0 ≤ x ∧ x < st)) = true from ha, ← HM.out]; rfl))
          clear ha HBAD HGOOD HALL
          go_wp2_with fail
          refine HC.out.mono ?_
          rintro e w5 ⟨rfl, rfl⟩
          go_wp2_with fail
          go_roundw
          all_goals first | exact ⟨k + 1, by omega, by go_num, HNX.out, by first | rfl | trivial⟩ | ((repeat apply Exists.intro); exact ⟨⟨k + 1, by omega, by go_num, HNX.out, by first | rfl | trivial⟩, by first | rfl | trivial⟩) | (simp [intOf]; done) | (simp [intOf]; omega) | omega
      · have hne : ¬ (m : Int) = 4 := by omega
        have HF := Lib.hid (HBAD.out (by unfold rowOk; rw [← HM.out, decide_eq_false h4]; rfl))
        clear HBAD HGOOD HALL HC
        go_wp2_with fail
        go_ret
        exact ⟨by rw [HF.out] <;> rfl, HB.out⟩
    · obtain rfl : k = N := by omega
      have HT : Hid (xss.all (rowOk st) = true) := Lib.hid (by
        rw [List.all_eq_true]
        intro r hr
        obtain ⟨j, hj, e⟩ := List.getElem_of_mem hr
        rw [← e]
        exact HALL.out j hj (by rw [HN.out]; exact hj))
      clear HALL
      go_wp2_with fail
      go_ret
      exact ⟨by rw [HT.out] <;> rfl, HB.out⟩
set_option maxRecDepth 100000 in
set_option maxHeartbeats 3200000 in
theorem steps_any (st go : Int) (v : Value) (xss : List (List Int)) (w : World) (hl : xss.length ≤ 1048576) (hr : ∀ r ∈ xss, r.length ≤ 1048576) (h : IsLL w v xss) :
    Calls Try.prog 164 #[.int .i64 st, .int .i64 go, v] w fun e w' => e = .returned (.bool (stepsOk st go xss)) ∧ Below w.heap.size w w' := by
  have HB := Lib.hid ((Below.refl _ w).alloc (Nat.le_refl _) (.cells #[.int .i64 st] 2))
  have HS := Lib.hid (fun W => isOf_any go st W)
  by_cases h1 : 1 ≤ st
  · by_cases h2 : st ≤ 24
    · by_cases h3 : 0 ≤ go ∧ go < st
      · by_cases h4 : (xss.length : Int) = st
        · unfold stepsOk
          rw [decide_eq_true (show 1 ≤ st ∧ st ≤ 24 from ⟨h1, h2⟩), decide_eq_true h3, decide_eq_true h4]
          exact steps_ok st go v xss w hl hr h h1 h2 h3 h4
        · have hf : stepsOk st go xss = false := by unfold stepsOk; rw [decide_eq_false h4, Bool.false_and, Bool.and_false]
          rw [hf]
          rw [decide_eq_true h3] at HS
          have hbe : ((xss.length : Int) != st) = true := by simp [h4]
          have hd1 : decide (st < 1) = false := decide_eq_false (by omega)
          have hd2 : decide (24 < st) = false := decide_eq_false (by omega)
          clear h4
          obtain ⟨A, c, rfl, hx⟩ := h
          clear hf h3 hr hx
          generalize xss.length = N at *
          go_enter Try.func164, Try.ntmps164
          go_wp2_with fail
          refine (HS.out _).mono ?_
          rintro e w5 ⟨rfl, rfl⟩
          go_wp2_with fail
          go_ret
          exact ⟨rfl, HB.out⟩
      · have hf : stepsOk st go xss = false := by unfold stepsOk; rw [decide_eq_false h3, Bool.and_false, Bool.false_and]
        rw [hf]
        rw [decide_eq_false h3] at HS
        have hd1 : decide (st < 1) = false := decide_eq_false (by omega)
        have hd2 : decide (24 < st) = false := decide_eq_false (by omega)
        obtain ⟨A, c, rfl, hx⟩ := h
        clear hf h3 hr hx
        generalize xss.length = N at *
        go_enter Try.func164, Try.ntmps164
        go_wp2_with fail
        refine (HS.out _).mono ?_
        rintro e w5 ⟨rfl, rfl⟩
        go_wp2_with fail
        go_ret
        exact ⟨rfl, HB.out⟩
    · have hf : stepsOk st go xss = false := by unfold stepsOk; rw [decide_eq_false (fun h => h2 h.2), Bool.false_and, Bool.false_and]
      rw [hf]
      have hd1 : decide (st < 1) = false := decide_eq_false (by omega)
      have hd2 : decide (24 < st) = true := decide_eq_true (by omega)
      obtain ⟨A, c, rfl, hx⟩ := h
      clear hf hr HS hx
      generalize xss.length = N at *
      go_enter Try.func164, Try.ntmps164
      go_wp2_with fail
      go_ret
      exact ⟨rfl, HB.out⟩
  · have hf : stepsOk st go xss = false := by unfold stepsOk; rw [decide_eq_false (fun h => h1 h.1), Bool.false_and, Bool.false_and]
    rw [hf]
    have hd1 : decide (st < 1) = true := decide_eq_true (by omega)
    obtain ⟨A, c, rfl, hx⟩ := h
    clear hf hr HS hx
    generalize xss.length = N at *
    go_enter Try.func164, Try.ntmps164
    go_wp2_with fail
    go_ret
    exact ⟨rfl, HB.out⟩
end Go.Proofs.Ytaffachjopjbgaa
