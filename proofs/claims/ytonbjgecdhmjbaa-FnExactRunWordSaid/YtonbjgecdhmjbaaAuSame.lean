/-
  Walks: spec.l00Same, slices.Equal: two rows of numbers.
-/
import Derived.Test.YtonbjgecdhmjbaaAuEq
import Derived.BigQuiet
namespace Go.Proofs.Ytonbjgecdhmjbaa
open Go.RowKit
open Wd
set_option linter.unusedVariables false
set_option maxRecDepth 100000 in
set_option maxHeartbeats 1600000 in
theorem sameS_eq (u v : Value) (zs ys : List Int) (w : World) (hn : zs.length ≤ 1048576) (hlen : zs.length = ys.length) (h1 : IsL w u zs) (h2 : IsL w v ys) :
    Calls Try.prog 109 #[u, v] w fun e w' => e = .returned (.bool (decide (zs = ys))) ∧ Drawn w w' := by
  obtain ⟨A1, c1, rfl, h1⟩ := h1
  obtain ⟨A2, c2, rfl, h2⟩ := h2
  obtain ⟨n, hng⟩ : ∃ n, n = zs.length := ⟨_, rfl⟩
  rw [← hlen, ← hng]
  rw [← hng] at hn
  have HN := Lib.hid hng
  have HL := Lib.hid hlen
  have H1 := Lib.hid h1
  have H2 := Lib.hid h2
  clear h1 h2 hng hlen
  go_enter Try.func109, Try.ntmps109
  go_wp2_with fail
  go_loopw [5] (fun i wr => ∃ k : Nat, k ≤ n ∧ i = .int .i64 k ∧ (∀ j, j < k → zs.getD j 0 = ys.getD j 0) ∧ Drawn w wr) (fun i _ => n - (intOf i).toNat)
  case atStart => exact ⟨0, Nat.zero_le _, rfl, fun j hj => by omega, Drawn.refl _⟩
  case round =>
    obtain ⟨k, hk, rfl, hall, hD⟩ := hrel
    obtain ⟨wo, rfl⟩ : ∃ wo : World, wo = wr := ⟨_, rfl⟩
    have HA := Lib.hid hall
    have HD := Lib.hid hD
    clear hall
    by_cases hlt : k < n
    · have hkg : k < zs.length := by rw [← HN.out]; exact hlt
      have hkg2 : k < ys.length := by rw [← HL.out]; exact hkg
      rcases H1.out with hn | ⟨x, rfl, hc1⟩
      · rw [hn] at hkg; simp at hkg
      rcases H2.out with hn | ⟨y, rfl, hc2⟩
      · rw [hn] at hkg2; simp at hkg2
      have a0 : wo.cell? (x.add k) = some (.int .i64 (zs.getD k 0)) := by
        obtain ⟨m, rfl⟩ := hD
        rw [List.getD_eq_getElem?_getD, List.getElem?_eq_getElem hkg]
        exact hc1 k hkg
      have b0 : wo.cell? (y.add k) = some (.int .i64 (ys.getD k 0)) := by
        obtain ⟨m, rfl⟩ := hD
        rw [List.getD_eq_getElem?_getD, List.getElem?_eq_getElem hkg2]
        exact hc2 k hkg2
      have HBAD : Hid (¬ zs.getD k 0 = ys.getD k 0 → decide (zs = ys) = false) := Lib.hid (fun h => decide_eq_false (fun e => h (by rw [e])))
      have HNX : Hid (zs.getD k 0 = ys.getD k 0 → ∀ j, j < k + 1 → zs.getD j 0 = ys.getD j 0) := Lib.hid (fun h j hj => by
        by_cases e : j = k
        · subst e; exact h
        · exact HA.out j (by omega))
      have hk0 : (0 : Int) ≤ (k : Int) := by omega
      have hk1 : (k : Int) < (n : Int) := by omega
      clear hc1 hc2 hD hkg hkg2
      generalize zs.getD k 0 = z at *
      generalize ys.getD k 0 = t at *
      by_cases he : z = t
      · have hne : (z != t) = false := by simp [he]
        have HO := Lib.hid (HNX.out he)
        clear he HBAD HNX HA
        go_wp2_with fail
        go_quiet (fail)
        go_wp2_with fail
        go_roundw
        all_goals first | exact ⟨k + 1, by omega, by go_num, HO.out, HD.out.drewN _⟩ | ((repeat apply Exists.intro); exact ⟨⟨k + 1, by omega, by go_num, HO.out, HD.out.drewN _⟩, rfl⟩) | (simp [intOf]; done) | (simp [intOf]; omega) | omega
      · have hne : (z != t) = true := by simp [he]
        have HO := Lib.hid (HBAD.out he)
        clear he HBAD HNX HA
        go_wp2_with fail
        go_quiet (fail)
        go_wp2_with fail
        go_ret
        exact ⟨by rw [HO.out] <;> rfl, HD.out.drewN _⟩
    · obtain rfl : k = n := by omega
      have HT : Hid (decide (zs = ys) = true) := Lib.hid (decide_eq_true (List.ext_getElem HL.out (fun j h1 h2 => by
        have := HA.out j (by rw [HN.out]; exact h1)
        rwa [List.getD_eq_getElem?_getD, List.getD_eq_getElem?_getD, List.getElem?_eq_getElem h1, List.getElem?_eq_getElem h2] at this)))
      clear HA
      go_wp2_with fail
      go_ret
      exact ⟨by rw [HT.out] <;> rfl, HD.out⟩
set_option maxRecDepth 100000 in
set_option maxHeartbeats 1600000 in
theorem sameS_any (u v : Value) (zs ys : List Int) (w : World) (hn : zs.length ≤ 1048576) (hn2 : ys.length ≤ 1048576) (h1 : IsL w u zs) (h2 : IsL w v ys) :
    Calls Try.prog 109 #[u, v] w fun e w' => e = .returned (.bool (decide (zs = ys))) ∧ Drawn w w' := by
  by_cases hlen : zs.length = ys.length
  · exact sameS_eq u v zs ys w hn hlen h1 h2
  · rw [decide_eq_false (fun e => hlen (by rw [e]))]
    obtain ⟨A1, c1, rfl, hx1⟩ := h1
    obtain ⟨A2, c2, rfl, hx2⟩ := h2
    clear hx1 hx2
    generalize zs.length = n at *
    generalize ys.length = m at *
    have hne : ((n : Int) != (m : Int)) = true := by simp; omega
    clear hlen
    go_enter Try.func109, Try.ntmps109
    go_wp2_with fail
    go_ret
    exact ⟨rfl, Drawn.refl _⟩
set_option maxRecDepth 100000 in
set_option maxHeartbeats 1600000 in
theorem sameE_eq (u v : Value) (zs ys : List Int) (w : World) (hn : zs.length ≤ 1048576) (hlen : zs.length = ys.length) (h1 : IsL w u zs) (h2 : IsL w v ys) :
    Calls Try.prog 111 #[u, v] w fun e w' => e = .returned (.bool (decide (zs = ys))) ∧ Drawn w w' := by
  obtain ⟨A1, c1, rfl, h1⟩ := h1
  obtain ⟨A2, c2, rfl, h2⟩ := h2
  obtain ⟨n, hng⟩ : ∃ n, n = zs.length := ⟨_, rfl⟩
  rw [← hlen, ← hng]
  rw [← hng] at hn
  have HN := Lib.hid hng
  have HL := Lib.hid hlen
  have H1 := Lib.hid h1
  have H2 := Lib.hid h2
  clear h1 h2 hng hlen
  go_enter Try.func111, Try.ntmps111
  go_wp2_with fail
  go_loopw [13] (fun i wr => ∃ k : Nat, k ≤ n ∧ i = .int .i64 k ∧ (∀ j, j < k → zs.getD j 0 = ys.getD j 0) ∧ Drawn w wr) (fun i _ => n - (intOf i).toNat)
  case atStart => exact ⟨0, Nat.zero_le _, rfl, fun j hj => by omega, Drawn.refl _⟩
  case round =>
    obtain ⟨k, hk, rfl, hall, hD⟩ := hrel
    obtain ⟨wo, rfl⟩ : ∃ wo : World, wo = wr := ⟨_, rfl⟩
    have HA := Lib.hid hall
    have HD := Lib.hid hD
    clear hall
    by_cases hlt : k < n
    · have hkg : k < zs.length := by rw [← HN.out]; exact hlt
      have hkg2 : k < ys.length := by rw [← HL.out]; exact hkg
      rcases H1.out with hn | ⟨x, rfl, hc1⟩
      · rw [hn] at hkg; simp at hkg
      rcases H2.out with hn | ⟨y, rfl, hc2⟩
      · rw [hn] at hkg2; simp at hkg2
      have a0 : wo.cell? (x.add k) = some (.int .i64 (zs.getD k 0)) := by
        obtain ⟨m, rfl⟩ := hD
        rw [List.getD_eq_getElem?_getD, List.getElem?_eq_getElem hkg]
        exact hc1 k hkg
      have b0 : wo.cell? (y.add k) = some (.int .i64 (ys.getD k 0)) := by
        obtain ⟨m, rfl⟩ := hD
        rw [List.getD_eq_getElem?_getD, List.getElem?_eq_getElem hkg2]
        exact hc2 k hkg2
      have HBAD : Hid (¬ zs.getD k 0 = ys.getD k 0 → decide (zs = ys) = false) := Lib.hid (fun h => decide_eq_false (fun e => h (by rw [e])))
      have HNX : Hid (zs.getD k 0 = ys.getD k 0 → ∀ j, j < k + 1 → zs.getD j 0 = ys.getD j 0) := Lib.hid (fun h j hj => by
        by_cases e : j = k
        · subst e; exact h
        · exact HA.out j (by omega))
      have hk0 : (0 : Int) ≤ (k : Int) := by omega
      have hk1 : (k : Int) < (n : Int) := by omega
      clear hc1 hc2 hD hkg hkg2
      generalize zs.getD k 0 = z at *
      generalize ys.getD k 0 = t at *
      by_cases he : z = t
      · have hne : (z != t) = false := by simp [he]
        have HO := Lib.hid (HNX.out he)
        clear he HBAD HNX HA
        go_wp2_with fail
        go_quiet (fail)
        go_wp2_with fail
        go_roundw
        all_goals first | exact ⟨k + 1, by omega, by go_num, HO.out, HD.out.drewN _⟩ | ((repeat apply Exists.intro); exact ⟨⟨k + 1, by omega, by go_num, HO.out, HD.out.drewN _⟩, rfl⟩) | (simp [intOf]; done) | (simp [intOf]; omega) | omega
      · have hne : (z != t) = true := by simp [he]
        have HO := Lib.hid (HBAD.out he)
        clear he HBAD HNX HA
        go_wp2_with fail
        go_quiet (fail)
        go_wp2_with fail
        go_ret
        exact ⟨by rw [HO.out] <;> rfl, HD.out.drewN _⟩
    · obtain rfl : k = n := by omega
      have HT : Hid (decide (zs = ys) = true) := Lib.hid (decide_eq_true (List.ext_getElem HL.out (fun j h1 h2 => by
        have := HA.out j (by rw [HN.out]; exact h1)
        rwa [List.getD_eq_getElem?_getD, List.getD_eq_getElem?_getD, List.getElem?_eq_getElem h1, List.getElem?_eq_getElem h2] at this)))
      clear HA
      go_wp2_with fail
      go_ret
      exact ⟨by rw [HT.out] <;> rfl, HD.out⟩
set_option maxRecDepth 100000 in
set_option maxHeartbeats 1600000 in
theorem sameE_any (u v : Value) (zs ys : List Int) (w : World) (hn : zs.length ≤ 1048576) (hn2 : ys.length ≤ 1048576) (h1 : IsL w u zs) (h2 : IsL w v ys) :
    Calls Try.prog 111 #[u, v] w fun e w' => e = .returned (.bool (decide (zs = ys))) ∧ Drawn w w' := by
  by_cases hlen : zs.length = ys.length
  · exact sameE_eq u v zs ys w hn hlen h1 h2
  · rw [decide_eq_false (fun e => hlen (by rw [e]))]
    obtain ⟨A1, c1, rfl, hx1⟩ := h1
    obtain ⟨A2, c2, rfl, hx2⟩ := h2
    clear hx1 hx2
    generalize zs.length = n at *
    generalize ys.length = m at *
    have hne : ((n : Int) != (m : Int)) = true := by simp; omega
    clear hlen
    go_enter Try.func111, Try.ntmps111
    go_wp2_with fail
    go_ret
    exact ⟨rfl, Drawn.refl _⟩
end Go.Proofs.Ytonbjgecdhmjbaa
