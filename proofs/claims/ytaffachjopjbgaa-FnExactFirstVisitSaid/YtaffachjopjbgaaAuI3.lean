/-
  Walk: impl.ValidAuto.
-/
import Derived.Test.YtaffachjopjbgaaAuI2
namespace Go.Proofs.Ytaffachjopjbgaa
open Go.RowKit
open Wd
set_option linter.unusedVariables false
theorem aOk_eq (x : Au) : aOk x = (stepsOk x.st x.go x.nx && risesL 0 (x.st - 1) x.fin) := by
  unfold aOk stepsOk
  rw [show (decide (0 ≤ x.go ∧ x.go ≤ x.st - 1)) = decide (0 ≤ x.go ∧ x.go < x.st) from by congr 1; rw [eq_iff_iff]; omega]
  simp only [Bool.and_assoc, Bool.and_comm, Bool.and_left_comm]
set_option maxRecDepth 100000 in
set_option maxHeartbeats 3200000 in
theorem implValidAuto (v : Value) (x : Au) (w : World) (hf : FewA x) (h : IsAu w v x) :
    Calls Try.prog 107 #[v] w fun e w' => e = .returned (.bool (aOk x)) ∧ Below w.heap.size w w' := by
  rw [aOk_eq]
  obtain ⟨f, n, rfl, hF, hN⟩ := h
  obtain ⟨st, go, fin, nx⟩ := x
  simp only at hF hN ⊢
  have hf1 := hf.fin
  have hf2 := hf.nx
  have hf3 := hf.row
  simp only at hf1 hf2 hf3
  have hb := (Below.refl _ w).alloc (Nat.le_refl _) (.cells #[.int .i64 st, .int .i64 go, f, n] 33)
  have hP := heap_alloc_new w (.cells #[.int .i64 st, .int .i64 go, f, n] 33)
  have HS := Lib.hid (steps_any st go n nx _ hf2 hf3 (hN.kept hb))
  obtain ⟨A, c, rfl, hin⟩ := hF
  obtain ⟨An, cn, rfl, _⟩ := hN
  have HB := Lib.hid hb
  have HP := Lib.hid hP
  have HI := Lib.hid hin
  have HW := Lib.hid (show w.heap.size < (w.alloc (.cells #[.int .i64 st, .int .i64 go, .slice A fin.length c, .slice An nx.length cn] 33)).heap.size by simp)
  clear hb hP hin hf
  cases hs : stepsOk st go nx
  · rw [hs] at HS
    rw [Bool.false_and]
    clear hs
    go_enter Try.func107, Try.ntmps107
    go_wp2_with fail
    refine HS.out.mono ?_
    rintro e w1 ⟨rfl, hB1⟩
    have HB1 := Lib.hid (HB.out.trans (hB1.mono (by simp)))
    clear hB1
    go_wp2_with fail
    go_ret
    exact ⟨rfl, HB1.out⟩
  · rw [hs] at HS
    rw [Bool.true_and]
    have hst : 1 ≤ st ∧ st ≤ 24 := by
      unfold stepsOk at hs
      rw [Bool.and_eq_true, Bool.and_eq_true, decide_eq_true_iff] at hs
      exact hs.1.1
    obtain ⟨hst1, hst2⟩ := hst
    clear hs
    obtain ⟨N, hN⟩ : ∃ N, N = fin.length := ⟨_, rfl⟩
    rw [← hN] at hf1 HB HP HS HW ⊢
    have HN := Lib.hid hN
    clear hN
    go_enter Try.func107, Try.ntmps107
    go_wp2_with fail
    refine HS.out.mono ?_
    rintro e w1 ⟨rfl, hB1⟩
    have HB1 := Lib.hid (HB.out.trans (hB1.mono (by simp)))
    have hP1 := (hB1.block w.heap.size HW.out).trans HP.out
    obtain ⟨⟨p0, p1, p2, p3⟩, _⟩ := blk4_cells hP1
    have HI1 : Hid (fin = [] ∨ ∃ a, A = some a ∧ ∀ j (hj : j < fin.length), w1.cell? (a.add j) = some (.int .i64 fin[j])) := Lib.hid (by
      rcases HI.out with h | ⟨a, h1, h2⟩
      · exact .inl h
      · exact .inr ⟨a, h1, fun j hj => (HB1.out.cell (lt_of_cell (h2 j hj))).trans (h2 j hj)⟩)
    clear hB1 hP1 HB HP HI HS HW
    go_wp2_with fail
    obtain ⟨P, hPe⟩ : ∃ P, P = w.heap.size := ⟨_, rfl⟩
    rw [← hPe] at p0 p1 p2 p3 ⊢
    clear hPe
    go_loopw [16] (fun i wr => ∃ k : Nat, k ≤ N ∧ i = .int .i64 k ∧ (∀ j, j < k → goodAt 0 (st - 1) fin j) ∧ wr = w1) (fun i _ => N - (intOf i).toNat)
    case atStart => exact ⟨0, Nat.zero_le _, rfl, fun j hj => by omega, rfl⟩
    case round =>
      obtain ⟨k, hk, rfl, hgood, rfl⟩ := hrel
      have HG := Lib.hid hgood
      clear hgood
      by_cases hlt : k < N
      · have hkg : k < fin.length := by rw [← HN.out]; exact hlt
        rcases HI1.out with hn | ⟨x, rfl, hc⟩
        · rw [hn] at hkg; simp at hkg
        have c0 := hc k hkg
        rw [show fin[k] = fin.getD k 0 from by rw [List.getD_eq_getElem?_getD, List.getElem?_eq_getElem hkg]; rfl] at c0
        have HBAD : Hid (¬ goodAt 0 (st - 1) fin k → risesL 0 (st - 1) fin = false) := Lib.hid (fun h => decide_eq_false (fun h' => h (h' k hkg)))
        have HNEXT : Hid (goodAt 0 (st - 1) fin k → ∀ j, j < k + 1 → goodAt 0 (st - 1) fin j) := Lib.hid (fun h j hj => by
          by_cases e : j = k
          · subst e; exact h
          · exact HG.out j (by omega))
        have HOF := Lib.hid (fun W => isOf_any (fin.getD k 0) st W)
        by_cases hb : 0 ≤ fin.getD k 0 ∧ fin.getD k 0 < st
        · rw [decide_eq_true hb] at HOF
          by_cases h0 : 0 < k
          · obtain ⟨m, hm⟩ : ∃ m, k = m + 1 := ⟨k - 1, by omega⟩
            have d1 := hc m (by omega)
            rw [show fin[m]'(by omega) = fin.getD m 0 from by rw [List.getD_eq_getElem?_getD, List.getElem?_eq_getElem (by omega)]; rfl] at d1
            have hm0 : (0 : Int) ≤ (m : Int) := by omega
            have hm1 : (m : Int) < (N : Int) := by omega
            have hsub : IntKind.i64.wrap ((k : Int) - 1) = (m : Int) := by rw [IntKind.wrap_i64]; omega
            have hgt : decide ((0 : Int) < (k : Int)) = true := decide_eq_true (by omega)
            have hgt2 : decide (0 < k) = true := decide_eq_true (by omega)
            have HB0 := Lib.hid hb
            have HM := Lib.hid hm
            clear hb h0 hm hc hkg
            generalize hz : fin.getD k 0 = z at *
            generalize hy : fin.getD m 0 = y at *
            have HZ := Lib.hid (And.intro hz hy)
            clear hz hy
            by_cases hle : z ≤ y
            · have hge : decide (z ≤ y) = true := decide_eq_true hle
              have HFIN : Hid (risesL 0 (st - 1) fin = false) := Lib.hid (HBAD.out (fun h => by
                have hm := HM.out
                have := h.2 (by omega)
                rw [show k - 1 = m from by omega, HZ.out.1, HZ.out.2] at this
                omega))
              clear HBAD HNEXT HG
              go_wp2_with fail
              refine (HOF.out _).mono ?_
              rintro e w5 ⟨rfl, rfl⟩
              go_wp2_with fail
              go_ret
              exact ⟨by rw [HFIN.out] <;> rfl, HB1.out⟩
            · have hge : decide (z ≤ y) = false := decide_eq_false hle
              have HOKK := Lib.hid (HNEXT.out ⟨by rw [HZ.out.1]; have := HB0.out; omega, fun _ => by rw [show k - 1 = m from by have := HM.out; omega, HZ.out.1, HZ.out.2]; omega⟩)
              clear HBAD HNEXT HG
              go_wp2_with fail
              refine (HOF.out _).mono ?_
              rintro e w5 ⟨rfl, rfl⟩
              go_wp2_with fail
              go_roundw
              all_goals first | exact ⟨k + 1, by omega, by go_num, HOKK.out, by first | rfl | trivial⟩ | ((repeat apply Exists.intro); exact ⟨⟨k + 1, by omega, by go_num, HOKK.out, by first | rfl | trivial⟩, by first | rfl | trivial⟩) | (simp [intOf]; done) | (simp [intOf]; omega) | omega
          · have HOKK := Lib.hid (HNEXT.out ⟨by omega, fun h => absurd h h0⟩)
            have hgt : decide ((0 : Int) < (k : Int)) = false := decide_eq_false (by omega)
            have hgt2 : decide (0 < k) = false := decide_eq_false (by omega)
            clear hb h0 HBAD HNEXT HG hc hkg
            generalize fin.getD k 0 = z at *
            go_wp2_with fail
            refine (HOF.out _).mono ?_
            rintro e w5 ⟨rfl, rfl⟩
            go_wp2_with fail
            go_roundw
            all_goals first | exact ⟨k + 1, by omega, by go_num, HOKK.out, by first | rfl | trivial⟩ | ((repeat apply Exists.intro); exact ⟨⟨k + 1, by omega, by go_num, HOKK.out, by first | rfl | trivial⟩, by first | rfl | trivial⟩) | (simp [intOf]; done) | (simp [intOf]; omega) | omega
        · rw [decide_eq_false hb] at HOF
          have HFIN := Lib.hid (HBAD.out (fun h => hb ⟨h.1.1, by have := h.1.2; omega⟩))
          clear hb HBAD HNEXT HG hc hkg
          generalize fin.getD k 0 = z at *
          go_wp2_with fail
          refine (HOF.out _).mono ?_
          rintro e w5 ⟨rfl, rfl⟩
          go_wp2_with fail
          go_ret
          exact ⟨by rw [HFIN.out] <;> rfl, HB1.out⟩
      · obtain rfl : k = N := by omega
        have HFIN : Hid (risesL 0 (st - 1) fin = true) := Lib.hid (decide_eq_true (fun j hj => HG.out j (by rw [HN.out]; exact hj)))
        clear HG
        go_wp2_with fail
        go_ret
        exact ⟨by rw [HFIN.out] <;> rfl, HB1.out⟩
end Go.Proofs.Ytaffachjopjbgaa
