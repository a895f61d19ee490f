/-
  Walk: impl.ValidCoder.
-/
import Derived.Test.YtddjcgaejjldbaaCoI
namespace Go.Proofs.Ytddjcgaejjldbaa
open Go.RowKit
open Wd
set_option linter.unusedVariables false
theorem cOk_eq (x : Co) : cOk x = (stepsOk x.st x.go x.nx && (decide ((x.ou.length : Int) = x.st) && x.ou.all orowOk)) := by
  unfold cOk stepsOk
  rw [show (decide (0 ≤ x.go ∧ x.go ≤ x.st - 1)) = decide (0 ≤ x.go ∧ x.go < x.st) from by congr 1; rw [eq_iff_iff]; omega]
  simp only [Bool.and_assoc, Bool.and_comm, Bool.and_left_comm]
set_option maxRecDepth 100000 in
set_option maxHeartbeats 3200000 in
theorem implValidCoder (v : Value) (x : Co) (w : World) (hf : FewC x) (h : IsCo w v x) :
    Calls Try.prog 18 #[v] w fun e w' => e = .returned (.bool (cOk x)) ∧ Below w.heap.size w w' := by
  rw [cOk_eq]
  obtain ⟨n, o, rfl, hN, hO⟩ := h
  obtain ⟨st, go, nx, ou⟩ := x
  simp only at hN hO ⊢
  have hf1 := hf.nx
  have hf2 := hf.row
  have hf3 := hf.ou
  have hf4 := hf.orow
  have hf5 := hf.txt
  simp only at hf1 hf2 hf3 hf4 hf5
  have hb := (Below.refl _ w).alloc (Nat.le_refl _) (.cells #[.int .i64 st, .int .i64 go, n, o] 28)
  have hP := heap_alloc_new w (.cells #[.int .i64 st, .int .i64 go, n, o] 28)
  have HS := Lib.hid (steps_any st go n nx _ hf1 hf2 (hN.kept hb))
  have HOK := Lib.hid (fun W (h : Below w.heap.size w W) => hO.kept h)
  obtain ⟨An, cn, rfl, hx⟩ := hN
  obtain ⟨A, c, rfl, hin⟩ := hO
  have HB := Lib.hid hb
  have HP := Lib.hid hP
  have HW := Lib.hid (show w.heap.size < (w.alloc (.cells #[.int .i64 st, .int .i64 go, .slice An nx.length cn, .slice A ou.length c] 28)).heap.size by simp)
  clear hb hP hin hf hx
  cases hs : stepsOk st go nx
  · rw [hs] at HS
    rw [Bool.false_and]
    clear hs
    go_enter Try.func18, Try.ntmps18
    go_wp2_with fail
    refine HS.out.mono ?_
    rintro e w1 ⟨rfl, hB1⟩
    have HB1 := Lib.hid (HB.out.trans (hB1.mono (by simp)))
    clear hB1
    go_wp2_with fail
    go_ret
    exact ⟨rfl, HB1.out⟩
  · rw [hs] at HS
    rw [Bool.true_and]
    clear hs
    obtain ⟨N, hN⟩ : ∃ N, N = ou.length := ⟨_, rfl⟩
    have HN := Lib.hid hN
    by_cases h4 : (ou.length : Int) = st
    · rw [decide_eq_true h4, Bool.true_and]
      rw [← hN] at hf3 HB HP HS HW HOK h4 ⊢
      have hbe : ((N : Int) != st) = false := by simp [h4]
      clear h4 hN
      go_enter Try.func18, Try.ntmps18
      go_wp2_with fail
      refine HS.out.mono ?_
      rintro e w1 ⟨rfl, hB1⟩
      have HB1 := Lib.hid (HB.out.trans (hB1.mono (by simp)))
      have hP1 := (hB1.block w.heap.size HW.out).trans HP.out
      obtain ⟨⟨p0, p1, p2, p3⟩, _⟩ := blk4_cells hP1
      have HO1 := Lib.hid (HOK.out w1 HB1.out)
      clear hB1 hP1 HB HP HS HW HOK
      go_wp2_with fail
      clear p0 p1 p2 p3 hbe
      go_loopw [25] (fun i wr => ∃ k : Nat, k ≤ N ∧ i = .int .i64 k ∧ (∀ j (hj : j < ou.length), j < k → orowOk ou[j] = true) ∧ wr = w1) (fun i _ => N - (intOf i).toNat)
      case atStart => exact ⟨0, Nat.zero_le _, rfl, fun j hj h => by omega, rfl⟩
      case round =>
        obtain ⟨k, hk, rfl, hall, rfl⟩ := hrel
        have HALL := Lib.hid hall
        clear hall
        by_cases hlt : k < N
        · have hkg : k < ou.length := by rw [← HN.out]; exact hlt
          obtain ⟨Ax, cx, hvx, hcx⟩ := HO1.out
          injection hvx with hvA hvn hvc
          subst hvA hvc
          rcases hcx with hn | ⟨x, rfl, hc⟩
          · rw [hn] at hkg; simp at hkg
          obtain ⟨u, c0, hrow⟩ := hc k hkg
          have HC := Lib.hid (containsG_any u ou[k] _ (hf4 _ (List.getElem_mem hkg)) (hf5 _ (List.getElem_mem hkg)) hrow)
          have HBAD : Hid (orowOk ou[k] = false → ou.all orowOk = false) := Lib.hid (fun h => by
            rw [List.all_eq_false]
            exact ⟨ou[k], List.getElem_mem hkg, by rw [h]; decide⟩)
          have HGOOD : Hid (orowOk ou[k] = true → ∀ j (hj : j < ou.length), j < k + 1 → orowOk ou[j] = true) := Lib.hid (fun h j hj hjk => by
            by_cases e : j = k
            · subst e; exact h
            · exact HALL.out j hj (by omega))
          generalize ou[k] = r at *
          obtain ⟨A2, c2, rfl⟩ := hrow.shape
          obtain ⟨m, hm'⟩ : ∃ m, m = r.length := ⟨_, rfl⟩
          rw [← hm'] at c0 HC
          have HM := Lib.hid hm'
          clear hrow hc hm' hvn
          by_cases h4 : m = 4
          · subst h4
            cases ha : r.all outOk
            · rw [ha] at HC
              have HF := Lib.hid (HBAD.out (by unfold orowOk; rw [ha, Bool.and_false]))
              clear ha HBAD HGOOD HALL
              go_wp2_with fail
              refine HC.out.mono ?_
              rintro e w5 ⟨rfl, rfl⟩
              go_wp2_with fail
              go_ret
              exact ⟨by rw [HF.out] <;> rfl, HB1.out⟩
            · rw [ha] at HC
              have HNX := Lib.hid (HGOOD.out (by unfold orowOk; rw [ha, ← HM.out]; rfl))
              clear ha HBAD HGOOD HALL
              go_wp2_with fail
              refine HC.out.mono ?_
              rintro e w5 ⟨rfl, rfl⟩
              go_wp2_with fail
              go_roundw
              all_goals first | exact ⟨k + 1, by omega, by go_num, HNX.out, by first | rfl | trivial⟩ | ((repeat apply Exists.intro); exact ⟨⟨k + 1, by omega, by go_num, HNX.out, by first | rfl | trivial⟩, by first | rfl | trivial⟩) | (simp [intOf]; done) | (simp [intOf]; omega) | omega
          · have hne : ¬ (m : Int) = 4 := by omega
            have HF := Lib.hid (HBAD.out (by unfold orowOk; rw [← HM.out, decide_eq_false h4]; rfl))
            clear HBAD HGOOD HALL HC
            go_wp2_with fail
            go_ret
            exact ⟨by rw [HF.out] <;> rfl, HB1.out⟩
        · obtain rfl : k = N := by omega
          have HT : Hid (ou.all orowOk = true) := Lib.hid (by
            rw [List.all_eq_true]
            intro r hr
            obtain ⟨j, hj, e⟩ := List.getElem_of_mem hr
            rw [← e]
            exact HALL.out j hj (by rw [HN.out]; exact hj))
          clear HALL
          go_wp2_with fail
          go_ret
          exact ⟨by rw [HT.out] <;> rfl, HB1.out⟩
    · rw [decide_eq_false h4, Bool.false_and]
      rw [← hN] at HB HP HS HW h4 ⊢
      have hbe : ((N : Int) != st) = true := by simp [h4]
      clear h4 hN hf3 hf4 hf5 HOK
      go_enter Try.func18, Try.ntmps18
      go_wp2_with fail
      refine HS.out.mono ?_
      rintro e w1 ⟨rfl, hB1⟩
      have HB1 := Lib.hid (HB.out.trans (hB1.mono (by simp)))
      have hP1 := (hB1.block w.heap.size HW.out).trans HP.out
      obtain ⟨⟨p0, p1, p2, p3⟩, _⟩ := blk4_cells hP1
      clear hB1 hP1 HB HP HS HW
      go_wp2_with fail
      go_ret
      exact ⟨rfl, HB1.out⟩
end Go.Proofs.Ytddjcgaejjldbaa
