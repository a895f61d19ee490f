/-
  Walks: spec.SameFactors, impl.SameFactors. (Turned from XGSame by facsame.py.)
-/
import Derived.Test.YtlkjceolddccbaaFaSame
namespace Go.Proofs.Ytlkjceolddccbaa
open Go.RowKit
open Wd
set_option linter.unusedVariables false

set_option maxRecDepth 100000 in
set_option maxHeartbeats 3200000 in
theorem specSameFactors (u v : Value) (gs hs : List Rl) (w : World) (hn : gs.length ≤ 1048576) (hn2 : hs.length ≤ 1048576) (h1 : Rules w u gs) (h2 : Rules w v hs) :
    Calls Try.prog 31 #[u, v] w fun e w' => e = .returned (.bool (decide (gs = hs))) ∧ Below w.heap.size w w' := by
  obtain ⟨A1, c1, rfl, h1⟩ := h1
  obtain ⟨A2, c2, rfl, h2⟩ := h2
  obtain ⟨n, hng⟩ : ∃ n, n = gs.length := ⟨_, rfl⟩
  obtain ⟨m, hmh⟩ : ∃ m, m = hs.length := ⟨_, rfl⟩
  rw [← hng] at hn ⊢
  rw [← hmh] at hn2 ⊢
  have HN := Lib.hid hng
  have HM := Lib.hid hmh
  have H1 := Lib.hid h1
  have H2 := Lib.hid h2
  clear h1 h2 hng hmh
  by_cases hlen : n = m
  · subst hlen
    go_enter Try.func31, Try.ntmps31
    go_wp2
    go_loopw [5] (fun i wr => ∃ k : Nat, k ≤ n ∧ i = .int .i64 k ∧ SameTo gs hs k ∧ Below w.heap.size w wr) (fun i _ => n - (intOf i).toNat)
    case atStart => exact ⟨0, Nat.zero_le _, rfl, same_zero _ _, Below.refl _ _⟩
    case round =>
      obtain ⟨k, hk, rfl, hst, hB⟩ := hrel
      obtain ⟨wo, rfl⟩ : ∃ wo : World, wo = wr := ⟨_, rfl⟩
      by_cases hlt : k < n
      · have hkg : k < gs.length := by rw [← HN.out]; exact hlt
        have hkh : k < hs.length := by rw [← HM.out]; exact hlt
        rcases H1.out with hn | ⟨g1, rfl, hg1, hc1⟩
        · rw [hn] at hkg; simp at hkg
        rcases H2.out with hn | ⟨g2, rfl, hg2, hc2⟩
        · rw [hn] at hkh; simp at hkh
        obtain ⟨a0, a1, a2⟩ := rules_cells hc1 hkg
        obtain ⟨b0, b1, b2⟩ := rules_cells hc2 hkh
        rw [← hB.cell (p := ⟨g1, k * 3, none⟩) hg1] at a0
        rw [← hB.cell (p := ⟨g1, k * 3 + 1, none⟩) hg1] at a1
        rw [← hB.cell (p := ⟨g1, k * 3 + 2, none⟩) hg1] at a2
        rw [← hB.cell (p := ⟨g2, k * 3, none⟩) hg2] at b0
        rw [← hB.cell (p := ⟨g2, k * 3 + 1, none⟩) hg2] at b1
        rw [← hB.cell (p := ⟨g2, k * 3 + 2, none⟩) hg2] at b2
        have hq := fun W => fac_neq gs[k] hs[k] W
        have t1 : (0 : Int) ≤ (k : Int) := by omega
        have t2 : (k : Int) < (n : Int) := by omega
        clear hc1 hc2
        by_cases he : gs[k] = hs[k]
        · have hst2 := same_step hst hkg hkh he
          rw [eqR_iff.2 he] at hq
          have HS2 := Lib.hid hst2
          have HE := Lib.hid he
          clear hst hst2 he
          go_wp2
          go_quiet (fail)
          go_wp2
          go_roundw
          case rel => exact ⟨k + 1, by omega, by go_num, HS2.out, below_drewN hB _⟩
          case measure => simp [intOf]; omega
        · have hf := not_same hkg hkh he
          rw [eqR_other he] at hq
          have HF := Lib.hid hf
          have HE := Lib.hid he
          clear hst hf he
          go_wp2
          go_quiet (fail)
          go_wp2
          go_ret
          exact ⟨ret_bool HF.out.symm, below_drewN hB _⟩
      · have hall := same_all hst (by rw [← HN.out]; omega) (by rw [← HM.out]; omega)
        have HALL := Lib.hid hall
        clear hall hst
        go_wp2
        go_ret
        exact ⟨ret_bool HALL.out.symm, hB⟩
  · have hf := not_len (gs := gs) (hs := hs) (by rw [← HN.out, ← HM.out]; exact hlen)
    have HF := Lib.hid hf
    have hne : ((n : Int) == (m : Int)) = false := by rw [beq_eq_false_iff_ne]; omega
    have hne2 : ¬ (n : Int) = (m : Int) := by omega
    clear hf hlen
    go_enter Try.func31, Try.ntmps31
    go_wp2
    go_ret
    exact ⟨ret_bool HF.out.symm, Below.refl _ _⟩


theorem implSameFactors (u v : Value) (gs hs : List Rl) (w : World) (hn : gs.length ≤ 1048576) (hn2 : hs.length ≤ 1048576) (h1 : Rules w u gs) (h2 : Rules w v hs) :
    Calls Try.prog 32 #[u, v] w fun e w' => e = .returned (.bool (decide (gs = hs))) ∧ Below w.heap.size w w' := by
  have h := sEqualF_any u v gs hs _ hn hn2 h1 h2
  obtain ⟨A1, c1, rfl, _⟩ := h1
  obtain ⟨A2, c2, rfl, _⟩ := h2
  have H := Lib.hid h
  clear h
  go_enter Try.func32, Try.ntmps32
  go_wp2_with fail
  refine H.out.mono ?_
  rintro e w1 ⟨rfl, hB1⟩
  go_wp2_with fail
  go_ret
  exact ⟨rfl, hB1⟩
end Go.Proofs.Ytlkjceolddccbaa
