/-
  Walks: spec.SameGrammar, slices.Equal at rules, impl.SameGrammar.
-/
import Derived.Test.YtjkijboljffmcaaGEqR
import Derived.Test.YtjkijboljffmcaaGramEq
namespace Go.Proofs.Ytjkijboljffmcaa
open Go.RowKit
open Wd
set_option linter.unusedVariables false

namespace Wd
/-- the rules up to a number are the same -/
def SameTo (gs hs : List Rl) (k : Nat) : Prop := gs.take k = hs.take k
theorem same_zero (gs hs : List Rl) : SameTo gs hs 0 := by simp [SameTo]
theorem same_step {gs hs : List Rl} {k : Nat} (h : SameTo gs hs k) (h1 : k < gs.length) (h2 : k < hs.length) (he : gs[k] = hs[k]) : SameTo gs hs (k + 1) := by
  unfold SameTo at *
  rw [List.take_succ_eq_append_getElem h1, List.take_succ_eq_append_getElem h2, h, he]
theorem same_all {gs hs : List Rl} {k : Nat} (h : SameTo gs hs k) (h1 : gs.length ≤ k) (h2 : hs.length ≤ k) : decide (gs = hs) = true := by
  unfold SameTo at h
  rw [List.take_of_length_le h1, List.take_of_length_le h2] at h
  exact decide_eq_true h
theorem not_same {gs hs : List Rl} {k : Nat} (h1 : k < gs.length) (h2 : k < hs.length) (he : gs[k] ≠ hs[k]) : decide (gs = hs) = false := by
  refine decide_eq_false fun h => he ?_
  subst h; rfl
theorem not_len {gs hs : List Rl} (h : gs.length ≠ hs.length) : decide (gs = hs) = false := decide_eq_false fun e => h (by rw [e])
end Wd

set_option maxRecDepth 100000 in
set_option maxHeartbeats 3200000 in
theorem sEqual_any (u v : Value) (gs hs : List Rl) (w : World) (hn : gs.length ≤ 1048576) (hn2 : hs.length ≤ 1048576) (h1 : Rules w u gs) (h2 : Rules w v hs) :
    Calls Try.prog 81 #[u, v] w fun e w' => e = .returned (.bool (decide (gs = hs))) ∧ Below w.heap.size w w' := by
  obtain ⟨A1, c1, rfl, h1⟩ := h1
  obtain ⟨A2, c2, rfl, h2⟩ := h2
  obtain ⟨n, hng⟩ : ∃ n, n = gs.length := ⟨_, rfl⟩
  obtain ⟨m, hmh⟩ : ∃ m, m = hs.length := ⟨_, rfl⟩
  rw [← hng] at hn ⊢
  rw [← hmh] at hn2 ⊢
  have HN := Lib.hid hng
  have HM := Lib.hid hmh
  have H1 := Lib.hid h1
  have H2 := Lib.hid h2
  clear h1 h2 hng hmh
  by_cases hlen : n = m
  · subst hlen
    go_enter Try.func81, Try.ntmps81
    go_wp2
    go_loopw [5, 13] (fun _ i wr => ∃ k : Nat, k ≤ n ∧ i = .int .i64 k ∧ SameTo gs hs k ∧ Below w.heap.size w wr) (fun _ i _ => n - (intOf i).toNat)
    case atStart => exact ⟨0, Nat.zero_le _, rfl, same_zero _ _, Below.refl _ _⟩
    case round =>
      obtain ⟨k, hk, rfl, hst, hB⟩ := hrel
      obtain ⟨wo, rfl⟩ : ∃ wo : World, wo = wr := ⟨_, rfl⟩
      by_cases hlt : k < n
      · have hkg : k < gs.length := by rw [← HN.out]; exact hlt
        have hkh : k < hs.length := by rw [← HM.out]; exact hlt
        rcases H1.out with hn | ⟨g1, rfl, hg1, hc1⟩
        · rw [hn] at hkg; simp at hkg
        rcases H2.out with hn | ⟨g2, rfl, hg2, hc2⟩
        · rw [hn] at hkh; simp at hkh
        obtain ⟨a0, a1, a2⟩ := rules_cells hc1 hkg
        obtain ⟨b0, b1, b2⟩ := rules_cells hc2 hkh
        rw [← hB.cell (p := ⟨g1, k * 3, none⟩) hg1] at a0
        rw [← hB.cell (p := ⟨g1, k * 3 + 1, none⟩) hg1] at a1
        rw [← hB.cell (p := ⟨g1, k * 3 + 2, none⟩) hg1] at a2
        rw [← hB.cell (p := ⟨g2, k * 3, none⟩) hg2] at b0
        rw [← hB.cell (p := ⟨g2, k * 3 + 1, none⟩) hg2] at b1
        rw [← hB.cell (p := ⟨g2, k * 3 + 2, none⟩) hg2] at b2
        have hq := fun W => rule_neq gs[k] hs[k] W
        have t1 : (0 : Int) ≤ (k : Int) := by omega
        have t2 : (k : Int) < (n : Int) := by omega
        clear hc1 hc2
        by_cases he : gs[k] = hs[k]
        · have hst2 := same_step hst hkg hkh he
          rw [eqR_iff.2 he] at hq
          have HS2 := Lib.hid hst2
          have HE := Lib.hid he
          clear hst hst2 he
          go_wp2
          go_quiet (fail)
          go_wp2
          go_roundw
          case rel => exact ⟨k + 1, by omega, by go_num, HS2.out, below_drewN hB _⟩
          case measure => simp [intOf]; omega
        · have hf := not_same hkg hkh he
          rw [eqR_other he] at hq
          have HF := Lib.hid hf
          have HE := Lib.hid he
          clear hst hf he
          go_wp2
          go_quiet (fail)
          go_wp2
          go_ret
          exact ⟨ret_bool HF.out.symm, below_drewN hB _⟩
      · have hall := same_all hst (by rw [← HN.out]; omega) (by rw [← HM.out]; omega)
        have HALL := Lib.hid hall
        clear hall hst
        go_wp2
        go_ret
        exact ⟨ret_bool HALL.out.symm, hB⟩
  · have hf := not_len (gs := gs) (hs := hs) (by rw [← HN.out, ← HM.out]; exact hlen)
    have HF := Lib.hid hf
    have hne : ((n : Int) == (m : Int)) = false := by rw [beq_eq_false_iff_ne]; omega
    have hne2 : ¬ (n : Int) = (m : Int) := by omega
    clear hf hlen
    go_enter Try.func81, Try.ntmps81
    go_wp2
    go_ret
    exact ⟨ret_bool HF.out.symm, Below.refl _ _⟩

set_option maxRecDepth 100000 in
set_option maxHeartbeats 3200000 in
theorem specSame (u v : Value) (gs hs : List Rl) (w : World) (hn : gs.length ≤ 1048576) (hn2 : hs.length ≤ 1048576) (h1 : Rules w u gs) (h2 : Rules w v hs) :
    Calls Try.prog 47 #[.agg #[u], .agg #[v]] w fun e w' => e = .returned (.bool (decide (gs = hs))) ∧ Below w.heap.size w w' := by
  obtain ⟨A1, c1, rfl, h1⟩ := h1
  obtain ⟨A2, c2, rfl, h2⟩ := h2
  obtain ⟨n, hng⟩ : ∃ n, n = gs.length := ⟨_, rfl⟩
  obtain ⟨m, hmh⟩ : ∃ m, m = hs.length := ⟨_, rfl⟩
  rw [← hng] at hn ⊢
  rw [← hmh] at hn2 ⊢
  have HN := Lib.hid hng
  have HM := Lib.hid hmh
  have H1 := Lib.hid h1
  have H2 := Lib.hid h2
  have hB0 : Below w.heap.size w ((w.alloc (.cells #[.slice A1 n c1] 65)).alloc (.cells #[.slice A2 m c2] 65)) := ((Below.refl _ w).alloc (Nat.le_refl _) _).alloc (by simp) _
  have HB0 := Lib.hid hB0
  have x1 : ((w.alloc (.cells #[.slice A1 n c1] 65)).alloc (.cells #[.slice A2 m c2] 65)).cell? ⟨w.heap.size, 0, none⟩ = some (.slice A1 n c1) := by
    rw [((Below.refl _ (w.alloc (.cells #[.slice A1 n c1] 65))).alloc (Nat.le_refl _) _).cell (p := ⟨w.heap.size, 0, none⟩) (by simp)]; exact cell_new _ _ _
  have x2 : ((w.alloc (.cells #[.slice A1 n c1] 65)).alloc (.cells #[.slice A2 m c2] 65)).cell? ⟨w.heap.size + 1, 0, none⟩ = some (.slice A2 m c2) := by
    have := cell_new (w.alloc (.cells #[.slice A1 n c1] 65)) (.slice A2 m c2) 65
    simp at this ⊢
  have HX := Lib.hid (And.intro x1 x2)
  clear h1 h2 hng hmh hB0 x1 x2
  by_cases hlen : n = m
  · subst hlen
    go_enter Try.func47, Try.ntmps47
    go_wp2
    go_loopw [5] (fun i wr => ∃ k : Nat, k ≤ n ∧ i = .int .i64 k ∧ SameTo gs hs k ∧ Below w.heap.size w wr ∧ wr.cell? ⟨w.heap.size, 0, none⟩ = some (.slice A1 n c1) ∧ wr.cell? ⟨w.heap.size + 1, 0, none⟩ = some (.slice A2 n c2)) (fun i _ => n - (intOf i).toNat)
    case atStart => exact ⟨0, Nat.zero_le _, rfl, same_zero _ _, HB0.out, HX.out.1, HX.out.2⟩
    case round =>
      obtain ⟨k, hk, rfl, hst, hB, y1, y2⟩ := hrel
      obtain ⟨wo, rfl⟩ : ∃ wo : World, wo = wr := ⟨_, rfl⟩
      by_cases hlt : k < n
      · have hkg : k < gs.length := by rw [← HN.out]; exact hlt
        have hkh : k < hs.length := by rw [← HM.out]; exact hlt
        rcases H1.out with hn | ⟨g1, rfl, hg1, hc1⟩
        · rw [hn] at hkg; simp at hkg
        rcases H2.out with hn | ⟨g2, rfl, hg2, hc2⟩
        · rw [hn] at hkh; simp at hkh
        obtain ⟨a0, a1, a2⟩ := rules_cells hc1 hkg
        obtain ⟨b0, b1, b2⟩ := rules_cells hc2 hkh
        rw [← hB.cell (p := ⟨g1, k * 3, none⟩) hg1] at a0
        rw [← hB.cell (p := ⟨g1, k * 3 + 1, none⟩) hg1] at a1
        rw [← hB.cell (p := ⟨g1, k * 3 + 2, none⟩) hg1] at a2
        rw [← hB.cell (p := ⟨g2, k * 3, none⟩) hg2] at b0
        rw [← hB.cell (p := ⟨g2, k * 3 + 1, none⟩) hg2] at b1
        rw [← hB.cell (p := ⟨g2, k * 3 + 2, none⟩) hg2] at b2
        have hq := fun W => rule_neq gs[k] hs[k] W
        have t1 : (0 : Int) ≤ (k : Int) := by omega
        have t2 : (k : Int) < (n : Int) := by omega
        clear hc1 hc2
        by_cases he : gs[k] = hs[k]
        · have hst2 := same_step hst hkg hkh he
          rw [eqR_iff.2 he] at hq
          have HS2 := Lib.hid hst2
          have HE := Lib.hid he
          clear hst hst2 he
          go_wp2
          go_quiet (fail)
          go_wp2
          go_roundw
          case rel => exact ⟨k + 1, by omega, by go_num, HS2.out, below_drewN hB _, y1, y2⟩
          case measure => simp [intOf]; omega
        · have hf := not_same hkg hkh he
          rw [eqR_other he] at hq
          have HF := Lib.hid hf
          have HE := Lib.hid he
          clear hst hf he
          go_wp2
          go_quiet (fail)
          go_wp2
          go_ret
          exact ⟨ret_bool HF.out.symm, below_drewN hB _⟩
      · have hall := same_all hst (by rw [← HN.out]; omega) (by rw [← HM.out]; omega)
        have HALL := Lib.hid hall
        clear hall hst
        go_wp2
        go_ret
        exact ⟨ret_bool HALL.out.symm, hB⟩
  · have hf := not_len (gs := gs) (hs := hs) (by rw [← HN.out, ← HM.out]; exact hlen)
    have HF := Lib.hid hf
    have hne : ((n : Int) == (m : Int)) = false := by rw [beq_eq_false_iff_ne]; omega
    have hne2 : ¬ (n : Int) = (m : Int) := by omega
    clear hf hlen
    go_enter Try.func47, Try.ntmps47
    go_wp2
    go_ret
    exact ⟨ret_bool HF.out.symm, HB0.out⟩

theorem implSame (u v : Value) (gs hs : List Rl) (w : World) (hn : gs.length ≤ 1048576) (hn2 : hs.length ≤ 1048576) (h1 : Rules w u gs) (h2 : Rules w v hs) :
    Calls Try.prog 48 #[.agg #[u], .agg #[v]] w fun e w' => e = .returned (.bool (decide (gs = hs))) ∧ Below w.heap.size w w' := by
  have hB0 : Below w.heap.size w ((w.alloc (.cells #[u] 65)).alloc (.cells #[v] 65)) := ((Below.refl _ w).alloc (Nat.le_refl _) _).alloc (by simp) _
  have h := sEqual_any u v gs hs _ hn hn2 (h1.kept hB0) (h2.kept hB0)
  obtain ⟨A1, c1, rfl, _⟩ := h1
  obtain ⟨A2, c2, rfl, _⟩ := h2
  have H := Lib.hid h
  have HB := Lib.hid hB0
  clear h hB0
  go_enter Try.func48, Try.ntmps48
  go_wp2_with fail
  refine H.out.mono ?_
  rintro e w1 ⟨rfl, hB1⟩
  have HB1 := Lib.hid (HB.out.trans (hB1.mono (by simp; omega)))
  clear hB1
  go_wp2_with fail
  go_ret
  exact ⟨rfl, HB1.out⟩
end Go.Proofs.Ytjkijboljffmcaa
