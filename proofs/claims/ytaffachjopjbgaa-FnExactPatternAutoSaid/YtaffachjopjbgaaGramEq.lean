/-
  Walks: laws.eqRule, eqRuleS, eqGrammar at grammars with the same rules.
-/
import Derived.Test.YtaffachjopjbgaaGramTo
import Derived.StillTailTactics
namespace Go.Proofs.Ytaffachjopjbgaa
open Go.RowKit
open Wd
set_option linter.unusedVariables false

theorem eqRule_same (x : Rl) (w : World) : Calls Try.prog 158 #[agg3 x, agg3 x] w fun e w' => e = .returned (.bool true) ∧ Below w.heap.size w w' := by
  obtain ⟨L, l, r⟩ := x
  go_enter Try.func158, Try.ntmps158
  go_wp2
  go_ret
  exact ⟨rfl, ((Below.refl _ _).alloc (Nat.le_refl _) _).alloc (by simp) _⟩

set_option maxRecDepth 100000 in
set_option maxHeartbeats 1600000 in
theorem eqRuleS_same (u v : Value) (gs : List Rl) (w : World) (hn : gs.length ≤ 1048576) (h1 : Rules w u gs) (h2 : Rules w v gs) :
    Calls Try.prog 92 #[u, v] w fun e w' => e = .returned (.bool true) ∧ Below w.heap.size w w' := by
  obtain ⟨A1, c1, rfl, h1⟩ := h1
  obtain ⟨A2, c2, rfl, h2⟩ := h2
  obtain ⟨n, hng⟩ : ∃ n, n = gs.length := ⟨_, rfl⟩
  rw [← hng] at hn ⊢
  have HN := Lib.hid hng
  have H1 := Lib.hid h1
  have H2 := Lib.hid h2
  clear h1 h2 hng
  go_enter Try.func92, Try.ntmps92
  go_wp2
  go_loopw [5] (fun i wr => ∃ k : Nat, k ≤ n ∧ i = .int .i64 k ∧ Below w.heap.size w wr) (fun i _ => n - (intOf i).toNat)
  case atStart => exact ⟨0, Nat.zero_le _, rfl, Below.refl _ _⟩
  case round =>
    obtain ⟨k, hk, rfl, hB⟩ := hrel
    by_cases hlt : k < n
    · have hkg : k < gs.length := by rw [← HN.out]; exact hlt
      rcases H1.out with hn | ⟨g1, rfl, hg1, hc1⟩
      · rw [hn] at hkg; simp at hkg
      rcases H2.out with hn | ⟨g2, rfl, hg2, hc2⟩
      · rw [hn] at hkg; simp at hkg
      obtain ⟨a0, a1, a2⟩ := rules_cells hc1 hkg
      obtain ⟨b0, b1, b2⟩ := rules_cells hc2 hkg
      rw [← hB.cell (p := ⟨g1, k * 3, none⟩) hg1] at a0
      rw [← hB.cell (p := ⟨g1, k * 3 + 1, none⟩) hg1] at a1
      rw [← hB.cell (p := ⟨g1, k * 3 + 2, none⟩) hg1] at a2
      rw [← hB.cell (p := ⟨g2, k * 3, none⟩) hg2] at b0
      rw [← hB.cell (p := ⟨g2, k * 3 + 1, none⟩) hg2] at b1
      rw [← hB.cell (p := ⟨g2, k * 3 + 2, none⟩) hg2] at b2
      have HQ := Lib.hid (fun W => eqRule_same gs[k] W)
      clear hc1 hc2 hg1 hg2
      have HB := Lib.hid hB
      clear hB
      go_wp2
      go_still_tail 8, (by kernel_rfl)
      change wpList _ _ _ _ _ wr.drew
      have hB2 : Below w.heap.size w wr.drew := HB.out.drew
      generalize wr.drew = w2 at hB2 ⊢
      clear HB a0 a1 a2 b0 b1 b2
      have HB2 := Lib.hid hB2
      clear hB2
      go_wp2_with fail
      refine (HQ.out _).mono ?_; rintro e w' ⟨rfl, hB'⟩
      have hB3 := HB2.out.trans (hB'.mono HB2.out.size)
      clear hB'
      go_wp2
      go_roundw
      case rel => exact ⟨k + 1, by omega, by go_num, hB3⟩
      case measure => simp [intOf]; omega
    · go_wp2
      go_ret
      exact ⟨rfl, hB⟩
/-- laws.eqGrammar -/
theorem eqGrammar_same (u v : Value) (gs : List Rl) (w : World) (hn : gs.length ≤ 1048576) (h1 : Rules w u gs) (h2 : Rules w v gs) :
    Calls Try.prog 24 #[.agg #[u], .agg #[v]] w fun e w' => e = .returned (.bool true) ∧ Below w.heap.size w w' := by
  have hB0 : Below w.heap.size w ((w.alloc (.cells #[u] 37)).alloc (.cells #[v] 37)) := ((Below.refl _ w).alloc (Nat.le_refl _) _).alloc (by simp) _
  have hk1 := h1.kept hB0
  have hk2 := h2.kept hB0
  have HC := Lib.hid (eqRuleS_same u v gs _ hn hk1 hk2)
  clear hk1 hk2
  obtain ⟨A1, c1, rfl, h1⟩ := h1
  obtain ⟨A2, c2, rfl, h2⟩ := h2
  have HB := Lib.hid hB0
  clear h1 h2 hB0
  go_enter Try.func24, Try.ntmps24
  go_wp2_with fail
  refine HC.out.mono ?_; rintro e w' ⟨rfl, hB'⟩
  have hB3 := HB.out.trans (hB'.mono (by simp; omega))
  clear hB'
  go_wp2
  go_ret
  exact ⟨rfl, hB3⟩
end Go.Proofs.Ytaffachjopjbgaa
