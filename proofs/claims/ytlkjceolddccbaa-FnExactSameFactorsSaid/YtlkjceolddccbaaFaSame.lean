/-
  Two factors compared; walks: slices.Equal at factors. (Turned from XGEqR and XGSame by fac.py.)
-/
import Derived.Test.YtlkjceolddccbaaGEqR
import Derived.Test.YtlkjceolddccbaaFaTo
namespace Go.Proofs.Ytlkjceolddccbaa
open Go.RowKit
open Wd
set_option linter.unusedVariables false

namespace Wd
/-- the rules up to a number are the same -/
def SameTo (gs hs : List Rl) (k : Nat) : Prop := gs.take k = hs.take k
theorem same_zero (gs hs : List Rl) : SameTo gs hs 0 := by simp [SameTo]
theorem same_step {gs hs : List Rl} {k : Nat} (h : SameTo gs hs k) (h1 : k < gs.length) (h2 : k < hs.length) (he : gs[k] = hs[k]) : SameTo gs hs (k + 1) := by
  unfold SameTo at *
  rw [List.take_succ_eq_append_getElem h1, List.take_succ_eq_append_getElem h2, h, he]
theorem same_all {gs hs : List Rl} {k : Nat} (h : SameTo gs hs k) (h1 : gs.length ≤ k) (h2 : hs.length ≤ k) : decide (gs = hs) = true := by
  unfold SameTo at h
  rw [List.take_of_length_le h1, List.take_of_length_le h2] at h
  exact decide_eq_true h
theorem not_same {gs hs : List Rl} {k : Nat} (h1 : k < gs.length) (h2 : k < hs.length) (he : gs[k] ≠ hs[k]) : decide (gs = hs) = false := by
  refine decide_eq_false fun h => he ?_
  subst h; rfl
theorem not_len {gs hs : List Rl} (h : gs.length ≠ hs.length) : decide (gs = hs) = false := decide_eq_false fun e => h (by rw [e])
end Wd

theorem fac_flds : Try.prog.underlying 96 = some (.struct (Try.prog.fieldsOf 96)) := by kernel_rfl
theorem fac_held : Try.prog.stoodInHeld 96 = false := by kernel_rfl
theorem fac_equalIn (x y : Rl) (w : World) : (Op.equalIn 10000 96 (agg3 x) (agg3 y)).run Try.prog w = .ok (eqR x y) w := by
  unfold agg3 eqR
  rw [run_equalIn_agg w 9999 _ _ _ fac_flds fac_held]
  simp only [Program.fieldsOf, Try.underlying96]
  have u1 := Try.underlying9
  have u2 := Try.underlying2
  have e1 := fun w => run_equalIn_string (P := Try.prog) w 9998 9 x.L y.L u1
  have e2 := fun w => run_equalIn_int (P := Try.prog) w 9998 2 .i64 .i64 x.l y.l u2
  have e3 := fun w => run_equalIn_int (P := Try.prog) w 9998 2 .i64 .i64 x.r y.r u2
  simp [Op.eqFields, go_sem, e1, e2, e3]
  by_cases h1 : x.L.toList = y.L.toList <;> by_cases h2 : x.l = y.l <;> by_cases h3 : x.r = y.r <;> simp [h1, h2, h3]
theorem fac_neq (x y : Rl) (w : World) : (binOp .neq 96 (agg3 x) (agg3 y)).run Try.prog w = .ok (.bool (!eqR x y)) w := by
  unfold agg3
  rw [run_neq_struct, fac_equalIn]
  rfl
theorem fac_eql (x y : Rl) (w : World) : (binOp .eql 96 (agg3 x) (agg3 y)).run Try.prog w = .ok (.bool (eqR x y)) w := by
  unfold agg3
  rw [run_eql_struct, fac_equalIn]
  rfl
set_option maxRecDepth 100000 in
set_option maxHeartbeats 3200000 in
theorem sEqualF_any (u v : Value) (gs hs : List Rl) (w : World) (hn : gs.length ≤ 1048576) (hn2 : hs.length ≤ 1048576) (h1 : Rules w u gs) (h2 : Rules w v hs) :
    Calls Try.prog 79 #[u, v] w fun e w' => e = .returned (.bool (decide (gs = hs))) ∧ Below w.heap.size w w' := by
  obtain ⟨A1, c1, rfl, h1⟩ := h1
  obtain ⟨A2, c2, rfl, h2⟩ := h2
  obtain ⟨n, hng⟩ : ∃ n, n = gs.length := ⟨_, rfl⟩
  obtain ⟨m, hmh⟩ : ∃ m, m = hs.length := ⟨_, rfl⟩
  rw [← hng] at hn ⊢
  rw [← hmh] at hn2 ⊢
  have HN := Lib.hid hng
  have HM := Lib.hid hmh
  have H1 := Lib.hid h1
  have H2 := Lib.hid h2
  clear h1 h2 hng hmh
  by_cases hlen : n = m
  · subst hlen
    go_enter Try.func79, Try.ntmps79
    go_wp2
    go_loopw [5, 13] (fun _ i wr => ∃ k : Nat, k ≤ n ∧ i = .int .i64 k ∧ SameTo gs hs k ∧ Below w.heap.size w wr) (fun _ i _ => n - (intOf i).toNat)
    case atStart => exact ⟨0, Nat.zero_le _, rfl, same_zero _ _, Below.refl _ _⟩
    case round =>
      obtain ⟨k, hk, rfl, hst, hB⟩ := hrel
      obtain ⟨wo, rfl⟩ : ∃ wo : World, wo = wr := ⟨_, rfl⟩
      by_cases hlt : k < n
      · have hkg : k < gs.length := by rw [← HN.out]; exact hlt
        have hkh : k < hs.length := by rw [← HM.out]; exact hlt
        rcases H1.out with hn | ⟨g1, rfl, hg1, hc1⟩
        · rw [hn] at hkg; simp at hkg
        rcases H2.out with hn | ⟨g2, rfl, hg2, hc2⟩
        · rw [hn] at hkh; simp at hkh
        obtain ⟨a0, a1, a2⟩ := rules_cells hc1 hkg
        obtain ⟨b0, b1, b2⟩ := rules_cells hc2 hkh
        rw [← hB.cell (p := ⟨g1, k * 3, none⟩) hg1] at a0
        rw [← hB.cell (p := ⟨g1, k * 3 + 1, none⟩) hg1] at a1
        rw [← hB.cell (p := ⟨g1, k * 3 + 2, none⟩) hg1] at a2
        rw [← hB.cell (p := ⟨g2, k * 3, none⟩) hg2] at b0
        rw [← hB.cell (p := ⟨g2, k * 3 + 1, none⟩) hg2] at b1
        rw [← hB.cell (p := ⟨g2, k * 3 + 2, none⟩) hg2] at b2
        have hq := fun W => fac_neq gs[k] hs[k] W
        have t1 : (0 : Int) ≤ (k : Int) := by omega
        have t2 : (k : Int) < (n : Int) := by omega
        clear hc1 hc2
        by_cases he : gs[k] = hs[k]
        · have hst2 := same_step hst hkg hkh he
          rw [eqR_iff.2 he] at hq
          have HS2 := Lib.hid hst2
          have HE := Lib.hid he
          clear hst hst2 he
          go_wp2
          go_quiet (fail)
          go_wp2
          go_roundw
          case rel => exact ⟨k + 1, by omega, by go_num, HS2.out, below_drewN hB _⟩
          case measure => simp [intOf]; omega
        · have hf := not_same hkg hkh he
          rw [eqR_other he] at hq
          have HF := Lib.hid hf
          have HE := Lib.hid he
          clear hst hf he
          go_wp2
          go_quiet (fail)
          go_wp2
          go_ret
          exact ⟨ret_bool HF.out.symm, below_drewN hB _⟩
      · have hall := same_all hst (by rw [← HN.out]; omega) (by rw [← HM.out]; omega)
        have HALL := Lib.hid hall
        clear hall hst
        go_wp2
        go_ret
        exact ⟨ret_bool HALL.out.symm, hB⟩
  · have hf := not_len (gs := gs) (hs := hs) (by rw [← HN.out, ← HM.out]; exact hlen)
    have HF := Lib.hid hf
    have hne : ((n : Int) == (m : Int)) = false := by rw [beq_eq_false_iff_ne]; omega
    have hne2 : ¬ (n : Int) = (m : Int) := by omega
    clear hf hlen
    go_enter Try.func79, Try.ntmps79
    go_wp2
    go_ret
    exact ⟨ret_bool HF.out.symm, Below.refl _ _⟩

end Go.Proofs.Ytlkjceolddccbaa
