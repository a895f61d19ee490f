/-
  Walks: impl.DepthOf, spec.DepthOf.
-/
import Derived.Test.YtlkjceolddccbaaMeasdD
import Derived.Test.YtlkjceolddccbaaGValid
import Derived.Test.YtlkjceolddccbaaGramOk
namespace Go.Proofs.Ytlkjceolddccbaa
open Go.RowKit
open Wd
set_option linter.unusedVariables false

theorem rules_gpD {w : World} {v : Value} {gs : List Rl} (h : Rules w v gs) (t : TypeId) : GP (w.alloc (.cells #[v] t)) w.heap.size gs :=
  ⟨v, cell_new w v t, h.kept ((Below.refl _ w).alloc (Nat.le_refl _) _)⟩
theorem lastOf_any (A : Option Addr) (n c : Nat) (hn : n ≤ 1048576) (w : World) :
    Calls Try.prog 61 #[.slice A n c] w fun e w' => e = .returned (.int .i64 ((n : Int) - 1)) ∧ w = w' := by
  go_enter Try.func61, Try.ntmps61
  go_wp2
  go_ret
  exact ⟨rfl, rfl⟩
def depAns2 (gs : List Rl) : Int × Int := if gOk gs then (depAns gs, 0) else (0, 1)

set_option maxRecDepth 100000 in
set_option maxHeartbeats 3200000 in
theorem implDepthOf (v : Value) (gs : List Rl) (w : World) (hf : FewR gs) (hr : Rules w v gs) :
    Calls Try.prog 18 #[.agg #[v]] w fun e w' => e = .returned (.tuple #[.int .i64 (depAns2 gs).1, .int .i64 (depAns2 gs).2]) ∧ Below w.heap.size w w' := by
  have hr0 := hr
  have hn := hf.len
  obtain ⟨A, c, rfl, _⟩ := hr
  have hb := (Below.refl _ w).alloc (Nat.le_refl _) (.cells #[.slice A gs.length c] 30)
  have h1 := implValidGrammar (.slice A gs.length c) gs _ hf (hr0.kept hb)
  have HB := Lib.hid hb
  unfold depAns2
  cases hok : gOk gs
  · rw [hok] at h1
    have H1 := Lib.hid h1
    clear h1 hb hok hr0
    go_enter Try.func18, Try.ntmps18
    go_wp2_with fail
    refine H1.out.mono ?_
    rintro e w1 ⟨rfl, hB1⟩
    have HB1 := Lib.hid (HB.out.trans (hB1.mono (by simp)))
    clear hB1
    go_wp2_with fail
    go_ret2
    exact ⟨rfl, HB1.out⟩
  · rw [hok] at h1
    have H1 := Lib.hid h1
    have hfit := (gOk_iff.1 hok).2.1
    by_cases h0 : gs.length = 0
    · have HA : Hid (depAns gs = 0) := Lib.hid (by unfold depAns; rw [if_pos h0])
      have h0' : ((gs.length : Int) == 0) = true := by rw [beq_iff_eq]; omega
      have h0'' : (gs.length : Int) = 0 := by omega
      clear h1 hb hok hr0 hfit h0 h0''
      go_enter Try.func18, Try.ntmps18
      go_wp2_with fail
      refine H1.out.mono ?_
      rintro e w1 ⟨rfl, hB1⟩
      have HB1 := Lib.hid (HB.out.trans (hB1.mono (by simp)))
      have hc1 : w1.cell? ⟨w.heap.size, 0, none⟩ = some (.slice A gs.length c) := (hB1.cell (p := ⟨w.heap.size, 0, none⟩) (by simp)).trans (cell_new _ _ _)
      clear hB1
      go_wp2_with fail
      go_ret2
      exact ⟨by rw [HA.out]; rfl, HB1.out⟩
    · have HA : Hid (depAns gs = depV gs (gs.length - 1)) := Lib.hid (by unfold depAns; rw [if_neg h0])
      have h0' : ((gs.length : Int) == 0) = false := by rw [beq_eq_false_iff_ne]; omega
      obtain ⟨m, hm⟩ : ∃ m, gs.length = m + 1 := ⟨gs.length - 1, by omega⟩
      have HM := Lib.hid hm
      have HF := Lib.hid hfit
      have HR0 := Lib.hid hr0
      have HLA : Hid (∀ W, Calls Try.prog 61 #[.slice A gs.length c] W fun e w' => e = .returned (.int .i64 (m : Int)) ∧ W = w') := Lib.hid (fun W => (lastOf_any A gs.length c (by omega) W).mono fun e w' h => ⟨h.1.trans (ret_int (by omega)), h.2⟩)
      clear h1 hb hok hr0 hfit h0 hm
      go_enter Try.func18, Try.ntmps18
      go_wp2_with fail
      refine H1.out.mono ?_
      rintro e w1 ⟨rfl, hB1⟩
      have HB1 := Lib.hid (HB.out.trans (hB1.mono (by simp)))
      have hc1 : w1.cell? ⟨w.heap.size, 0, none⟩ = some (.slice A gs.length c) := (hB1.cell (p := ⟨w.heap.size, 0, none⟩) (by simp)).trans (cell_new _ _ _)
      have HC1 := Lib.hid hc1
      have HMD := Lib.hid (fun q => dep.depthsOf_any w.heap.size (.slice A gs.length c) gs (w1.drewN q) hn HB1.out.size (HR0.out.under (below_drewN HB1.out q)))
      clear hB1
      go_wp2_with fail
      go_region_held3 (fun w' => w'.cell? ⟨w.heap.size, 0, none⟩ = some (.slice A gs.length c)) (first | go_keep | exact HS2.out | exact HS4.out)
        (first
          | (go_at_call 60; refine (HMD.out _).mono ?_; rintro e w2 ⟨bm, br, bj, bf, M, rfl, ⟨_, _, _, _, hM5⟩, hI, hB2⟩; have HI := Lib.hid hI; have HMW : Hid (w.heap.size < M) := Lib.hid (Nat.lt_of_lt_of_le (lt_of_cell HC1.out) hM5); clear hM5; have HB2 := Lib.hid (HB1.out.trans ((below_undrew hB2).mono HB1.out.size)); have HS2 := Lib.hid (((below_undrew hB2).cell (p := ⟨w.heap.size, 0, none⟩) (lt_of_cell HC1.out)).trans HC1.out); clear hI hB2)
          | (go_at_call 61; refine (HLA.out _).mono ?_; rintro e w3 ⟨rfl, rfl⟩)
          | (go_at_call 124; refine (dep.meas_any w.heap.size bm br bj bf M gs hn HF.out (m + 1) m (by omega) (by have := HM.out; omega) _ HI.out).mono ?_; rintro e w4 ⟨rfl, hI4, hg4⟩; have HB4 := Lib.hid (HB2.out.grown hg4 HB2.out.size (fun q hq => by injection hq with hq; have := HI.out.1.hB; omega)); have HS4 := Lib.hid ((World.cell?_of_block (a := ⟨w.heap.size, 0, none⟩) (hg4.block w.heap.size (lt_of_cell HS2.out) (fun q => by injection q with q; have := HMW.out; omega))).trans HS2.out); clear hI4 hg4))
      clear hc1
      go_wp2_with fail
      go_ret2
      exact ⟨by rw [HA.out, show gs.length - 1 = m from by have := HM.out; omega]; rfl, HB4.out⟩
end Go.Proofs.Ytlkjceolddccbaa
