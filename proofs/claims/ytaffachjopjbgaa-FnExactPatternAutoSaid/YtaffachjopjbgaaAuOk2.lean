/-
  Walks: spec.l04Ok, spec.ValidAuto.
-/
import Derived.Test.YtaffachjopjbgaaAuOk
namespace Go.Proofs.Ytaffachjopjbgaa
open Go.RowKit
open Wd
set_option linter.unusedVariables false

set_option maxRecDepth 100000 in
set_option maxHeartbeats 3200000 in
theorem l04Ok_any (pb : Nat) (f nv : Value) (x : Au) (w : World) (hP : w.heap[pb]? = some (.cells #[.int .i64 x.st, .int .i64 x.go, f, nv] 33 (0, 0))) (hF : IsL w f x.fin) (hN : IsLL w nv x.nx) (hf : FewA x) :
    Calls Try.prog 78 #[.pointer (some ⟨pb, 0, none⟩)] w fun e w' => e = .returned (.bool (aOk x)) ∧ Drawn w w' := by
  obtain ⟨st, go, fin, nx⟩ := x
  simp only at hP hF hN
  have hf1 := hf.fin
  have hf2 := hf.nx
  have hf3 := hf.row
  simp only at hf1 hf2 hf3
  obtain ⟨⟨p0, p1, p2, p3⟩, _⟩ := blk4_cells hP
  have H1 := Lib.hid (fun W => inB_any st 1 24 W)
  have H2 := Lib.hid (fun W => inB_any go 0 (st - 1) W)
  have H3 := Lib.hid (fun n => rises_any f fin 0 (st - 1) (w.drewN n) hf1 (hF.kept (((Drawn.refl w).drewN n).below _)))
  have H4 := Lib.hid (fun n (h1 : 1 ≤ st) (h2 : st ≤ 24) => next_any nv nx st (w.drewN n) h1 h2 hf2 hf3 (hN.kept (((Drawn.refl w).drewN n).below _)))
  clear hP hF hN hf
  obtain ⟨R, hR⟩ : ∃ R, R = aOk ⟨st, go, fin, nx⟩ := ⟨_, rfl⟩
  have HR := Lib.hid hR
  rw [← hR]
  unfold aOk at hR
  simp only at hR
  by_cases h1 : 1 ≤ st ∧ st ≤ 24
  · rw [decide_eq_true h1, Bool.true_and] at hR
    rw [decide_eq_true h1] at H1
    have hw1 : IntKind.i64.wrap (st - 1) = st - 1 := by rw [IntKind.wrap_i64]; omega
    obtain ⟨h1a, h1b⟩ := h1
    by_cases h2 : 0 ≤ go ∧ go ≤ st - 1
    · rw [decide_eq_true h2, Bool.true_and] at hR
      rw [decide_eq_true h2] at H2
      cases h3 : risesL 0 (st - 1) fin
      · rw [h3, Bool.false_and] at hR
        rw [h3] at H3
        have HF := Lib.hid hR
        clear h1a h1b h2 h3 H4 hR
        go_enter Try.func78, Try.ntmps78
        go_wp2_with fail
        go_quiet ((first
          | (go_at_call_of 80 (Value.int .i64 24); exact Calls.quiet_of_same (H1.out _))
          | (go_at_call_of 80 (Value.int .i64 go); exact Calls.quiet_of_same (H2.out _))
          | (go_at_call 151; exact Calls.quiet_of (H3.out _))))
        go_wp2_with fail
        go_ret
        exact ⟨by rw [HF.out] <;> rfl, (Drawn.refl w).drewN _⟩
      · rw [h3, Bool.true_and] at hR
        rw [h3] at H3
        have H4 := Lib.hid (fun n => H4.out n h1a h1b)
        rw [← hR] at H4
        have HF := Lib.hid hR
        clear h1a h1b h2 h3 hR
        go_enter Try.func78, Try.ntmps78
        go_wp2_with fail
        go_quiet ((first
          | (go_at_call_of 80 (Value.int .i64 24); exact Calls.quiet_of_same (H1.out _))
          | (go_at_call_of 80 (Value.int .i64 go); exact Calls.quiet_of_same (H2.out _))
          | (go_at_call 151; exact Calls.quiet_of (H3.out _))
          | (go_at_call 152; exact Calls.quiet_of_same (H4.out _))))
        go_wp2_with fail
        go_ret
        exact ⟨rfl, (Drawn.refl w).drewN _⟩
    · rw [decide_eq_false h2, Bool.false_and, Bool.false_and] at hR
      rw [decide_eq_false h2] at H2
      have HF := Lib.hid hR
      clear h1a h1b h2 H3 H4 hR
      go_enter Try.func78, Try.ntmps78
      go_wp2_with fail
      go_quiet ((first
        | (go_at_call_of 80 (Value.int .i64 24); exact Calls.quiet_of_same (H1.out _))
        | (go_at_call_of 80 (Value.int .i64 go); exact Calls.quiet_of_same (H2.out _))))
      go_wp2_with fail
      go_ret
      exact ⟨by rw [HF.out] <;> rfl, (Drawn.refl w).drewN _⟩
  · rw [decide_eq_false h1, Bool.false_and, Bool.false_and, Bool.false_and] at hR
    rw [decide_eq_false h1] at H1
    have HF := Lib.hid hR
    clear h1 H2 H3 H4 hR
    go_enter Try.func78, Try.ntmps78
    go_wp2_with fail
    go_quiet ((first
      | (go_at_call_of 80 (Value.int .i64 24); exact Calls.quiet_of_same (H1.out _))))
    go_wp2_with fail
    go_ret
    exact ⟨by rw [HF.out] <;> rfl, (Drawn.refl w).drewN _⟩
theorem aOk_parts {x : Au} (h : aOk x = true) : (1 ≤ x.st ∧ x.st ≤ 24) ∧ x.nx.all (rowOk x.st) = true ∧ (x.nx.length : Int) = x.st := by
  unfold aOk at h
  simp only [Bool.and_eq_true, decide_eq_true_iff] at h
  exact ⟨h.1.1.1, h.2.1, h.2.2⟩
end Go.Proofs.Ytaffachjopjbgaa
