/-
  Walks: spec.l04Coder at what is not right ahead of the words; spec.ValidCoder.
-/
import Derived.Test.YtddjcgaejjldbaaCoOk
namespace Go.Proofs.Ytddjcgaejjldbaa
open Go.RowKit
open Wd
set_option linter.unusedVariables false
set_option maxRecDepth 100000 in
set_option maxHeartbeats 6400000 in
theorem l04Coder_any (pb : Nat) (nv ov : Value) (x : Co) (w : World) (hP : w.heap[pb]? = some (.cells #[.int .i64 x.st, .int .i64 x.go, nv, ov] 28 (0, 0))) (hN : IsLL w nv x.nx) (hO : IsSLL w ov x.ou) (hf : FewC x) :
    Calls Try.prog 56 #[.pointer (some ⟨pb, 0, none⟩)] w fun e w' => e = .returned (.bool (cOk x)) ∧ Drawn w w' := by
  obtain ⟨st, go, nx, ou⟩ := x
  simp only at hP hN hO
  have hf1 := hf.nx
  have hf2 := hf.row
  simp only at hf1 hf2
  have HX := Lib.hid (fun (A Ao : Option Addr) (c co : Nat) (e1 : nv = .slice A nx.length c) (e2 : ov = .slice Ao ou.length co) h1 h2 h3 h4 => l04Coder_rest pb A Ao c co st go nx ou w (by rw [← e1, ← e2]; exact hP) (by rw [← e1]; exact hN) (by rw [← e2]; exact hO) hf h1 h2 h3 h4)
  obtain ⟨⟨p0, p1, p2, p3⟩, _⟩ := blk4_cells hP
  have H1 := Lib.hid (fun W => inB_any st 1 24 W)
  have H2 := Lib.hid (fun W => inB_any go 0 (st - 1) W)
  have H4 := Lib.hid (fun n (h1 : 1 ≤ st) (h2 : st ≤ 24) => next_any nv nx st (w.drewN n) h1 h2 hf1 hf2 (hN.kept (((Drawn.refl w).drewN n).below _)))
  obtain ⟨A, c, rfl, hx⟩ := hN
  obtain ⟨Ao, co, rfl, hx'⟩ := hO
  clear hP hx hx' hf
  obtain ⟨R, hR⟩ : ∃ R, R = cOk ⟨st, go, nx, ou⟩ := ⟨_, rfl⟩
  have HR := Lib.hid hR
  rw [← hR]
  unfold cOk at hR
  simp only at hR
  by_cases h1 : 1 ≤ st ∧ st ≤ 24
  · rw [decide_eq_true h1, Bool.true_and] at hR
    by_cases h2 : 0 ≤ go ∧ go ≤ st - 1
    · rw [decide_eq_true h2, Bool.true_and] at hR
      cases h3 : (nx.all (rowOk st) && decide ((nx.length : Int) = st))
      · rw [h3, Bool.false_and] at hR
        rw [decide_eq_true h1] at H1
        rw [decide_eq_true h2] at H2
        have hw1 : IntKind.i64.wrap (st - 1) = st - 1 := by rw [IntKind.wrap_i64]; omega
        have H4 := Lib.hid (fun n => H4.out n h1.1 h1.2)
        rw [h3] at H4
        have HF := Lib.hid hR
        clear h1 h2 h3 hR HX
        go_enter Try.func56, Try.ntmps56
        go_wp2_with fail
        go_quiet ((first
          | (go_at_call_of 90 (Value.int .i64 24); exact Calls.quiet_of_same (H1.out _))
          | (go_at_call_of 90 (Value.int .i64 go); exact Calls.quiet_of_same (H2.out _))
          | (go_at_call 115; exact Calls.quiet_of_same (H4.out _))))
        go_wp2_with fail
        go_ret
        exact ⟨by rw [HF.out] <;> rfl, (Drawn.refl w).drewN _⟩
      · rw [h3, Bool.true_and] at hR
        by_cases h4 : (ou.length : Int) = st
        · rw [decide_eq_true h4, Bool.true_and] at hR
          rw [hR]
          exact HX.out A Ao c co rfl rfl h1 h2 h3 h4
        · rw [decide_eq_false h4, Bool.false_and] at hR
          rw [decide_eq_true h1] at H1
          rw [decide_eq_true h2] at H2
          have hw1 : IntKind.i64.wrap (st - 1) = st - 1 := by rw [IntKind.wrap_i64]; omega
          have H4 := Lib.hid (fun n => H4.out n h1.1 h1.2)
          rw [h3] at H4
          have HF := Lib.hid hR
          have hbe : ((ou.length : Int) != st) = true := by simp [h4]
          clear h1 h2 h3 hR HX h4
          go_enter Try.func56, Try.ntmps56
          go_wp2_with fail
          go_quiet ((first
            | (go_at_call_of 90 (Value.int .i64 24); exact Calls.quiet_of_same (H1.out _))
            | (go_at_call_of 90 (Value.int .i64 go); exact Calls.quiet_of_same (H2.out _))
            | (go_at_call 115; exact Calls.quiet_of_same (H4.out _))))
          go_wp2_with fail
          go_ret
          exact ⟨by rw [HF.out] <;> rfl, (Drawn.refl w).drewN _⟩
    · rw [decide_eq_false h2, Bool.false_and] at hR
      rw [decide_eq_true h1] at H1
      rw [decide_eq_false h2] at H2
      have hw1 : IntKind.i64.wrap (st - 1) = st - 1 := by rw [IntKind.wrap_i64]; omega
      have HF := Lib.hid hR
      clear h1 h2 H4 hR HX
      go_enter Try.func56, Try.ntmps56
      go_wp2_with fail
      go_quiet ((first
        | (go_at_call_of 90 (Value.int .i64 24); exact Calls.quiet_of_same (H1.out _))
        | (go_at_call_of 90 (Value.int .i64 go); exact Calls.quiet_of_same (H2.out _))))
      go_wp2_with fail
      go_ret
      exact ⟨by rw [HF.out] <;> rfl, (Drawn.refl w).drewN _⟩
  · rw [decide_eq_false h1, Bool.false_and] at hR
    rw [decide_eq_false h1] at H1
    have HF := Lib.hid hR
    clear h1 H2 H4 hR HX
    go_enter Try.func56, Try.ntmps56
    go_wp2_with fail
    go_quiet ((first
      | (go_at_call_of 90 (Value.int .i64 24); exact Calls.quiet_of_same (H1.out _))))
    go_wp2_with fail
    go_ret
    exact ⟨by rw [HF.out] <;> rfl, (Drawn.refl w).drewN _⟩
theorem specValidCoder (v : Value) (x : Co) (w : World) (hf : FewC x) (h : IsCo w v x) :
    Calls Try.prog 16 #[v] w fun e w' => e = .returned (.bool (cOk x)) ∧ Below w.heap.size w w' := by
  obtain ⟨f, n, rfl, hF, hN⟩ := h
  have hb := (Below.refl _ w).alloc (Nat.le_refl _) (.cells #[.int .i64 x.st, .int .i64 x.go, f, n] 28)
  have HC := Lib.hid (l04Coder_any w.heap.size f n x _ (heap_alloc_new w _) (hF.kept hb) (hN.kept hb) hf)
  have HB := Lib.hid hb
  clear hF hN hb
  go_enter Try.func16, Try.ntmps16
  go_wp2_with fail
  refine HC.out.mono ?_
  rintro e w1 ⟨rfl, hD⟩
  go_wp2_with fail
  go_ret
  exact ⟨rfl, HB.out.trans (hD.below _)⟩
end Go.Proofs.Ytddjcgaejjldbaa
