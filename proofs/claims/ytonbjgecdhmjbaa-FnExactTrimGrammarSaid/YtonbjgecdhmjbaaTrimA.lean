/-
  Walk: spec.TrimGrammar.
-/
import Derived.Test.YtonbjgecdhmjbaaTrimS
namespace Go.Proofs.Ytonbjgecdhmjbaa
open Go.RowKit
open Wd
set_option linter.unusedVariables false
theorem gramTrimGrammar_len (gs : List Rl) (hf : FewR gs) : (gramTrimGrammar gs).1.length ≤ 1048576 := by
  unfold gramTrimGrammar
  split
  · exact Nat.le_trans (trimG_le gs) hf.len
  · simp

set_option maxRecDepth 100000 in
set_option maxHeartbeats 6400000 in
theorem specTrimGrammar (v : Value) (gs : List Rl) (w : World) (hf : FewR gs) (hr : Rules w v gs) :
    Calls Try.prog 37 #[.agg #[v]] w fun e w' => ∃ y, e = .returned (.tuple #[.agg #[y], .int .i64 (gramTrimGrammar gs).2]) ∧ OwnsR w' w.heap.size y (gramTrimGrammar gs).1 ∧ Below w.heap.size w w' := by
  have hb : Below w.heap.size w ((w.alloc (.cells #[v] 40)).alloc (.cells #[.slice none 0 0] 40)) := ((Below.refl _ w).alloc (Nat.le_refl _) _).alloc (by simp) _
  have hg : GP ((w.alloc (.cells #[v] 40)).alloc (.cells #[.slice none 0 0] 40)) w.heap.size gs := (rules_gpT hr 40).kept ((Below.refl _ _).alloc (Nat.le_refl _) _)
  have hvr : Var ((w.alloc (.cells #[v] 40)).alloc (.cells #[.slice none 0 0] 40)) (w.heap.size + 1) (.slice none 0 0) 40 := by
    have := Var.new (w.alloc (.cells #[v] 40)) (.slice none 0 0) 40
    rwa [show (w.alloc (.cells #[v] 40)).heap.size = w.heap.size + 1 from by simp] at this
  have h1 := l02Ok_any w.heap.size gs _ hf hg
  obtain ⟨A, c, rfl, _⟩ := hr
  have HB := Lib.hid hb
  have HG := Lib.hid hg
  have HVR := Lib.hid hvr
  unfold gramTrimGrammar
  cases hok : gOk gs
  · rw [hok] at h1
    have H1 := Lib.hid h1
    rw [if_neg (by decide)]
    clear h1 hok hb hg hvr
    go_enter Try.func37, Try.ntmps37
    go_wp2_with fail
    refine H1.out.mono ?_
    rintro e w1 ⟨rfl, hB1⟩
    obtain ⟨x0, x1⟩ := (HVR.out.kept hB1).cell
    have HB1 := Lib.hid (HB.out.trans (hB1.mono (by simp; omega)))
    clear hB1
    go_wp2_with fail
    refine bodyPost_ret (v := .tuple #[.agg #[.slice none 0 0], .int .i64 1]) (by simp [results, Try.results37, go_sem, x0]) rfl ⟨_, rfl, World.ownsRow_nil _ _ _ _, HB1.out.setCell (by simp) _⟩
  · rw [hok] at h1
    have H1 := Lib.hid h1
    rw [if_pos rfl]
    have hlen := gOk_len hok
    have HT := Lib.hid (fun W (h : GP W w.heap.size gs) => l02Trim_any w.heap.size gs W (by omega) (gOk_iff.1 hok).2.1 h)
    clear h1 hok hb hg hvr
    go_enter Try.func37, Try.ntmps37
    go_wp2_with fail
    refine H1.out.mono ?_
    rintro e w1 ⟨rfl, hB1⟩
    have HV1 := Lib.hid (HVR.out.kept hB1)
    have HG1 := Lib.hid (HG.out.kept hB1)
    have HB1 := Lib.hid (HB.out.trans (hB1.mono (by simp; omega)))
    have hs1 : w.heap.size + 1 < w1.heap.size := HV1.out.lt
    clear hB1
    go_wp2_with fail
    refine (HT.out _ HG1.out).mono ?_
    rintro e w2 ⟨y, rfl, ho, hB2⟩
    obtain ⟨Ay, cy, rfl⟩ := own_slice ho
    obtain ⟨x0, x1⟩ := (HV1.out.kept hB2).cell
    have HB2 := Lib.hid (HB1.out.trans (hB2.mono HB1.out.size))
    have HO := Lib.hid (own_lower ho (show w.heap.size ≤ w1.heap.size by omega))
    have HNE : Hid ((Value.slice Ay (trimG gs).length cy).ownBlock ≠ some (w.heap.size + 1)) := Lib.hid (fun e => by have := (ho.lt _ e).1; omega)
    clear ho hB2
    go_wp2_with fail
    refine bodyPost_ret (v := .tuple #[.agg #[.slice Ay (trimG gs).length cy], .int .i64 0]) (by simp [results, Try.results37, go_sem, x0]) rfl ⟨_, rfl, ?_, HB2.out.setCell (by simp) _⟩
    exact World.ownsRow.kept HO.out (only_setCell (World.grownBy.refl w2 (some (w.heap.size + 1))) (p := ⟨w.heap.size + 1, 0, none⟩) (.inl rfl) _) (.inr HNE.out)
end Go.Proofs.Ytonbjgecdhmjbaa
