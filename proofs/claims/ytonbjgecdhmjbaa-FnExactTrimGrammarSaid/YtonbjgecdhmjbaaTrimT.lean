/-
  Walk: impl.TrimGrammar.
-/
import Derived.Test.YtonbjgecdhmjbaaTrimI
import Derived.Test.YtonbjgecdhmjbaaTrimA
import Derived.Test.YtonbjgecdhmjbaaGValid
namespace Go.Proofs.Ytonbjgecdhmjbaa
open Go.RowKit
open Wd
set_option linter.unusedVariables false

set_option maxRecDepth 100000 in
set_option maxHeartbeats 3200000 in
theorem implTrimGrammar (v : Value) (gs : List Rl) (w : World) (hf : FewR gs) (hr : Rules w v gs) :
    Calls Try.prog 38 #[.agg #[v]] w fun e w' => ∃ y, e = .returned (.tuple #[.agg #[y], .int .i64 (gramTrimGrammar gs).2]) ∧ OwnsR w' w.heap.size y (gramTrimGrammar gs).1 ∧ Below w.heap.size w w' := by
  have hb : Below w.heap.size w ((w.alloc (.cells #[v] 40)).alloc (.cells #[.slice none 0 0] 40)) := ((Below.refl _ w).alloc (Nat.le_refl _) _).alloc (by simp) _
  have hv0 : Var ((w.alloc (.cells #[v] 40)).alloc (.cells #[.slice none 0 0] 40)) w.heap.size v 40 := (Var.new w v 40).kept ((Below.refl _ _).alloc (Nat.le_refl _) _)
  have hv : Var ((w.alloc (.cells #[v] 40)).alloc (.cells #[.slice none 0 0] 40)) (w.heap.size + 1) (.slice none 0 0) 40 := by
    have := Var.new (w.alloc (.cells #[v] 40)) (.slice none 0 0) 40
    rwa [show (w.alloc (.cells #[v] 40)).heap.size = w.heap.size + 1 from by simp] at this
  have h1 := implValidGrammar v gs _ hf (hr.kept hb)
  have HR := Lib.hid hr
  obtain ⟨A, c, rfl, _⟩ := hr
  have HB := Lib.hid hb
  have HV := Lib.hid hv
  have HV0 := Lib.hid hv0
  unfold gramTrimGrammar
  cases hok : gOk gs
  · rw [hok] at h1
    have H1 := Lib.hid h1
    rw [if_neg (by decide)]
    clear h1 hok hb hv hv0
    go_enter Try.func38, Try.ntmps38
    go_wp2_with fail
    refine H1.out.mono ?_
    rintro e w1 ⟨rfl, hB1⟩
    have HB1 := Lib.hid (HB.out.trans (hB1.mono (by simp; omega)))
    obtain ⟨vc, vf⟩ := (HV.out.kept hB1).cell
    clear hB1
    go_wp2_with fail
    refine bodyPost_ret (v := .tuple #[.agg #[.slice none 0 0], .int .i64 1]) (by simp [results, Try.results38, go_sem, vc]) rfl ⟨_, rfl, World.ownsRow_nil _ _ _ _, HB1.out.setCell (by simp) _⟩
  · rw [hok] at h1
    have H1 := Lib.hid h1
    rw [if_pos rfl]
    have hlen := gOk_len hok
    have HT := Lib.hid (fun W (h : Rules W (.slice A gs.length c) gs) => trimmed_any (.slice A gs.length c) gs W (by omega) (gOk_iff.1 hok).2.1 h)
    clear h1 hok hb hv hv0
    go_enter Try.func38, Try.ntmps38
    go_wp2_with fail
    refine H1.out.mono ?_
    rintro e w1 ⟨rfl, hB1⟩
    have HV1 := Lib.hid (HV.out.kept hB1)
    have HB1 := Lib.hid (HB.out.trans (hB1.mono (by simp; omega)))
    obtain ⟨z0, z1⟩ := (HV0.out.kept hB1).cell
    have hs1 : w.heap.size + 1 < w1.heap.size := HV1.out.lt
    clear hB1
    go_wp2_with fail
    refine (HT.out _ (HR.out.kept HB1.out)).mono ?_
    rintro e w2 ⟨y, rfl, ho, hB2⟩
    obtain ⟨Ay, cy, rfl⟩ := own_slice ho
    obtain ⟨x0, x1⟩ := (HV1.out.kept hB2).cell
    have HB2 := Lib.hid (HB1.out.trans (hB2.mono HB1.out.size))
    have HO := Lib.hid (own_lower ho (show w.heap.size ≤ w1.heap.size by omega))
    have HNE : Hid ((Value.slice Ay (trimG gs).length cy).ownBlock ≠ some (w.heap.size + 1)) := Lib.hid (fun e => by have := (ho.lt _ e).1; omega)
    clear ho hB2
    go_wp2_with fail
    refine bodyPost_ret (v := .tuple #[.agg #[.slice Ay (trimG gs).length cy], .int .i64 0]) (by simp [results, Try.results38, go_sem, x0]) rfl ⟨_, rfl, ?_, HB2.out.setCell (by simp) _⟩
    exact World.ownsRow.kept HO.out (only_setCell (World.grownBy.refl w2 (some (w.heap.size + 1))) (p := ⟨w.heap.size + 1, 0, none⟩) (.inl rfl) _) (.inr HNE.out)
end Go.Proofs.Ytonbjgecdhmjbaa
