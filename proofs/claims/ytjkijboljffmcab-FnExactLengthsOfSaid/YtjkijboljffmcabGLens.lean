/-
  Walks: impl.LengthsOf, spec.LengthsOf.
-/
import Derived.Test.YtjkijboljffmcabGLen
namespace Go.Proofs.Ytjkijboljffmcab
open Go.RowKit
open Wd
set_option linter.unusedVariables false

def intsLengthsOf (gs : List Rl) : List Int × Int := if gOk gs then (lens gs, 0) else ([], 1)
theorem intsLengthsOf_len (gs : List Rl) (hf : FewR gs) : (intsLengthsOf gs).1.length ≤ 1000000 := by
  unfold intsLengthsOf
  split
  · rename_i h
    have := gOk_len h
    simp only [lens_len]; omega
  · simp

theorem specLengthsOf (v : Value) (gs : List Rl) (w : World) (hf : FewR gs) (hr : Rules w v gs) :
    Calls Try.prog 21 #[.agg #[v]] w fun e w' => ∃ x, e = .returned (.tuple #[x, .int .i64 (intsLengthsOf gs).2]) ∧ OwnsI w' w.heap.size x (intsLengthsOf gs).1 ∧ Below w.heap.size w w' := by
  have hg := rules_gp hr 29
  have h1 := lengths_any w.heap.size gs _ hf hg
  have H1 := Lib.hid h1
  obtain ⟨A, c, rfl, _⟩ := hr
  have hb := (Below.refl _ w).alloc (Nat.le_refl _) (.cells #[.slice A gs.length c] 29)
  have HB := Lib.hid hb
  clear h1 hg hb
  unfold intsLengthsOf
  cases hok : gOk gs
  all_goals
    have HK := Lib.hid hok
    unfold LensPost at H1
    rw [hok] at H1
    clear hok
    go_enter Try.func21, Try.ntmps21
    go_wp2_with fail
    refine H1.out.mono ?_
    rintro e w1 ⟨x, rfl, ho, hB1⟩
    have HO := Lib.hid ho
    have HB1 := Lib.hid (HB.out.trans (hB1.mono (by simp)))
    clear hB1 ho
    go_wp2_with fail
    go_ret2
  · exact ⟨_, rfl, World.ownsRow_lit w1 #[] 0 HB1.out.size (by decide) rfl, HB1.out.alloc HB1.out.size _⟩
  · exact ⟨_, rfl, OwnsI.lower (HO.out trivial) (by simp), HB1.out⟩

theorem implLengthsOf (v : Value) (gs : List Rl) (w : World) (hf : FewR gs) (hr : Rules w v gs) :
    Calls Try.prog 22 #[.agg #[v]] w fun e w' => ∃ x, e = .returned (.tuple #[x, .int .i64 (intsLengthsOf gs).2]) ∧ OwnsI w' w.heap.size x (intsLengthsOf gs).1 ∧ Below w.heap.size w w' := by
  have hb := (Below.refl _ w).alloc (Nat.le_refl _) (.cells #[v] 29)
  have h1 := len.vlen_any v gs _ hf (hr.kept hb)
  have H1 := Lib.hid h1
  have HB := Lib.hid hb
  obtain ⟨A, c, rfl, _⟩ := hr
  clear h1 hb
  unfold intsLengthsOf
  cases hok : gOk gs
  all_goals
    have HK := Lib.hid hok
    unfold LensPost at H1
    rw [hok] at H1
    clear hok
    go_enter Try.func22, Try.ntmps22
    go_wp2_with fail
    refine H1.out.mono ?_
    rintro e w1 ⟨x, rfl, ho, hB1⟩
    have HO := Lib.hid ho
    have HB1 := Lib.hid (HB.out.trans (hB1.mono (by simp)))
    clear hB1 ho
    go_wp2_with fail
    go_ret2
  · exact ⟨_, rfl, World.ownsRow_nil _ _ _ _, HB1.out⟩
  · exact ⟨_, rfl, OwnsI.lower (HO.out trivial) (by simp), HB1.out⟩
end Go.Proofs.Ytjkijboljffmcab
