/-
  Walks: spec.l02Lengths, l02Ok.
-/
import Derived.Test.YtaffachjopjbgaaGramSpec
namespace Go.Proofs.Ytaffachjopjbgaa
open Go.RowKit
open Wd
set_option linter.unusedVariables false

namespace Wd
/-- the length of the last word -/
def wordLen (gs : List Rl) : Int := (lens gs).getD (gs.length - 1) 0
theorem wordLen_zero {gs : List Rl} (h : gs.length = 0) : wordLen gs = 0 := by
  have : gs = [] := List.eq_nil_of_length_eq_zero h
  subst this; rfl
theorem gOk_len {gs : List Rl} (h : gOk gs = true) : gs.length ≤ 400 := (gOk_iff.1 h).1
theorem gOk_fs {gs : List Rl} (h : gOk gs = true) : (fits gs && small gs) = true := by
  have := gOk_iff.1 h; simp [this.2.1, this.2.2]
theorem gOk_long {gs : List Rl} (h : 400 < gs.length) : gOk gs = false := by
  unfold gOk; rw [decide_eq_false (by omega)]; rfl
theorem gOk_short {gs : List Rl} (h : gs.length ≤ 400) : gOk gs = (fits gs && small gs) := by
  unfold gOk; rw [decide_eq_true h]; rfl
end Wd
/-- what comes back of the lengths of a valid grammar -/
def LensPost (gs : List Rl) (w : World) (e : Ending) (w' : World) : Prop :=
  ∃ x, e = .returned (.tuple #[x, .bool (gOk gs)]) ∧ (gOk gs = true → OwnsI w' w.heap.size x (lens gs)) ∧ Below w.heap.size w w'

set_option maxHeartbeats 800000 in
theorem lengths_any (p : Nat) (gs : List Rl) (w : World) (hf : FewR gs) (h : GP w p gs) :
    Calls Try.prog 81 #[.pointer (some ⟨p, 0, none⟩)] w (LensPost gs w) := by
  have HC := Lib.hid (sizes_any p gs w hf h)
  obtain ⟨v, hv, A, c, rfl, hr⟩ := h
  have hn := hf.len
  by_cases hlong : 400 < gs.length
  · have HP : Hid (∀ x w', Below w.heap.size w w' → LensPost gs w (.returned (.tuple #[x, .bool false])) w') := Lib.hid fun x w' hb => ⟨x, by rw [gOk_long hlong], fun h' => by (rw [gOk_long hlong] at h'; cases h'), hb⟩
    go_enter Try.func81, Try.ntmps81
    go_wp2
    go_ret2
    exact HP.out _ _ ((Below.refl _ _).alloc (Nat.le_refl _) _)
  · have HP : Hid (∀ e w', SizesPost gs w e w' → ∃ x b, e = .returned (.tuple #[x, .bool b]) ∧ LensPost gs w (.returned (.tuple #[x, .bool b])) w') := Lib.hid fun e w' ⟨x, he, ho, hb⟩ =>
      ⟨x, _, he, x, by rw [gOk_short (by omega)], fun h' => ho (by rw [← gOk_short (by omega)]; exact h'), hb⟩
    clear hr
    go_enter Try.func81, Try.ntmps81
    go_wp2_with fail
    refine HC.out.mono ?_
    intro e w' hp
    obtain ⟨x, b, he, hq⟩ := HP.out e w' hp
    clear hp
    subst he
    have HQ := Lib.hid hq
    clear hq
    go_wp2
    go_ret2
    exact HQ.out

theorem l02Ok_any (p : Nat) (gs : List Rl) (w : World) (hf : FewR gs) (h : GP w p gs) :
    Calls Try.prog 79 #[.pointer (some ⟨p, 0, none⟩)] w fun e w' => e = .returned (.bool (gOk gs)) ∧ Below w.heap.size w w' := by
  have HC := Lib.hid (lengths_any p gs w hf h)
  clear h hf
  go_enter Try.func79, Try.ntmps79
  go_wp2_with fail
  refine HC.out.mono ?_
  rintro e w' ⟨x, rfl, _, hB⟩
  go_wp2
  go_ret
  exact ⟨rfl, hB⟩

end Go.Proofs.Ytaffachjopjbgaa
