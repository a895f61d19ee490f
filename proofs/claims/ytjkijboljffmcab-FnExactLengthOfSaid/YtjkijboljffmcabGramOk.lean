/-
  Walks: spec.l02Lengths, l02Ok, l02Length.
-/
import Derived.Test.YtjkijboljffmcabGramSpec
namespace Go.Proofs.Ytjkijboljffmcab
open Go.RowKit
open Wd
set_option linter.unusedVariables false

namespace Wd
/-- the length of the last word -/
def wordLen (gs : List Rl) : Int := (lens gs).getD (gs.length - 1) 0
theorem wordLen_zero {gs : List Rl} (h : gs.length = 0) : wordLen gs = 0 := by
  have : gs = [] := List.eq_nil_of_length_eq_zero h
  subst this; rfl
theorem gOk_len {gs : List Rl} (h : gOk gs = true) : gs.length ≤ 400 := (gOk_iff.1 h).1
theorem gOk_fs {gs : List Rl} (h : gOk gs = true) : (fits gs && small gs) = true := by
  have := gOk_iff.1 h; simp [this.2.1, this.2.2]
theorem gOk_long {gs : List Rl} (h : 400 < gs.length) : gOk gs = false := by
  unfold gOk; rw [decide_eq_false (by omega)]; rfl
theorem gOk_short {gs : List Rl} (h : gs.length ≤ 400) : gOk gs = (fits gs && small gs) := by
  unfold gOk; rw [decide_eq_true h]; rfl
end Wd
/-- what comes back of the lengths of a valid grammar -/
def LensPost (gs : List Rl) (w : World) (e : Ending) (w' : World) : Prop :=
  ∃ x, e = .returned (.tuple #[x, .bool (gOk gs)]) ∧ (gOk gs = true → OwnsI w' w.heap.size x (lens gs)) ∧ Below w.heap.size w w'

set_option maxHeartbeats 800000 in
theorem lengths_any (p : Nat) (gs : List Rl) (w : World) (hf : FewR gs) (h : GP w p gs) :
    Calls Try.prog 56 #[.pointer (some ⟨p, 0, none⟩)] w (LensPost gs w) := by
  have HC := Lib.hid (sizes_any p gs w hf h)
  obtain ⟨v, hv, A, c, rfl, hr⟩ := h
  have hn := hf.len
  by_cases hlong : 400 < gs.length
  · have HP : Hid (∀ x w', Below w.heap.size w w' → LensPost gs w (.returned (.tuple #[x, .bool false])) w') := Lib.hid fun x w' hb => ⟨x, by rw [gOk_long hlong], fun h' => by (rw [gOk_long hlong] at h'; cases h'), hb⟩
    go_enter Try.func56, Try.ntmps56
    go_wp2
    go_ret2
    exact HP.out _ _ ((Below.refl _ _).alloc (Nat.le_refl _) _)
  · have HP : Hid (∀ e w', SizesPost gs w e w' → ∃ x b, e = .returned (.tuple #[x, .bool b]) ∧ LensPost gs w (.returned (.tuple #[x, .bool b])) w') := Lib.hid fun e w' ⟨x, he, ho, hb⟩ =>
      ⟨x, _, he, x, by rw [gOk_short (by omega)], fun h' => ho (by rw [← gOk_short (by omega)]; exact h'), hb⟩
    clear hr
    go_enter Try.func56, Try.ntmps56
    go_wp2_with fail
    refine HC.out.mono ?_
    intro e w' hp
    obtain ⟨x, b, he, hq⟩ := HP.out e w' hp
    clear hp
    subst he
    have HQ := Lib.hid hq
    clear hq
    go_wp2
    go_ret2
    exact HQ.out

theorem l02Ok_any (p : Nat) (gs : List Rl) (w : World) (hf : FewR gs) (h : GP w p gs) :
    Calls Try.prog 45 #[.pointer (some ⟨p, 0, none⟩)] w fun e w' => e = .returned (.bool (gOk gs)) ∧ Below w.heap.size w w' := by
  have HC := Lib.hid (lengths_any p gs w hf h)
  clear h hf
  go_enter Try.func45, Try.ntmps45
  go_wp2_with fail
  refine HC.out.mono ?_
  rintro e w' ⟨x, rfl, _, hB⟩
  go_wp2
  go_ret
  exact ⟨rfl, hB⟩

set_option maxHeartbeats 800000 in
/-- spec.l02Length of a grammar whose rules are right -/
theorem l02Length_any (p : Nat) (gs : List Rl) (w : World) (hf : FewR gs) (h : GP w p gs) (hok : (fits gs && small gs) = true) :
    Calls Try.prog 53 #[.pointer (some ⟨p, 0, none⟩)] w fun e w' => e = .returned (.int .i64 (wordLen gs)) ∧ Below w.heap.size w w' := by
  have HC := Lib.hid (sizes_any p gs w hf h)
  have hn := hf.len
  clear h hf
  have HK := Lib.hid hok
  clear hok
  go_enter Try.func53, Try.ntmps53
  go_wp2_with fail
  refine HC.out.mono ?_
  rintro e w' ⟨x, rfl, ho, hB⟩
  rw [HK.out]
  have ho := ho HK.out
  by_cases h0 : gs.length = 0
  · have hz := wordLen_zero h0
    have hl : (lens gs).length = 0 := by rw [lens_len]; exact h0
    obtain ⟨A, c, rfl⟩ := own_slice ho
    rw [hl]
    have HZ := Lib.hid hz
    clear ho h0 hz hl
    go_wp2
    go_ret
    exact ⟨ret_int HZ.out.symm, hB⟩
  · obtain ⟨m, hm⟩ : ∃ m, gs.length = m + 1 := ⟨gs.length - 1, by omega⟩
    have hl : (lens gs).length = m + 1 := by rw [lens_len]; exact hm
    rcases ho.shape with ⟨_, h'⟩ | ⟨g, cap, rfl, _⟩
    · rw [h'] at hl; simp at hl
    have hc := ho.cell m (by omega)
    have hw : wordLen gs = (lens gs)[m] := by
      unfold wordLen
      rw [hm, Nat.add_sub_cancel, List.getD_eq_getElem?_getD, List.getElem?_eq_getElem (by omega), Option.getD_some]
    rw [← hw] at hc
    rw [hl]
    have hm' : m ≤ 1048576 := by omega
    clear ho h0 hw hl hm hn
    go_wp2
    go_ret
    exact ⟨rfl, hB⟩
end Go.Proofs.Ytjkijboljffmcab
