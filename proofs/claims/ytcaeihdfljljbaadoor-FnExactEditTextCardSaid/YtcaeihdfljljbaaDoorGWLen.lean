/-
  Walk: impl.wordLength.
-/
import Derived.Test.YtcaeihdfljljbaaDoorVLen
import Derived.Test.YtcaeihdfljljbaaDoorGramOk
namespace Go.Proofs.YtcaeihdfljljbaaDoor
open Go.RowKit
open Wd
set_option linter.unusedVariables false

theorem wordLen_bd' {gs : List Rl} (h : gOk gs = true) : 0 ≤ wordLen gs ∧ wordLen gs ≤ 1000000000000000 := by
  by_cases hg : gs.length = 0
  · rw [wordLen_zero hg]; omega
  · have h1 := lens_pos (show gs.length - 1 < gs.length by omega) fun q hq _ => fits_at (gOk_iff.1 h).2.1 q hq
    have h2 := small_at (gOk_iff.1 h).2.2 (gs.length - 1) (by omega)
    unfold wordLen; omega

/-- impl.wordLength of the lengths of all words -/
theorem wordLength_any (x : Value) (gs : List Rl) (B : Nat) (w : World) (hn : gs.length ≤ 1048576) (h : OwnsI w B x (lens gs)) :
    Calls Tryd.prog 79 #[x] w fun e w' => e = .returned (.int .i64 (wordLen gs)) ∧ w = w' := by
  by_cases h0 : gs.length = 0
  · have hz := wordLen_zero h0
    have hl : (lens gs).length = 0 := by rw [lens_len]; exact h0
    obtain ⟨A, c, rfl⟩ := own_slice h
    rw [hl]
    have HZ := Lib.hid hz
    clear h h0 hz hl
    go_enter Tryd.func79, Tryd.ntmps79
    go_wp2
    go_ret
    exact ⟨ret_int HZ.out.symm, rfl⟩
  · obtain ⟨m, hm⟩ : ∃ m, gs.length = m + 1 := ⟨gs.length - 1, by omega⟩
    have hl : (lens gs).length = m + 1 := by rw [lens_len]; exact hm
    rcases h.shape with ⟨_, h'⟩ | ⟨g, cap, rfl, _⟩
    · rw [h'] at hl; simp at hl
    have hc := h.cell m (by omega)
    have hw : wordLen gs = (lens gs)[m] := by
      unfold wordLen
      rw [hm, Nat.add_sub_cancel, List.getD_eq_getElem?_getD, List.getElem?_eq_getElem (by omega), Option.getD_some]
    rw [← hw] at hc
    rw [hl]
    have hm' : m ≤ 1048576 := by omega
    clear h h0 hw hl hm hn
    go_enter Tryd.func79, Tryd.ntmps79
    go_wp2
    go_ret
    exact ⟨rfl, rfl⟩

end Go.Proofs.YtcaeihdfljljbaaDoor
