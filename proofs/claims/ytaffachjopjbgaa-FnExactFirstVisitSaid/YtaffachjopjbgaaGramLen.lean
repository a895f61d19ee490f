/-
  Walk: spec.l02Length.
-/
import Derived.Test.YtaffachjopjbgaaGramOk
namespace Go.Proofs.Ytaffachjopjbgaa
open Go.RowKit
open Wd
set_option linter.unusedVariables false

set_option maxHeartbeats 800000 in
/-- spec.l02Length of a grammar whose rules are right -/
theorem l02Length_any (p : Nat) (gs : List Rl) (w : World) (hf : FewR gs) (h : GP w p gs) (hok : (fits gs && small gs) = true) :
    Calls Try.prog 100 #[.pointer (some ⟨p, 0, none⟩)] w fun e w' => e = .returned (.int .i64 (wordLen gs)) ∧ Below w.heap.size w w' := by
  have HC := Lib.hid (sizes_any p gs w hf h)
  have hn := hf.len
  clear h hf
  have HK := Lib.hid hok
  clear hok
  go_enter Try.func100, Try.ntmps100
  go_wp2_with fail
  refine HC.out.mono ?_
  rintro e w' ⟨x, rfl, ho, hB⟩
  rw [HK.out]
  have ho := ho HK.out
  by_cases h0 : gs.length = 0
  · have hz := wordLen_zero h0
    have hl : (lens gs).length = 0 := by rw [lens_len]; exact h0
    obtain ⟨A, c, rfl⟩ := own_slice ho
    rw [hl]
    have HZ := Lib.hid hz
    clear ho h0 hz hl
    go_wp2
    go_ret
    exact ⟨ret_int HZ.out.symm, hB⟩
  · obtain ⟨m, hm⟩ : ∃ m, gs.length = m + 1 := ⟨gs.length - 1, by omega⟩
    have hl : (lens gs).length = m + 1 := by rw [lens_len]; exact hm
    rcases ho.shape with ⟨_, h'⟩ | ⟨g, cap, rfl, _⟩
    · rw [h'] at hl; simp at hl
    have hc := ho.cell m (by omega)
    have hw : wordLen gs = (lens gs)[m] := by
      unfold wordLen
      rw [hm, Nat.add_sub_cancel, List.getD_eq_getElem?_getD, List.getElem?_eq_getElem (by omega), Option.getD_some]
    rw [← hw] at hc
    rw [hl]
    have hm' : m ≤ 1048576 := by omega
    clear ho h0 hw hl hm hn
    go_wp2
    go_ret
    exact ⟨rfl, hB⟩
end Go.Proofs.Ytaffachjopjbgaa
