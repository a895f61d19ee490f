/-
  What a cover comes to, in stretches: bounds; the whole word's stretch.
-/
import Derived.Test.YtcaeihdfljljbaaLrM
import Derived.Test.YtcaeihdfljljbaaCovB
import Derived.Test.YtcaeihdfljljbaaAccQ
namespace Go.Proofs.Ytcaeihdfljljbaa
open Go.RowKit
set_option linter.unusedVariables false
namespace Wd
def stNil : List Int := [0, 0, 0, 0]
theorem stNil_ok : stOk 0 stNil := ⟨rfl, rfl, ⟨by decide, by decide⟩, ⟨by decide, by decide⟩, ⟨by decide, by decide⟩, by decide, by decide, fun h => h, fun h => h⟩
/-- the stretch of a part -/
def stPart (l : Nat) (gs : List Rl) (i j : Int) : List Int := if i = j then stNil else accV stJ stNil (stAt l gs) (covA gs i j)
/-- four numbers, none too great -/
def stB (u : List Int) : Prop := u.length = 4 ∧ ∀ i, i < 4 → 0 ≤ u.getD i 0 ∧ u.getD i 0 ≤ 1000000000000000
theorem stB_of {n : Int} {u : List Int} (h : stOk n u) (hn : n ≤ 1000000000000000) : stB u := by
  obtain ⟨h4, h0, ⟨a1, a2⟩, ⟨a3, a4⟩, ⟨a5, a6⟩, _⟩ := h
  refine ⟨h4, fun i hi => ?_⟩
  obtain rfl | rfl | rfl | rfl : i = 0 ∨ i = 1 ∨ i = 2 ∨ i = 3 := by omega
  all_goals omega
theorem stAcc_ok {l : Nat} {gs : List Rl} (hok : gOk gs = true) (hg : 0 < gs.length) (i j : Int) (m : Nat) : stB (accV stJ stNil (stAt l gs) ((covA gs i j).take m)) := by
  have h1 := acc_all (gs := gs) (V := stAt l gs) stOk stOk_J0 (fun k hk => ⟨lens_pos hk fun q hq _ => fits_at (gOk_iff.1 hok).2.1 q hq, stAt_ok hok hk⟩) ((covA gs i j).take m) 0 stNil (by omega) (fun q hq => covA_lt hok hg i j q (List.mem_of_mem_take hq)) stNil_ok
  have h2 := lenC_take hok (covA_lt hok hg i j) m
  have h3 := covA_len hok hg i j
  have h4 := small_at (gOk_iff.1 hok).2.2 (gs.length - 1) (by omega)
  exact stB_of h1 (by omega)
theorem four_ofs {u : List Int} (h : u.length = 4) : u = [u.getD 0 0, u.getD 1 0, u.getD 2 0, u.getD 3 0] := by
  match u, h with
  | [a, b, c, d], _ => rfl
/-- the whole word's stretch -/
theorem stPart_whole {l : Nat} {gs : List Rl} (hok : gOk gs = true) (hg : 0 < gs.length) : stPart l gs 0 (wordLen gs) = stAt l gs (gs.length - 1) := by
  have hp := lens_pos (show gs.length - 1 < gs.length by omega) fun q hq _ => fits_at (gOk_iff.1 hok).2.1 q hq
  have hc : covA gs 0 (wordLen gs) = [((gs.length - 1 : Nat) : Int)] := cover_whole hok hg
  unfold stPart
  rw [if_neg (by unfold wordLen; omega), hc]
  obtain ⟨h4, h0, ⟨a1, a2⟩, ⟨a3, a4⟩, ⟨a5, a6⟩, a7, a8, _⟩ := stAt_ok (l := l) hok (show gs.length - 1 < gs.length by omega)
  simp only [accV, List.foldl_cons, List.foldl_nil, Int.toNat_natCast]
  conv => rhs; rw [four_ofs h4]
  generalize stAt l gs (gs.length - 1) = u at *
  show [0 + u.getD 0 0, if (0 : Int) = 0 then 0 + u.getD 1 0 else 0, if u.getD 2 0 = u.getD 0 0 then u.getD 2 0 + 0 else u.getD 2 0, max (max 0 (u.getD 3 0)) (0 + u.getD 1 0)] = _
  rw [if_pos rfl, Int.zero_add, Int.zero_add, Int.add_zero, ite_self, show max (max 0 (u.getD 3 0)) (u.getD 1 0) = u.getD 3 0 from by omega]
end Wd
end Go.Proofs.Ytcaeihdfljljbaa
