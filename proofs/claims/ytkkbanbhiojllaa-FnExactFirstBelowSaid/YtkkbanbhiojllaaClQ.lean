/-
  What a cover comes to, in climbs: bounds.
-/
import Derived.Test.YtkkbanbhiojllaaClM
import Derived.Test.YtkkbanbhiojllaaTaQ
namespace Go.Proofs.Ytkkbanbhiojllaa
open Go.RowKit
set_option linter.unusedVariables false
namespace Wd
def clNil : List Int := [0, 0, 0]
theorem clNil_ok : clOk 0 clNil := ⟨rfl, ⟨by decide, by decide⟩, ⟨by decide, by decide⟩, by decide, by decide⟩
theorem clOk_mono {m n : Int} {u : List Int} (h : clOk m u) (hm : m ≤ n) : clOk n u := by
  obtain ⟨h0, ⟨a1, a2⟩, ⟨a3, a4⟩, a5, a6⟩ := h
  exact ⟨h0, ⟨by omega, by omega⟩, ⟨by omega, a4⟩, a5, by omega⟩
/-- the climb of a part -/
def clPart (ws : List Int) (gs : List Rl) (i j : Int) : List Int := if i = j then clNil else accV clJ clNil (clAt ws gs) (covA gs i j)
theorem clAcc_ok {ws : List Int} {gs : List Rl} (hw : wOk ws) (hok : gOk gs = true) (hg : 0 < gs.length) (i j : Int) (m : Nat) : clOk 1000000000000000 (accV clJ clNil (clAt ws gs) ((covA gs i j).take m)) := by
  have h1 := acc_all (gs := gs) (V := clAt ws gs) clOk clOk_J0 (fun k hk => ⟨lens_pos hk fun q hq _ => fits_at (gOk_iff.1 hok).2.1 q hq, clAt_ok hw hok hk⟩) ((covA gs i j).take m) 0 clNil (by omega) (fun q hq => covA_lt hok hg i j q (List.mem_of_mem_take hq)) clNil_ok
  have h2 := lenC_take hok (covA_lt hok hg i j) m
  have h3 := covA_len hok hg i j
  have h4 := small_at (gOk_iff.1 hok).2.2 (gs.length - 1) (by omega)
  exact clOk_mono h1 (by omega)
/-- the whole word's climb -/
theorem clPart_whole {ws : List Int} {gs : List Rl} (hw : wOk ws) (hok : gOk gs = true) (hg : 0 < gs.length) : clPart ws gs 0 (wordLen gs) = clAt ws gs (gs.length - 1) := by
  have hp := lens_pos (show gs.length - 1 < gs.length by omega) fun q hq _ => fits_at (gOk_iff.1 hok).2.1 q hq
  have hc : covA gs 0 (wordLen gs) = [((gs.length - 1 : Nat) : Int)] := cover_whole hok hg
  unfold clPart
  rw [if_neg (by unfold wordLen; omega), hc]
  obtain ⟨h3, _, ⟨_, a4⟩, a5, _⟩ := clAt_ok hw hok (show gs.length - 1 < gs.length by omega)
  simp only [accV, List.foldl_cons, List.foldl_nil, Int.toNat_natCast]
  conv => rhs; rw [three_of h3]
  generalize (clAt ws gs (gs.length - 1)) = u at *
  show [0 + u.getD 0 0, min 0 (0 + u.getD 1 0), max 0 (0 + u.getD 2 0)] = _
  rw [Int.zero_add, Int.zero_add, Int.zero_add, show min 0 (u.getD 1 0) = u.getD 1 0 from by omega, show max 0 (u.getD 2 0) = u.getD 2 0 from by omega]
end Wd
end Go.Proofs.Ytkkbanbhiojllaa
