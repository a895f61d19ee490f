/-
  Walk: laws.szEdit.
-/
import Derived.Test.YtcaeihdfljljbaaDoorEdB
import Derived.StillTailTactics
namespace Go.Proofs.YtcaeihdfljljbaaDoor
open Go.RowKit
open Wd
set_option linter.unusedVariables false
set_option maxHeartbeats 1600000 in
theorem szEdit_any (x : Ed) (A : Option Addr) (n cap : Nat) (left : Int) (w : World) (hl : n ≤ maxLen) (h : InRules w A n x.gs) (hm : x.m.size ≤ maxLen) (h0 : 0 ≤ left) (h1 : left ≤ 1048576) :
    Calls Tryd.prog 15 #[edV x (.slice A n cap), .int .i64 left] w fun e w' => ∃ y, e = .returned (.int .i64 y) ∧ Below w.heap.size w w' ∧ (y = -1 ∨ (0 ≤ y ∧ y ≤ left ∧ FewE x)) := by
  obtain ⟨k, i, j, t, gs, m⟩ := x
  simp only at h hm
  unfold maxLen at hm
  have hb := (Below.refl _ w).alloc (Nat.le_refl _) (.cells #[.int .i64 k, .int .i64 i, .int .i64 j, .int .i64 t, .slice A n cap, .string m] 39)
  have hP := heap_alloc_new w (.cells #[.int .i64 k, .int .i64 i, .int .i64 j, .int .i64 t, .slice A n cap, .string m] 39)
  have HZ := Lib.hid (szGrammar_any A n cap gs left _ hl (h.kept hb) h0 h1)
  have HB := Lib.hid hb
  have HP := Lib.hid hP
  have HW := Lib.hid (show w.heap.size < (w.alloc (.cells #[.int .i64 k, .int .i64 i, .int .i64 j, .int .i64 t, .slice A n cap, .string m] 39)).heap.size by simp)
  have HF : Hid (0 ≤ purse left gs → (m.size : Int) ≤ purse left gs → FewE ⟨k, i, j, t, gs, m⟩) := Lib.hid (fun hp hq => by
    unfold purse at hp hq
    split at hp
    · next hs =>
      rw [if_pos hs] at hq
      refine ⟨?_, ?_⟩
      · show gs.length + sumL gs ≤ 1048576
        omega
      · show m.size ≤ 1048576
        omega
    · omega)
  have hpl : purse left gs ≤ left ∧ -1 ≤ purse left gs := by
    unfold purse
    split <;> omega
  clear h hb hP
  show Calls Tryd.prog _ #[.agg #[.int .i64 k, .int .i64 i, .int .i64 j, .int .i64 t, .slice A n cap, .string m], .int .i64 left] _ _
  obtain ⟨P, hPu⟩ : ∃ P, P = purse left gs := ⟨_, rfl⟩
  rw [← hPu] at HZ HF hpl
  clear hPu
  by_cases hneg : P < 0
  · go_enter Tryd.func15, Tryd.ntmps15
    go_wp2_with fail
    refine HZ.out.mono ?_
    rintro e w1 ⟨rfl, hB1⟩
    have hP1 := (hB1.block w.heap.size HW.out).trans HP.out
    obtain ⟨⟨_, _, _, _, p4, p5⟩, _⟩ := blk6_cells hP1
    have HB1 := Lib.hid (HB.out.trans (hB1.mono (by simp)))
    clear hB1 hP1
    go_wp2_with fail
    go_ret
    exact ⟨_, rfl, HB1.out, .inl rfl⟩
  · by_cases h2 : P - (m.size : Int) < 0
    all_goals
      go_enter Tryd.func15, Tryd.ntmps15
      go_wp2_with fail
      refine HZ.out.mono ?_
      rintro e w1 ⟨rfl, hB1⟩
      have hP1 := (hB1.block w.heap.size HW.out).trans HP.out
      obtain ⟨⟨_, _, _, _, p4, p5⟩, _⟩ := blk6_cells hP1
      have HB1 := Lib.hid (HB.out.trans (hB1.mono (by simp)))
      clear hB1 hP1
      go_wp2_with fail
      go_ret
    · exact ⟨_, rfl, HB1.out, .inl rfl⟩
    · exact ⟨_, rfl, HB1.out, .inr ⟨by omega, by omega, HF.out (by omega) (by omega)⟩⟩
end Go.Proofs.YtcaeihdfljljbaaDoor
