/-
  Walks: slices.Clone at rules, spec.l02Own: a copy of one's own.
-/
import Derived.Test.YtnhobcfpipedmaaAppN
import Derived.Test.YtnhobcfpipedmaaVar
import Derived.Lib.SliceRun
import Derived.WalkSpells
namespace Go.Proofs.Ytnhobcfpipedmaa
open Go.RowKit
open Wd
set_option linter.unusedVariables false

set_option maxRecDepth 100000 in
set_option maxHeartbeats 1600000 in
theorem clone_any (v : Value) (gs : List Rl) (w : World) (hn : gs.length ≤ 1048576) (h : Rules w v gs) :
    Calls Try.prog 71 #[v] w fun e w' => ∃ y, e = .returned y ∧ OwnsR w' w.heap.size y gs ∧ Below w.heap.size w w' := by
  obtain ⟨i0, hi, hz0, hz1, hz2⟩ := info_parts Try.info_rule
  have qT : ∀ (w : World) (a : Option Addr) (n c n' c' : Nat), (binOp .eql 29 (.slice a n c) (.slice none n' c')).run Try.prog w = .ok (.bool a.isNone) w := fun w a n c n' c' => Lib.run_eql_slice_nil w _ _ a n c n' c' Try.underlying29
  rcases rules_cases h with ⟨c, rfl, rfl⟩ | ⟨ad, c, rfl, hc⟩
  · clear h
    go_enter Try.func71, Try.ntmps71
    go_wp2
    go_ret
    exact ⟨_, rfl, World.ownsRow_nil _ _ _ _, Below.refl _ _⟩
  · have HC := Lib.hid hc
    have hb := (Below.refl _ w).alloc (Nat.le_refl _) (.cells #[] 94)
    have HB := Lib.hid hb
    have HL := Lib.hid (World.ownsRow_lit (base := w.heap.size) (e := 94) (size := 3) w #[] 0 (Nat.le_refl _) (by decide) rfl)
    clear h hc hb
    go_enter Try.func71, Try.ntmps71
    go_wp2_with (first | (at_builtin; refine wpList_append_own _ rfl _ _ 29 rfl w.heap.size 94 i0 (.agg #[.string ⟨#[]⟩, .int .i64 0, .int .i64 0]) 3 32 Try.underlying29 hi hz0 hz1 hz2 rfl (by decide) _ _ _ rfl HL.out ad gs.length c (rv gs) rfl (rv_len gs) (fun j u hu => (HB.out.cell (lt_of_cell (HC.out j u hu))).trans (HC.out j u hu)) (rv_cell gs) (by unfold maxLen; omega) (by omega) (by simp) ?_))
    intro v' w1 hown hg _
    have HO : Hid (OwnsR w1 w.heap.size v' gs) := Lib.hid (by
      unfold OwnsR
      simpa using hown)
    have HBF := Lib.hid (HB.out.grown hg (by simp) (fun q hq => (HL.out.lt q hq).1))
    clear hown hg
    go_wp2
    go_ret
    exact ⟨_, rfl, HO.out, HBF.out⟩

set_option maxRecDepth 100000 in
set_option maxHeartbeats 1600000 in
theorem own_any (p : Nat) (gs : List Rl) (w : World) (hn : gs.length ≤ 1048576) (h : GP w p gs) :
    Calls Try.prog 116 #[.pointer (some ⟨p, 0, none⟩)] w fun e w' => ∃ y, e = .returned (.agg #[y]) ∧ OwnsR w' w.heap.size y gs ∧ Below w.heap.size w w' := by
  obtain ⟨i0, hi, hz0, hz1, hz2⟩ := info_parts Try.info_rule
  obtain ⟨v, hv, hr⟩ := h
  have hlp := lt_of_cell hv
  have hb : Below w.heap.size w ((w.alloc (.cells #[.slice none 0 0] 31)).alloc (.cells #[] 94)) := ((Below.refl _ w).alloc (Nat.le_refl _) _).alloc (by simp) _
  have HB := Lib.hid hb
  have hl0 := World.ownsRow_lit (base := w.heap.size + 1) (e := 94) (size := 3) (w.alloc (.cells #[.slice none 0 0] 31)) #[] 0 (by simp) (by decide) rfl
  rw [show (w.alloc (.cells #[.slice none 0 0] 31)).heap.size = w.heap.size + 1 from by simp] at hl0
  have HL := Lib.hid hl0
  clear hl0
  rcases rules_cases hr with ⟨c, rfl, rfl⟩ | ⟨ad, c, rfl, hc⟩
  · clear hr hb
    go_enter Try.func116, Try.ntmps116
    go_wp2
    refine bodyPost_ret (v := .agg #[.slice (some ⟨w.heap.size + 1, 0, none⟩) 0 0]) (by simp [results, Try.results116, go_sem]) rfl ⟨_, rfl, ?_, ((Below.refl _ w).alloc (Nat.le_refl _) _).alloc (by simp) _⟩
    have := World.ownsRow_lit (base := w.heap.size) (e := 94) (size := 3) (w.alloc (.cells #[.slice (some ⟨w.heap.size + 1, 0, none⟩) 0 0] 31)) #[] 0 (by simp) (by decide) rfl
    rw [show (w.alloc (.cells #[.slice (some ⟨w.heap.size + 1, 0, none⟩) 0 0] 31)).heap.size = w.heap.size + 1 from by simp] at this
    exact this
  · have HC := Lib.hid hc
    clear hr hc hb
    go_enter Try.func116, Try.ntmps116
    go_wp2_with (first | (at_builtin; refine wpList_append_own _ rfl _ _ 29 rfl (w.heap.size + 1) 94 i0 (.agg #[.string ⟨#[]⟩, .int .i64 0, .int .i64 0]) 3 32 Try.underlying29 hi hz0 hz1 hz2 rfl (by decide) _ _ _ rfl HL.out ad gs.length c (rv gs) rfl (rv_len gs) (fun j u hu => (HB.out.cell (lt_of_cell (HC.out j u hu))).trans (HC.out j u hu)) (rv_cell gs) (by unfold maxLen; omega) (by omega) (by simp) ?_))
    intro v' w1 hown hg _
    obtain ⟨Ay, cy, rfl⟩ := own_slice hown
    have HO := Lib.hid hown
    have hlt : ∀ q, (Value.slice (some ⟨w.heap.size + 1, 0, none⟩) 0 0).ownBlock = some q → w.heap.size + 1 ≤ q := fun q hq => (HL.out.lt q hq).1
    have hne : some w.heap.size ≠ (Value.slice (some ⟨w.heap.size + 1, 0, none⟩) 0 0).ownBlock := fun e => by have := hlt _ e.symm; omega
    have hblk := hg.block w.heap.size (by simp; omega) hne
    have hc1 : w1.cell? ⟨w.heap.size, 0, none⟩ = some (.slice none 0 0) := by
      rw [World.cell?_of_block (a := ⟨w.heap.size, 0, none⟩) hblk, ((Below.refl _ (w.alloc _)).alloc (Nat.le_refl _) _).cell (p := ⟨w.heap.size, 0, none⟩) (by simp)]; exact cell_new _ _ _
    have hf1 : w1.frozen? ⟨w.heap.size, 0, none⟩ = false := by
      have h1 : w1.frozen? ⟨w.heap.size, 0, none⟩ = ((w.alloc (.cells #[.slice none 0 0] 31)).alloc (.cells #[] 94)).frozen? ⟨w.heap.size, 0, none⟩ := by
        simp only [World.frozen?, hblk]
      rw [h1]
      have hb2 := (Below.heap_alloc (w.alloc (.cells #[.slice none 0 0] 31)) (.cells #[] 94) w.heap.size (by simp)).trans (heap_alloc_new w (.cells #[.slice none 0 0] 31))
      simp [World.frozen?, hb2]
    have HBF := Lib.hid (HB.out.grown hg (by simp; omega) (fun q hq => by have := hlt q hq; omega))
    clear hown hg hblk hlt hne
    go_wp2
    refine bodyPost_ret (v := .agg #[.slice Ay (0 + gs.length) cy]) (by simp [results, Try.results116, go_sem, hc1]) rfl ⟨_, rfl, ?_, HBF.out.setCell (by simp) _⟩
    have h2 := own_setLow HO.out ⟨w.heap.size, 0, none⟩ (.slice Ay (0 + gs.length) cy) (by simp)
    have h3 := own_lower h2 (show w.heap.size ≤ w.heap.size + 1 by omega)
    unfold OwnsR
    simpa using h3
end Go.Proofs.Ytnhobcfpipedmaa
