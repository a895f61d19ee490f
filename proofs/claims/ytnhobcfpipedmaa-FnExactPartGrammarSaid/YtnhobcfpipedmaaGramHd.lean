/-
  Walks: laws.heldRuleS, heldGrammar at marked rules.
-/
import Derived.Test.YtnhobcfpipedmaaGramMk
import Derived.Deep.RegionHeld3
namespace Go.Proofs.Ytnhobcfpipedmaa
open Go.RowKit
open Wd
set_option linter.unusedVariables false

theorem heldR_zero (a : Option Addr) (c : Nat) (k : Int) (w : World) :
    Calls Try.prog 72 #[.slice a 0 c, .int .i64 k] w fun e w' => e = .returned (.int .i64 k) ∧ w = w' := by
  go_enter Try.func72, Try.ntmps72
  go_wp2
  refine wp_loop_rounds 1 ?_
  rw [rounds_succ]
  go_wp2
  go_ret
  exact ⟨rfl, rfl⟩

theorem mkR_at (k n j : Nat) (h : j < n) : (mkR k n)[j]? = some ⟨mkT (k + 3 * j), ((k + 3 * j + 1 : Nat) : Int), ((k + 3 * j + 2 : Nat) : Int)⟩ := by
  simp [mkR, h]

set_option maxRecDepth 100000 in
set_option maxHeartbeats 1600000 in
theorem heldR_some (g c n : Nat) (hn : n ≤ 1048576) (k : Nat) (hk1 : k ≤ 100000) (w : World) (hg : g < w.heap.size) (h : ∀ j u, (rv (mkR k n))[j]? = some u → w.cell? ⟨g, j, none⟩ = some u) :
    Calls Try.prog 72 #[.slice (some ⟨g, 0, none⟩) n c, .int .i64 k] w fun e w' => e = .returned (.int .i64 ((k : Int) + 3 * n)) ∧ Below w.heap.size w w' := by
  have H := Lib.hid h
  clear h
  go_enter Try.func72, Try.ntmps72
  go_wp2
  go_loopw [1, 5] (fun q i wr => ∃ j : Nat, j ≤ n ∧ i = .int .i64 j ∧ q = .int .i64 ((k + 3 * j : Nat) : Int) ∧ Below w.heap.size w wr) (fun _ i _ => n - (intOf i).toNat)
  case atStart => exact ⟨0, Nat.zero_le _, rfl, rfl, Below.refl _ _⟩
  case round =>
    obtain ⟨j, hj, rfl, rfl, hB⟩ := hrel
    by_cases hlt : j < n
    · have hjl : j < (mkR k n).length := by rw [mkR_len]; exact hlt
      obtain ⟨c0, c1, c2⟩ := rules_cells H.out hjl
      have hm : (mkR k n)[j] = ⟨mkT (k + 3 * j), ((k + 3 * j + 1 : Nat) : Int), ((k + 3 * j + 2 : Nat) : Int)⟩ := by
        have := mkR_at k n j hlt
        rw [List.getElem?_eq_getElem hjl] at this
        simpa using this
      rw [hm] at c0 c1 c2
      have HM := Lib.hid (fun W => markText (k + 3 * j) (by omega) W)
      generalize hq : k + 3 * j = q at HM c0 c1 c2 ⊢
      have HQ := Lib.hid hq
      have hq1 : q ≤ 3500000 := by omega
      simp only at c0 c1 c2
      generalize mkT q = t at *
      have hc := (hB.cell (p := ⟨g, j * 3, none⟩) hg).trans c0
      have hc1 := (hB.cell (p := ⟨g, j * 3 + 1, none⟩) hg).trans c1
      have hc2 := (hB.cell (p := ⟨g, j * 3 + 2, none⟩) hg).trans c2
      have gl : g < wr.heap.size := Nat.lt_of_lt_of_le hg hB.size
      have HB := Lib.hid hB
      have HC1 := Lib.hid hc1
      have HC2 := Lib.hid hc2
      clear hq hjl hm c0 c1 c2 hB hc1 hc2
      have j0 : (0 : Int) ≤ (j : Int) := by omega
      have j1 : (j : Int) < (n : Int) := by omega
      go_wp2
      go_region_held3 (fun w' => w'.cell? ⟨g, j * 3, none⟩ = some (.string t)) (first | assumption | go_keep) ((first | (go_at_call 83; refine (HM.out _).mono ?_; rintro e w2 ⟨rfl, hb2⟩; have hq2 := (hb2.cell (p := ⟨g, j * 3, none⟩) (by simpa using gl)).trans hc; have HB2 := Lib.hid hb2; clear hb2)))
      have hd1 := (HB2.out.cell (p := ⟨g, j * 3 + 1, none⟩) (by simpa using gl)).trans HC1.out
      have hd2 := (HB2.out.cell (p := ⟨g, j * 3 + 2, none⟩) (by simpa using gl)).trans HC2.out
      have hb3 : Below w.heap.size w w2 := (HB.out.drew).trans (HB2.out.mono (show w.heap.size ≤ wr.drew.heap.size from HB.out.size))
      clear hc hq2
      go_wp2
      go_roundw
      case rel => exact ⟨j + 1, by omega, by go_num, by have := HQ.out; go_num, hb3⟩
      case measure => simp [intOf]; omega
    · have hjn : j = n := by omega
      have HJ := Lib.hid hjn
      clear hjn
      go_wp2
      go_ret
      exact ⟨ret_int (by have := HJ.out; omega), hB⟩

theorem heldGrammar_any (v : Value) (n B : Nat) (k : Nat) (hk1 : k ≤ 100000) (w : World) (h : OwnsR w B v (mkR k n)) (hn : n ≤ 1048576) :
    Calls Try.prog 21 #[.agg #[v], .int .i64 k] w fun e w' => e = .returned (.int .i64 ((k : Int) + 3 * n)) ∧ Below w.heap.size w w' := by
  have hb := (Below.refl _ w).alloc (Nat.le_refl _) (.cells #[v] 31)
  have h1 := own_below h hb (Nat.le_refl _)
  unfold OwnsR at h1
  rw [mkR_len] at h1
  have hk0 : ¬ ((k : Int) + 3 * n) < 0 := by omega
  rcases h1.2 with ⟨rfl, h0⟩ | ⟨g, c, cur, rfl, _, hh, _⟩
  · have HB := Lib.hid hb
    subst h0
    have HZ := Lib.hid (fun W => heldR_zero none 0 k W)
    clear h h1 hb
    go_enter Try.func21, Try.ntmps21
    go_wp2_with fail
    refine (HZ.out _).mono ?_
    rintro e w1 ⟨rfl, rfl⟩
    go_wp2_with fail
    go_ret
    exact ⟨by simp, HB.out⟩
  · have HB := Lib.hid hb
    have hg := (Array.getElem?_eq_some_iff.1 hh).1
    have HM := Lib.hid (heldR_some g c n hn k hk1 _ hg (fun j u hu => by have := h1.cells (g := g) rfl j u hu; unfold Addr.add at this; split at this <;> simp_all))
    clear h h1 hb hh hg
    go_enter Try.func21, Try.ntmps21
    go_wp2_with fail
    refine HM.out.mono ?_
    rintro e w1 ⟨rfl, hB1⟩
    have HB1 := Lib.hid (HB.out.trans (hB1.mono (by simp)))
    clear hB1
    go_wp2_with fail
    go_ret
    exact ⟨rfl, HB1.out⟩
end Go.Proofs.Ytnhobcfpipedmaa
