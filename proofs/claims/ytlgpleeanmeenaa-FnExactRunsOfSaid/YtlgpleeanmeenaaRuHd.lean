/-
  Walk: laws.heldRunS at marked runs. (Turned from XGramHd by runs2.py.)
-/
import Derived.Test.YtlgpleeanmeenaaRuMk
import Derived.Deep.RegionHeld3
namespace Go.Proofs.Ytlgpleeanmeenaa
open Go.RowKit
open Wd
set_option linter.unusedVariables false
theorem heldU_zero (a : Option Addr) (c : Nat) (k : Int) (w : World) :
    Calls Try.prog 31 #[.slice a 0 c, .int .i64 k] w fun e w' => e = .returned (.int .i64 k) ∧ w = w' := by
  go_enter Try.func31, Try.ntmps31
  go_wp2
  refine wp_loop_rounds 1 ?_
  rw [rounds_succ]
  go_wp2
  go_ret
  exact ⟨rfl, rfl⟩

theorem mkU_at (k n j : Nat) (h : j < n) : (mkU k n)[j]? = some ⟨mkT (k + 2 * j), ((k + 2 * j + 1 : Nat) : Int)⟩ := by
  simp [mkU, h]

set_option maxRecDepth 100000 in
set_option maxHeartbeats 1600000 in
theorem heldU_some (g c n : Nat) (hn : n ≤ 1048576) (k : Nat) (hk1 : k ≤ 100000) (w : World) (hg : g < w.heap.size) (h : ∀ j u, (uv (mkU k n))[j]? = some u → w.cell? ⟨g, j, none⟩ = some u) :
    Calls Try.prog 31 #[.slice (some ⟨g, 0, none⟩) n c, .int .i64 k] w fun e w' => e = .returned (.int .i64 ((k : Int) + 2 * n)) ∧ Below w.heap.size w w' := by
  have H := Lib.hid h
  clear h
  go_enter Try.func31, Try.ntmps31
  go_wp2
  go_loopw [1, 5] (fun q i wr => ∃ j : Nat, j ≤ n ∧ i = .int .i64 j ∧ q = .int .i64 ((k + 2 * j : Nat) : Int) ∧ Below w.heap.size w wr) (fun _ i _ => n - (intOf i).toNat)
  case atStart => exact ⟨0, Nat.zero_le _, rfl, rfl, Below.refl _ _⟩
  case round =>
    obtain ⟨j, hj, rfl, rfl, hB⟩ := hrel
    by_cases hlt : j < n
    · have hjl : j < (mkU k n).length := by rw [mkU_len]; exact hlt
      obtain ⟨c0, c1⟩ := runs_cells H.out hjl
      have hm : (mkU k n)[j] = ⟨mkT (k + 2 * j), ((k + 2 * j + 1 : Nat) : Int)⟩ := by
        have := mkU_at k n j hlt
        rw [List.getElem?_eq_getElem hjl] at this
        simpa using this
      rw [hm] at c0 c1
      have HM := Lib.hid (fun W => markText (k + 2 * j) (by omega) W)
      generalize hq : k + 2 * j = q at HM c0 c1 ⊢
      have HQ := Lib.hid hq
      have hq1 : q ≤ 3500000 := by omega
      simp only at c0 c1
      generalize mkT q = t at *
      have hc := (hB.cell (p := ⟨g, j * 2, none⟩) hg).trans c0
      have hc1 := (hB.cell (p := ⟨g, j * 2 + 1, none⟩) hg).trans c1
      have gl : g < wr.heap.size := Nat.lt_of_lt_of_le hg hB.size
      have HB := Lib.hid hB
      have HC1 := Lib.hid hc1
      clear hq hjl hm c0 c1 hB hc1
      have j0 : (0 : Int) ≤ (j : Int) := by omega
      have j1 : (j : Int) < (n : Int) := by omega
      go_wp2
      go_region_held3 (fun w' => w'.cell? ⟨g, j * 2, none⟩ = some (.string t)) (first | assumption | go_keep) ((first | (go_at_call 75; refine (HM.out _).mono ?_; rintro e w2 ⟨rfl, hb2⟩; have hq2 := (hb2.cell (p := ⟨g, j * 2, none⟩) (by simpa using gl)).trans hc; have HB2 := Lib.hid hb2; clear hb2)))
      have hd1 := (HB2.out.cell (p := ⟨g, j * 2 + 1, none⟩) (by simpa using gl)).trans HC1.out
      have hb3 : Below w.heap.size w w2 := (HB.out.drew).trans (HB2.out.mono (show w.heap.size ≤ wr.drew.heap.size from HB.out.size))
      clear hc hq2
      go_wp2
      go_roundw
      case rel => exact ⟨j + 1, by omega, by go_num, by have := HQ.out; go_num, hb3⟩
      case measure => simp [intOf]; omega
    · have hjn : j = n := by omega
      have HJ := Lib.hid hjn
      clear hjn
      go_wp2
      go_ret
      exact ⟨ret_int (by have := HJ.out; omega), hB⟩

theorem heldRunS_any (v : Value) (n B : Nat) (k : Nat) (hk1 : k ≤ 100000) (w : World) (h : OwnsU w B v (mkU k n)) (hn : n ≤ 1048576) :
    Calls Try.prog 31 #[v, .int .i64 k] w fun e w' => e = .returned (.int .i64 ((k : Int) + 2 * n)) ∧ Below w.heap.size w w' := by
  unfold OwnsU at h
  rw [mkU_len] at h
  rcases h.2 with ⟨rfl, h0⟩ | ⟨g, c, cur, rfl, _, hh, _⟩
  · subst h0
    refine (heldU_zero none 0 k w).mono ?_
    rintro e w1 ⟨rfl, rfl⟩
    exact ⟨by simp, Below.refl _ _⟩
  · have hg := (Array.getElem?_eq_some_iff.1 hh).1
    exact heldU_some g c n hn k hk1 w hg (fun j u hu => by have := h.cells (g := g) rfl j u hu; unfold Addr.add at this; split at this <;> simp_all)
end Go.Proofs.Ytlgpleeanmeenaa
