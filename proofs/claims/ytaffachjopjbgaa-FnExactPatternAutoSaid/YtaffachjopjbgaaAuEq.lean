/-
  Walks: laws.eqInt64S, eqInt64SS, eqAuto at what reads the same.
-/
import Derived.Test.YtaffachjopjbgaaAuTo2
import Derived.StillTailTactics
import Derived.BigQuiet
namespace Go.Proofs.Ytaffachjopjbgaa
open Go.RowKit
open Wd
set_option linter.unusedVariables false

set_option maxRecDepth 100000 in
set_option maxHeartbeats 800000 in
theorem eqL_any (u v : Value) (zs : List Int) (w : World) (hn : zs.length ≤ 1048576) (h1 : IsL w u zs) (h2 : IsL w v zs) :
    Calls Try.prog 35 #[u, v] w fun e w' => e = .returned (.bool true) ∧ Below w.heap.size w w' := by
  obtain ⟨A1, c1, rfl, h1⟩ := h1
  obtain ⟨A2, c2, rfl, h2⟩ := h2
  obtain ⟨n, hng⟩ : ∃ n, n = zs.length := ⟨_, rfl⟩
  rw [← hng] at hn ⊢
  have HN := Lib.hid hng
  have H1 := Lib.hid h1
  have H2 := Lib.hid h2
  clear h1 h2 hng
  go_enter Try.func35, Try.ntmps35
  go_wp2
  go_loopw [5] (fun i wr => ∃ k : Nat, k ≤ n ∧ i = .int .i64 k ∧ Below w.heap.size w wr) (fun i _ => n - (intOf i).toNat)
  case atStart => exact ⟨0, Nat.zero_le _, rfl, Below.refl _ _⟩
  case round =>
    obtain ⟨k, hk, rfl, hB⟩ := hrel
    by_cases hlt : k < n
    · have hkg : k < zs.length := by rw [← HN.out]; exact hlt
      rcases H1.out with hn | ⟨x, rfl, hc1⟩
      · rw [hn] at hkg; simp at hkg
      rcases H2.out with hn | ⟨y, rfl, hc2⟩
      · rw [hn] at hkg; simp at hkg
      have a0 := (hB.cell (lt_of_cell (hc1 k hkg))).trans (hc1 k hkg)
      have b0 := (hB.cell (lt_of_cell (hc2 k hkg))).trans (hc2 k hkg)
      generalize zs[k] = z at *
      have HB := Lib.hid hB
      clear hc1 hc2 hB hkg
      go_wp2
      go_quiet (fail)
      go_wp2
      go_roundw
      case rel => exact ⟨k + 1, by omega, by go_num, HB.out.trans (((Drawn.refl _).drewN _).below _)⟩
      case measure => simp [intOf]; omega
    · go_wp2
      go_ret
      exact ⟨rfl, hB⟩
set_option maxRecDepth 100000 in
set_option maxHeartbeats 800000 in
theorem eqLL_any (u v : Value) (xss : List (List Int)) (w : World) (hn : xss.length ≤ 1048576) (hr : ∀ r ∈ xss, r.length ≤ 1048576) (h1 : IsLL w u xss) (h2 : IsLL w v xss) :
    Calls Try.prog 52 #[u, v] w fun e w' => e = .returned (.bool true) ∧ Below w.heap.size w w' := by
  have HU := Lib.hid (fun W (hb : Below w.heap.size w W) => h1.kept hb)
  have HV := Lib.hid (fun W (hb : Below w.heap.size w W) => h2.kept hb)
  have HR := Lib.hid hr
  obtain ⟨A1, c1, rfl, h1⟩ := h1
  obtain ⟨A2, c2, rfl, h2⟩ := h2
  obtain ⟨n, hng⟩ : ∃ n, n = xss.length := ⟨_, rfl⟩
  rw [← hng] at hn HU HV ⊢
  have HN := Lib.hid hng
  have H1 := Lib.hid h1
  have H2 := Lib.hid h2
  clear h1 h2 hng hr
  go_enter Try.func52, Try.ntmps52
  go_wp2
  go_loopw [5] (fun i wr => ∃ k : Nat, k ≤ n ∧ i = .int .i64 k ∧ Below w.heap.size w wr) (fun i _ => n - (intOf i).toNat)
  case atStart => exact ⟨0, Nat.zero_le _, rfl, Below.refl _ _⟩
  case round =>
    obtain ⟨k, hk, rfl, hB⟩ := hrel
    obtain ⟨wo, rfl⟩ : ∃ wo : World, wo = wr := ⟨_, rfl⟩
    by_cases hlt : k < n
    · have hkg : k < xss.length := by rw [← HN.out]; exact hlt
      rcases H1.out with hn | ⟨x, rfl, hc1⟩
      · rw [hn] at hkg; simp at hkg
      rcases H2.out with hn | ⟨y, rfl, hc2⟩
      · rw [hn] at hkg; simp at hkg
      obtain ⟨u1, a1, i1⟩ := hc1 k hkg
      obtain ⟨u2, a2, i2⟩ := hc2 k hkg
      have a0 := (hB.cell (lt_of_cell a1)).trans a1
      have b0 := (hB.cell (lt_of_cell a2)).trans a2
      have hm := HR.out _ (List.getElem_mem hkg)
      have HQ := Lib.hid (fun W (hb : Below w.heap.size w W) => eqL_any u1 u2 xss[k] W hm (i1.kept hb) (i2.kept hb))
      have HB := Lib.hid hB
      obtain ⟨A3, c3, rfl⟩ := i1.shape
      obtain ⟨A4, c4, rfl⟩ := i2.shape
      generalize xss[k].length = m at *
      clear hc1 hc2 hB hkg a1 a2 i1 i2
      go_wp2
      go_still_tail 8, (by kernel_rfl)
      change wpList _ _ _ _ _ wo.drew
      have hB2 : Below w.heap.size w wo.drew := HB.out.drew
      generalize wo.drew = w2 at hB2 ⊢
      clear HB a0 b0
      have HB2 := Lib.hid hB2
      clear hB2
      go_wp2_with fail
      refine (HQ.out _ HB2.out).mono ?_; rintro e w' ⟨rfl, hB'⟩
      have hB3 := HB2.out.trans (hB'.mono HB2.out.size)
      clear hB'
      go_wp2
      go_roundw
      case rel => exact ⟨k + 1, by omega, by go_num, hB3⟩
      case measure => simp [intOf]; omega
    · go_wp2
      go_ret
      exact ⟨rfl, hB⟩
set_option maxRecDepth 100000 in
set_option maxHeartbeats 1600000 in
theorem eqAuto_any (u v : Value) (x : Au) (w : World) (hf : FewA x) (h1 : IsAu w u x) (h2 : IsAu w v x) :
    Calls Try.prog 23 #[u, v] w fun e w' => e = .returned (.bool true) ∧ Below w.heap.size w w' := by
  obtain ⟨f1, n1, rfl, hF1, hN1⟩ := h1
  obtain ⟨f2, n2, rfl, hF2, hN2⟩ := h2
  have hB0 : Below w.heap.size w ((w.alloc (.cells #[.int .i64 x.st, .int .i64 x.go, f1, n1] 33)).alloc (.cells #[.int .i64 x.st, .int .i64 x.go, f2, n2] 33)) := ((Below.refl _ w).alloc (Nat.le_refl _) _).alloc (by simp) _
  have b1 := (Below.refl _ (w.alloc (.cells #[.int .i64 x.st, .int .i64 x.go, f1, n1] 33))).alloc (Nat.le_refl _) (.cells #[.int .i64 x.st, .int .i64 x.go, f2, n2] 33)
  have hP := (b1.block w.heap.size (by simp)).trans (heap_alloc_new w _)
  have hQ := heap_alloc_new (w.alloc (.cells #[.int .i64 x.st, .int .i64 x.go, f1, n1] 33)) (.cells #[.int .i64 x.st, .int .i64 x.go, f2, n2] 33)
  rw [show (w.alloc (.cells #[.int .i64 x.st, .int .i64 x.go, f1, n1] 33)).heap.size = w.heap.size + 1 from by simp] at hQ
  have hs : w.heap.size + 2 ≤ ((w.alloc (.cells #[.int .i64 x.st, .int .i64 x.go, f1, n1] 33)).alloc (.cells #[.int .i64 x.st, .int .i64 x.go, f2, n2] 33)).heap.size := by simp
  obtain ⟨A1, c1, rfl⟩ := hF1.shape
  obtain ⟨A2, c2, rfl⟩ := hF2.shape
  obtain ⟨A3, c3, rfl, _⟩ := id hN1
  obtain ⟨A4, c4, rfl, _⟩ := id hN2
  have HF := Lib.hid (fun W (hb : Below w.heap.size w W) => eqL_any _ _ x.fin W hf.fin (hF1.kept hb) (hF2.kept hb))
  have HN := Lib.hid (fun W (hb : Below w.heap.size w W) => eqLL_any _ _ x.nx W hf.nx hf.row (hN1.kept hb) (hN2.kept hb))
  have HP := Lib.hid hP
  have HQ := Lib.hid hQ
  have HB := Lib.hid hB0
  have HS := Lib.hid hs
  obtain ⟨⟨p0, p1, p2, p3⟩, _⟩ := blk4_cells hP
  obtain ⟨⟨q0, q1, q2, q3⟩, _⟩ := blk4_cells hQ
  clear hF1 hF2 hN1 hN2 hP hQ hB0 b1 hs
  go_enter Try.func23, Try.ntmps23
  go_wp2_with fail
  refine (HF.out _ HB.out).mono ?_
  rintro e w1 ⟨rfl, hB1⟩
  have hP := (hB1.block w.heap.size (by have := HS.out; omega)).trans HP.out
  have hQ := (hB1.block (w.heap.size + 1) (by have := HS.out; omega)).trans HQ.out
  obtain ⟨⟨_, _, _, s3⟩, _⟩ := blk4_cells hP
  obtain ⟨⟨_, _, _, t3⟩, _⟩ := blk4_cells hQ
  have HB1 := Lib.hid (HB.out.trans (hB1.mono (by have := HS.out; omega)))
  clear hB1 hP hQ
  go_wp2_with fail
  refine (HN.out _ HB1.out).mono ?_
  rintro e w2 ⟨rfl, hB2⟩
  have HB2 := Lib.hid (HB1.out.trans (hB2.mono HB1.out.size))
  clear hB2
  go_wp2_with fail
  go_ret
  exact ⟨rfl, HB2.out⟩
end Go.Proofs.Ytaffachjopjbgaa
