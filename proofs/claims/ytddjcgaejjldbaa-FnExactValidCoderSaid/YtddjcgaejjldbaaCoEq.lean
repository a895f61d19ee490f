/-
  Walks: laws.toCoder, eqStringS, eqStringSS, eqCoder.
-/
import Derived.Test.YtddjcgaejjldbaaCoTo
import Derived.StillTailTactics
import Derived.BigQuiet
namespace Go.Proofs.Ytddjcgaejjldbaa
open Go.RowKit
open Wd
set_option linter.unusedVariables false
theorem ownLL_below {w w' : World} {lo : Nat} {v : Value} {xss : List (List Int)} (h : OwnLL w lo v xss) (hb : Below w.heap.size w w') (_hlo : True ∨ True := .inl trivial) : OwnLL w' lo v xss := by
  obtain ⟨A, c, hv, h | ⟨B, hA, hB, hc⟩⟩ := h
  · exact ⟨A, c, hv, .inl h⟩
  · refine ⟨A, c, hv, .inr ⟨B, hA, hB, fun j hj => ?_⟩⟩
    obtain ⟨y, h1, h2⟩ := hc j hj
    exact ⟨y, (hb.cell (p := ⟨B, j, none⟩) (lt_of_cell h1)).trans h1, own_below h2 hb (Nat.le_refl _)⟩
set_option maxRecDepth 100000 in
set_option maxHeartbeats 1600000 in
theorem toCoder_any (v : Value) (x : Co) (w : World) (hf : FewC x) (h : IsCo w v x) :
    Calls Try.prog 17 #[v] w fun e w' => ∃ y, e = .returned y ∧ IsCo w' y x ∧ Below w.heap.size w w' := by
  obtain ⟨f, n, rfl, hF, hN⟩ := h
  obtain ⟨st, go, nx, ou⟩ := x
  simp only at hF hN
  have hf1 := hf.nx
  have hf2 := hf.row
  have hf3 := hf.ou
  have hf4 := hf.orow
  simp only at hf1 hf2 hf3 hf4
  have HF := Lib.hid hF
  have HNL := Lib.hid hN
  obtain ⟨Af, cf, rfl, hx⟩ := hF
  obtain ⟨An, cn, rfl, hx'⟩ := hN
  clear hx hx' hf
  show Calls Try.prog _ #[.agg #[.int .i64 st, .int .i64 go, .slice Af nx.length cf, .slice An ou.length cn]] _ _
  go_enter Try.func17, Try.ntmps17
  go_upto_region 4 with fail
  obtain ⟨hP, hZ, hR, hB3, hs3⟩ := al3 w (.cells #[.int .i64 st, .int .i64 go, .slice Af nx.length cf, .slice An ou.length cn] 25) (.cells #[.int .i64 0, .int .i64 0, .slice none 0 0, .slice none 0 0] 28) (.cells #[.int .i64 st, .int .i64 go, .slice none 0 0, .slice none 0 0] 28)
  generalize ((w.alloc (.cells #[.int .i64 st, .int .i64 go, .slice Af nx.length cf, .slice An ou.length cn] 25)).alloc (.cells #[.int .i64 0, .int .i64 0, .slice none 0 0, .slice none 0 0] 28)).alloc (.cells #[.int .i64 st, .int .i64 go, .slice none 0 0, .slice none 0 0] 28) = w3 at *
  obtain ⟨⟨_, _, p2, p3⟩, _⟩ := blk4_cells hP
  have HS3 := Lib.hid hs3
  have HP := Lib.hid hP
  have HZ := Lib.hid hZ
  have HR := Lib.hid hR
  have HB3 := Lib.hid hB3
  have HF3 := Lib.hid (HF.out.kept hB3)
  clear hs3 hP hZ hR hB3
  go_wp2_with fail
  refine (toLL_any _ nx _ hf1 hf2 HF3.out).mono ?_
  rintro e w4 ⟨y1, rfl, hy1, hB4⟩
  have hP := (hB4.block w.heap.size (by rw [HS3.out]; omega)).trans HP.out
  have hZ := (hB4.block (w.heap.size + 1) (by rw [HS3.out]; omega)).trans HZ.out
  have hR := (hB4.block (w.heap.size + 2) (by rw [HS3.out]; omega)).trans HR.out
  have HB4 := Lib.hid (HB3.out.trans (hB4.mono (by rw [HS3.out]; omega)))
  have HO4 := Lib.hid hy1
  obtain ⟨A1, c1, rfl, _⟩ := hy1.isLL
  have HS4 : Hid (w.heap.size + 3 ≤ w4.heap.size) := Lib.hid (by have := hB4.size; rw [HS3.out] at this; exact this)
  obtain ⟨⟨_, _, r2, _⟩, _, _, f2, _⟩ := blk4_cells hR
  have HR5 := Lib.hid (blk4_2 (c' := .slice A1 nx.length c1) hR)
  have HP5 := Lib.hid ((Below.heap_setCell w4 ⟨w.heap.size + 2, 2, none⟩ (.slice A1 nx.length c1) w.heap.size (by simp)).trans hP)
  have HZ5 := Lib.hid ((Below.heap_setCell w4 ⟨w.heap.size + 2, 2, none⟩ (.slice A1 nx.length c1) (w.heap.size + 1) (by simp)).trans hZ)
  have HO5 := Lib.hid (HO4.out.far ⟨w.heap.size + 2, 2, none⟩ (.slice A1 nx.length c1) (by rw [HS3.out]; simp))
  have HB5 := Lib.hid (HB4.out.setCell (p := ⟨w.heap.size + 2, 2, none⟩) (by simp) (.slice A1 nx.length c1))
  have HS5 : Hid (w.heap.size + 3 ≤ (w4.setCell ⟨w.heap.size + 2, 2, none⟩ (.slice A1 nx.length c1)).heap.size) := Lib.hid (by have := HS4.out; simpa [World.setCell] using this)
  clear hy1 hB4 hP hZ hR p2 HO4
  go_upto_region 5 with fail
  generalize w4.setCell ⟨w.heap.size + 2, 2, none⟩ (.slice A1 nx.length c1) = w5 at *
  obtain ⟨⟨_, _, p2, p3⟩, _⟩ := blk4_cells HP5.out
  have HN5 := Lib.hid (HNL.out.kept HB5.out)
  clear r2 f2
  go_wp2_with fail
  refine (toSS_any _ ou _ hf3 hf4 HN5.out).mono ?_
  rintro e w6 ⟨y2, rfl, hy2, hB6⟩
  have hZ := (hB6.block (w.heap.size + 1) (by have := HS5.out; omega)).trans HZ5.out
  have hR := (hB6.block (w.heap.size + 2) (by have := HS5.out; omega)).trans HR5.out
  obtain ⟨A2, c2, rfl, _⟩ := hy2.isLL
  obtain ⟨⟨_, _, _, r3⟩, _, _, _, f3⟩ := blk4_cells hR
  have HR7 := Lib.hid (blk4_3 (d' := .slice A2 ou.length c2) hR)
  have HZ7 := Lib.hid ((Below.heap_setCell w6 ⟨w.heap.size + 2, 3, none⟩ (.slice A2 ou.length c2) (w.heap.size + 1) (by simp)).trans hZ)
  have HO7 := Lib.hid ((ownLL_below HO5.out hB6).far ⟨w.heap.size + 2, 3, none⟩ (.slice A2 ou.length c2) (by rw [HS3.out]; simp))
  have HL7 := Lib.hid (hy2.far ⟨w.heap.size + 2, 3, none⟩ (.slice A2 ou.length c2) (by have := HS5.out; simp only; omega))
  have HB7 := Lib.hid ((HB5.out.trans (hB6.mono (by have := HS5.out; omega))).setCell (p := ⟨w.heap.size + 2, 3, none⟩) (by simp) (.slice A2 ou.length c2))
  clear hy2 hB6 hZ hR p2 p3
  go_upto_region 6 with fail
  generalize w6.setCell ⟨w.heap.size + 2, 3, none⟩ (.slice A2 ou.length c2) = w7 at *
  obtain ⟨⟨q0, q1, q2, q3⟩, _⟩ := blk4_cells HR7.out
  obtain ⟨⟨z0, z1, z2, z3⟩, g0, g1, g2, g3⟩ := blk4_cells HZ7.out
  have HE := Lib.hid (blk4_cells (blk4_all (a' := .int .i64 st) (b' := .int .i64 go) (c' := .slice A1 nx.length c1) (d' := .slice A2 ou.length c2) HZ7.out)).1
  clear r3 f3
  go_wp2_with fail
  obtain ⟨y0, y1, y2, y3⟩ := HE.out
  refine bodyPost_ret (v := .agg #[.int .i64 st, .int .i64 go, .slice A1 nx.length c1, .slice A2 ou.length c2]) (by simp [results, Try.results17, go_sem, y0, y1, y2, y3]) rfl ⟨_, rfl, ⟨_, _, rfl, ?_, ?_⟩, ?_⟩
  · refine OwnLL.isLL ((((HO7.out.far _ _ ?_).far _ _ ?_).far _ _ ?_).far _ _ ?_) <;> (rw [HS3.out]; simp)
  · refine OwnSLL.isLL ((((HL7.out.far _ _ ?_).far _ _ ?_).far _ _ ?_).far _ _ ?_) <;> (have := HS5.out; simp only; omega)
  · exact (((HB7.out.setCell (by simp) _).setCell (by simp) _).setCell (by simp) _).setCell (by simp) _
set_option maxRecDepth 100000 in
set_option maxHeartbeats 800000 in
theorem eqS_any (u v : Value) (zs : List ByteArray) (w : World) (hn : zs.length ≤ 1048576) (h1 : IsSL w u zs) (h2 : IsSL w v zs) :
    Calls Try.prog 121 #[u, v] w fun e w' => e = .returned (.bool true) ∧ Below w.heap.size w w' := by
  obtain ⟨A1, c1, rfl, h1⟩ := h1
  obtain ⟨A2, c2, rfl, h2⟩ := h2
  obtain ⟨n, hng⟩ : ∃ n, n = zs.length := ⟨_, rfl⟩
  rw [← hng] at hn ⊢
  have HN := Lib.hid hng
  have H1 := Lib.hid h1
  have H2 := Lib.hid h2
  clear h1 h2 hng
  go_enter Try.func121, Try.ntmps121
  go_wp2
  go_loopw [5] (fun i wr => ∃ k : Nat, k ≤ n ∧ i = .int .i64 k ∧ Below w.heap.size w wr) (fun i _ => n - (intOf i).toNat)
  case atStart => exact ⟨0, Nat.zero_le _, rfl, Below.refl _ _⟩
  case round =>
    obtain ⟨k, hk, rfl, hB⟩ := hrel
    by_cases hlt : k < n
    · have hkg : k < zs.length := by rw [← HN.out]; exact hlt
      rcases H1.out with hn | ⟨x, rfl, hc1⟩
      · rw [hn] at hkg; simp at hkg
      rcases H2.out with hn | ⟨y, rfl, hc2⟩
      · rw [hn] at hkg; simp at hkg
      have a0 := (hB.cell (lt_of_cell (hc1 k hkg))).trans (hc1 k hkg)
      have b0 := (hB.cell (lt_of_cell (hc2 k hkg))).trans (hc2 k hkg)
      generalize zs[k] = z at *
      have HB := Lib.hid hB
      clear hc1 hc2 hB hkg
      go_wp2
      go_quiet (fail)
      go_wp2
      go_roundw
      case rel => exact ⟨k + 1, by omega, by go_num, HB.out.trans (((Drawn.refl _).drewN _).below _)⟩
      case measure => simp [intOf]; omega
    · go_wp2
      go_ret
      exact ⟨rfl, hB⟩
set_option maxRecDepth 100000 in
set_option maxHeartbeats 800000 in
theorem eqSS_any (u v : Value) (xss : List (List ByteArray)) (w : World) (hn : xss.length ≤ 1048576) (hr : ∀ r ∈ xss, r.length ≤ 1048576) (h1 : IsSLL w u xss) (h2 : IsSLL w v xss) :
    Calls Try.prog 63 #[u, v] w fun e w' => e = .returned (.bool true) ∧ Below w.heap.size w w' := by
  have HU := Lib.hid (fun W (hb : Below w.heap.size w W) => h1.kept hb)
  have HV := Lib.hid (fun W (hb : Below w.heap.size w W) => h2.kept hb)
  have HR := Lib.hid hr
  obtain ⟨A1, c1, rfl, h1⟩ := h1
  obtain ⟨A2, c2, rfl, h2⟩ := h2
  obtain ⟨n, hng⟩ : ∃ n, n = xss.length := ⟨_, rfl⟩
  rw [← hng] at hn HU HV ⊢
  have HN := Lib.hid hng
  have H1 := Lib.hid h1
  have H2 := Lib.hid h2
  clear h1 h2 hng hr
  go_enter Try.func63, Try.ntmps63
  go_wp2
  go_loopw [5] (fun i wr => ∃ k : Nat, k ≤ n ∧ i = .int .i64 k ∧ Below w.heap.size w wr) (fun i _ => n - (intOf i).toNat)
  case atStart => exact ⟨0, Nat.zero_le _, rfl, Below.refl _ _⟩
  case round =>
    obtain ⟨k, hk, rfl, hB⟩ := hrel
    obtain ⟨wo, rfl⟩ : ∃ wo : World, wo = wr := ⟨_, rfl⟩
    by_cases hlt : k < n
    · have hkg : k < xss.length := by rw [← HN.out]; exact hlt
      rcases H1.out with hn | ⟨x, rfl, hc1⟩
      · rw [hn] at hkg; simp at hkg
      rcases H2.out with hn | ⟨y, rfl, hc2⟩
      · rw [hn] at hkg; simp at hkg
      obtain ⟨u1, a1, i1⟩ := hc1 k hkg
      obtain ⟨u2, a2, i2⟩ := hc2 k hkg
      have a0 := (hB.cell (lt_of_cell a1)).trans a1
      have b0 := (hB.cell (lt_of_cell a2)).trans a2
      have hm := HR.out _ (List.getElem_mem hkg)
      have HQ := Lib.hid (fun W (hb : Below w.heap.size w W) => eqS_any u1 u2 xss[k] W hm (i1.kept hb) (i2.kept hb))
      have HB := Lib.hid hB
      obtain ⟨A3, c3, rfl⟩ := i1.shape
      obtain ⟨A4, c4, rfl⟩ := i2.shape
      generalize xss[k].length = m at *
      clear hc1 hc2 hB hkg a1 a2 i1 i2
      go_wp2
      go_still_tail 8, (by kernel_rfl)
      change wpList _ _ _ _ _ wo.drew
      have hB2 : Below w.heap.size w wo.drew := HB.out.drew
      generalize wo.drew = w2 at hB2 ⊢
      clear HB a0 b0
      have HB2 := Lib.hid hB2
      clear hB2
      go_wp2_with fail
      refine (HQ.out _ HB2.out).mono ?_; rintro e w' ⟨rfl, hB'⟩
      have hB3 := HB2.out.trans (hB'.mono HB2.out.size)
      clear hB'
      go_wp2
      go_roundw
      case rel => exact ⟨k + 1, by omega, by go_num, hB3⟩
      case measure => simp [intOf]; omega
    · go_wp2
      go_ret
      exact ⟨rfl, hB⟩
set_option maxRecDepth 100000 in
set_option maxHeartbeats 1600000 in
theorem eqCoder_any (u v : Value) (x : Co) (w : World) (hf : FewC x) (h1 : IsCo w u x) (h2 : IsCo w v x) :
    Calls Try.prog 19 #[u, v] w fun e w' => e = .returned (.bool true) ∧ Below w.heap.size w w' := by
  obtain ⟨f1, n1, rfl, hF1, hN1⟩ := h1
  obtain ⟨f2, n2, rfl, hF2, hN2⟩ := h2
  have hB0 : Below w.heap.size w ((w.alloc (.cells #[.int .i64 x.st, .int .i64 x.go, f1, n1] 28)).alloc (.cells #[.int .i64 x.st, .int .i64 x.go, f2, n2] 28)) := ((Below.refl _ w).alloc (Nat.le_refl _) _).alloc (by simp) _
  have b1 := (Below.refl _ (w.alloc (.cells #[.int .i64 x.st, .int .i64 x.go, f1, n1] 28))).alloc (Nat.le_refl _) (.cells #[.int .i64 x.st, .int .i64 x.go, f2, n2] 28)
  have hP := (b1.block w.heap.size (by simp)).trans (heap_alloc_new w _)
  have hQ := heap_alloc_new (w.alloc (.cells #[.int .i64 x.st, .int .i64 x.go, f1, n1] 28)) (.cells #[.int .i64 x.st, .int .i64 x.go, f2, n2] 28)
  rw [show (w.alloc (.cells #[.int .i64 x.st, .int .i64 x.go, f1, n1] 28)).heap.size = w.heap.size + 1 from by simp] at hQ
  have hs : w.heap.size + 2 ≤ ((w.alloc (.cells #[.int .i64 x.st, .int .i64 x.go, f1, n1] 28)).alloc (.cells #[.int .i64 x.st, .int .i64 x.go, f2, n2] 28)).heap.size := by simp
  obtain ⟨A1, c1, rfl, _⟩ := id hF1
  obtain ⟨A2, c2, rfl, _⟩ := id hF2
  obtain ⟨A3, c3, rfl, _⟩ := id hN1
  obtain ⟨A4, c4, rfl, _⟩ := id hN2
  have HF := Lib.hid (fun W (hb : Below w.heap.size w W) => eqLL_any _ _ x.nx W hf.nx hf.row (hF1.kept hb) (hF2.kept hb))
  have HN := Lib.hid (fun W (hb : Below w.heap.size w W) => eqSS_any _ _ x.ou W hf.ou hf.orow (hN1.kept hb) (hN2.kept hb))
  have HP := Lib.hid hP
  have HQ := Lib.hid hQ
  have HB := Lib.hid hB0
  have HS := Lib.hid hs
  obtain ⟨⟨p0, p1, p2, p3⟩, _⟩ := blk4_cells hP
  obtain ⟨⟨q0, q1, q2, q3⟩, _⟩ := blk4_cells hQ
  clear hF1 hF2 hN1 hN2 hP hQ hB0 b1 hs
  go_enter Try.func19, Try.ntmps19
  go_wp2_with fail
  refine (HF.out _ HB.out).mono ?_
  rintro e w1 ⟨rfl, hB1⟩
  have hP := (hB1.block w.heap.size (by have := HS.out; omega)).trans HP.out
  have hQ := (hB1.block (w.heap.size + 1) (by have := HS.out; omega)).trans HQ.out
  obtain ⟨⟨_, _, _, s3⟩, _⟩ := blk4_cells hP
  obtain ⟨⟨_, _, _, t3⟩, _⟩ := blk4_cells hQ
  have HB1 := Lib.hid (HB.out.trans (hB1.mono (by have := HS.out; omega)))
  clear hB1 hP hQ
  go_wp2_with fail
  refine (HN.out _ HB1.out).mono ?_
  rintro e w2 ⟨rfl, hB2⟩
  have HB2 := Lib.hid (HB1.out.trans (hB2.mono HB1.out.size))
  clear hB2
  go_wp2_with fail
  go_ret
  exact ⟨rfl, HB2.out⟩
end Go.Proofs.Ytddjcgaejjldbaa
