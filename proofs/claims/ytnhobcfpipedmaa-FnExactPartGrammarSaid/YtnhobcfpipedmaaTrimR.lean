/-
  Walks: impl.renumbered with the closures of firstEquals and trimmed.
-/
import Derived.Test.YtnhobcfpipedmaaTrimG
import Derived.Test.YtnhobcfpipedmaaGRaise
import Derived.BigQuiet
namespace Go.Proofs.Ytnhobcfpipedmaa
open Go.RowKit Go.Maps
open Wd
set_option linter.unusedVariables false

theorem firstE_any (n : Nat) (pb g len c : Nat) (z : Int) (w : World) (hn : n < len) (hl : len ≤ 1000000) (hp : w.cell? ⟨pb, 0, none⟩ = some (.slice (some ⟨g, 0, none⟩) len c)) (hc : w.cell? ⟨g, n, none⟩ = some (.int .i64 z)) :
    Calls Try.prog 155 #[.int .i64 n, .pointer (some ⟨pb, 0, none⟩)] w fun e w' => e = .returned (.int .i64 z) ∧ Drawn w w' := by
  go_enter Try.func155, Try.ntmps155
  go_wp2
  go_ret
  exact ⟨rfl, Drawn.refl _⟩
set_option maxRecDepth 100000 in
set_option maxHeartbeats 1600000 in
theorem trimE_any (n : Nat) (pp pf g gp len c lenp cp : Nat) (k : Nat) (z : Int) (w : World) (hn : n < len) (hl : len ≤ 1000000) (hk : k < lenp) (hlp : lenp ≤ 1000000) (hp : w.cell? ⟨pf, 0, none⟩ = some (.slice (some ⟨g, 0, none⟩) len c)) (hc : w.cell? ⟨g, n, none⟩ = some (.int .i64 (k : Int)))
    (hq : w.cell? ⟨pp, 0, none⟩ = some (.slice (some ⟨gp, 0, none⟩) lenp cp)) (hd : w.cell? ⟨gp, k, none⟩ = some (.int .i64 z)) :
    Calls Try.prog 123 #[.int .i64 n, .pointer (some ⟨pp, 0, none⟩), .pointer (some ⟨pf, 0, none⟩)] w fun e w' => e = .returned (.int .i64 z) ∧ Drawn w w' := by
  go_enter Try.func123, Try.ntmps123
  go_wp2
  go_quiet (fail)
  go_wp2
  go_ret
  exact ⟨rfl, (Drawn.refl w).drewN _⟩
theorem drewN_below {B : Nat} {w W : World} (h : Below B w W) (q : Nat) : Below B w (W.drewN q) := h.trans (((Drawn.refl W).drewN q).below _)
set_option maxRecDepth 100000 in
set_option maxHeartbeats 6400000 in
theorem renum_first (x : Rl) (pb : Nat) (l' r' : Int) (w : World) (h : x.L.size = 0)
    (HF1 : ∀ W : World, (∀ k, k < w.heap.size → W.heap[k]? = w.heap[k]?) → Calls Try.prog 155 #[.int .i64 x.l, .pointer (some ⟨pb, 0, none⟩)] W fun e w' => e = .returned (.int .i64 l') ∧ Drawn W w')
    (HF2 : ∀ W : World, (∀ k, k < w.heap.size → W.heap[k]? = w.heap[k]?) → Calls Try.prog 155 #[.int .i64 x.r, .pointer (some ⟨pb, 0, none⟩)] W fun e w' => e = .returned (.int .i64 r') ∧ Drawn W w') :
    Calls Try.prog 122 #[agg3 x, .func (.func 155) #[] #[.pointer (some ⟨pb, 0, none⟩)]] w fun e w' => e = .returned (.agg #[.string ⟨#[]⟩, .int .i64 l', .int .i64 r']) ∧ Below w.heap.size w w' := by
  have hk := fun W => kind_pair x h W
  obtain ⟨L, l, r⟩ := x
  simp only at h HF1 HF2
  obtain rfl := empty_arr h
  have HF1 := Lib.hid HF1
  have HF2 := Lib.hid HF2
  have HB := Lib.hid (fun (o o' : Obj) => ((Below.refl _ w).alloc (Nat.le_refl _) o).alloc (by simp) o')
  have HTP := ta_pp
  have k1 : ((w.alloc (.cells #[.string ⟨#[]⟩, .int .i64 l, .int .i64 r] 94)).alloc (.cells #[.string ⟨#[]⟩, .int .i64 0, .int .i64 0] 94)).heap[w.heap.size + 1]? = some (.cells #[.string ⟨#[]⟩, .int .i64 0, .int .i64 0] 94 (0, 0)) := by
    have := heap_alloc_new (w.alloc (.cells #[.string ⟨#[]⟩, .int .i64 l, .int .i64 r] 94)) (.cells #[.string ⟨#[]⟩, .int .i64 0, .int .i64 0] 94)
    rwa [show (w.alloc (.cells #[.string ⟨#[]⟩, .int .i64 l, .int .i64 r] 94)).heap.size = w.heap.size + 1 from by simp] at this
  have HK1 := Lib.hid k1
  clear h k1
  show Calls Try.prog _ #[.agg #[.string ⟨#[]⟩, .int .i64 l, .int .i64 r], _] _ _
  have hkk : ∀ W, Calls Try.prog 117 #[.agg #[.string ⟨#[]⟩, .int .i64 l, .int .i64 r]] W fun e w' => e = .returned (.iface 171 (.agg #[.string ⟨#[]⟩, .int .i64 l, .int .i64 r])) ∧ Below W.heap.size W w' := hk
  have HK2 := Lib.hid hkk
  clear hk hkk
  go_enter Try.func122, Try.ntmps122
  go_wp2_with fail
  refine (HK2.out _).mono ?_
  rintro e w1 ⟨rfl, hB1⟩
  have HB1 := Lib.hid ((HB.out _ _).trans (hB1.mono (by simp; omega)))
  have HE1 := Lib.hid ((hB1.block (w.heap.size + 1) (by simp)).trans HK1.out)
  have hs1 : w.heap.size + 2 ≤ w1.heap.size := by have := hB1.size; simp at this; omega
  clear hB1
  go_wp2_with fail
  have hb2 := (Below.refl _ w1).alloc (Nat.le_refl _) (.cells #[.string ⟨#[]⟩, .int .i64 l, .int .i64 r] 171)
  have hK := heap_alloc_new w1 (.cells #[.string ⟨#[]⟩, .int .i64 l, .int .i64 r] 171)
  obtain ⟨⟨c0, c1, c2⟩, _⟩ := blk3_cells hK
  have HE2 := Lib.hid ((hb2.block (w.heap.size + 1) (by omega)).trans HE1.out)
  have HB2 := Lib.hid (HB1.out.trans (hb2.mono HB1.out.size))
  obtain ⟨K, hKe⟩ : ∃ K, K = w1.heap.size := ⟨_, rfl⟩
  have hK1 : w.heap.size + 1 < K := by omega
  have hK2 : K < (w1.alloc (.cells #[.string ⟨#[]⟩, .int .i64 l, .int .i64 r] 171)).heap.size := by simp; omega
  rw [← hKe] at c0 c1 c2 ⊢
  generalize w1.alloc (.cells #[.string ⟨#[]⟩, .int .i64 l, .int .i64 r] 171) = w2 at *
  have HC := Lib.hid (And.intro c1 c2)
  have hwb : ∀ k, k < w.heap.size → w2.drew.heap[k]? = w.heap[k]? := fun k hk => HB2.out.block k hk
  have HW := Lib.hid hwb
  have hKn : K ≠ w.heap.size + 1 := by omega
  have hlt1 : w.heap.size + 1 < w2.drew.heap.size := Nat.lt_trans hK1 hK2
  clear hK hb2 hKe c0 hwb
  go_region_held3 (fun w' => w'.cell? ⟨K, 1, none⟩ = some (.int .i64 l) ∧ w'.cell? ⟨K, 2, none⟩ = some (.int .i64 r)) (first | exact HC.out | exact HC7.out | exact HC8.out | go_keep) ((first
    | (go_at_call_of 155 (Value.int .i64 l); refine (HF1.out _ (by exact HW.out)).mono ?_; rintro e wA ⟨rfl, q, rfl⟩)
    | (go_at_call_of 155 (Value.int .i64 r); refine (HF2.out _ (by exact HW.out)).mono ?_; rintro e wA ⟨rfl, q', rfl⟩)
    | (go_at_call 124
       refine (pairA _ _ _).mono ?_
       rintro e w7 ⟨rfl, hB7⟩
       have HC7 := Lib.hid (And.intro ((hB7.cell (p := ⟨K, 1, none⟩) hK2).trans HC.out.1) ((hB7.cell (p := ⟨K, 2, none⟩) hK2).trans HC.out.2))
       have HC8 := Lib.hid (And.intro (cell_far1 (p := ⟨w.heap.size + 1, 2, none⟩) (u := .int .i64 r') (cell_far1 (p := ⟨w.heap.size + 1, 1, none⟩) (u := .int .i64 l') (cell_far1 (p := ⟨w.heap.size + 1, 0, none⟩) (u := .string ⟨#[]⟩) HC7.out.1 hKn) hKn) hKn) (cell_far1 (p := ⟨w.heap.size + 1, 2, none⟩) (u := .int .i64 r') (cell_far1 (p := ⟨w.heap.size + 1, 1, none⟩) (u := .int .i64 l') (cell_far1 (p := ⟨w.heap.size + 1, 0, none⟩) (u := .string ⟨#[]⟩) HC7.out.2 hKn) hKn) hKn))
       have e7 := (hB7.block (w.heap.size + 1) hlt1).trans HE2.out
       obtain ⟨⟨b0, b1, b2⟩, d0, d1, d2⟩ := blk3_cells e7
       have HE7 := Lib.hid (blk3_cells (blk3 (a' := .string ⟨#[]⟩) (b' := .int .i64 l') (c' := .int .i64 r') e7)).1
       have HB7 : Hid (Below w.heap.size w w7) := Lib.hid ((drewN_below HB2.out _).trans (hB7.mono HB2.out.size))
       clear e7 hB7)))
  obtain ⟨y0, y1, y2⟩ := HE7.out
  go_wp2_with fail
  refine bodyPost_ret (v := .agg #[.string ⟨#[]⟩, .int .i64 l', .int .i64 r']) (by simp [results, Try.results122, go_sem, y0, y1, y2]) rfl ⟨rfl, ?_⟩
  exact ((HB7.out.setCell (by simp) _).setCell (by simp) _).setCell (by simp) _
set_option maxRecDepth 100000 in
set_option maxHeartbeats 6400000 in
theorem renum_trim (x : Rl) (pp pf : Nat) (l' r' : Int) (w : World) (h : x.L.size = 0)
    (HF1 : ∀ W : World, (∀ k, k < w.heap.size → W.heap[k]? = w.heap[k]?) → Calls Try.prog 123 #[.int .i64 x.l, .pointer (some ⟨pp, 0, none⟩), .pointer (some ⟨pf, 0, none⟩)] W fun e w' => e = .returned (.int .i64 l') ∧ Drawn W w')
    (HF2 : ∀ W : World, (∀ k, k < w.heap.size → W.heap[k]? = w.heap[k]?) → Calls Try.prog 123 #[.int .i64 x.r, .pointer (some ⟨pp, 0, none⟩), .pointer (some ⟨pf, 0, none⟩)] W fun e w' => e = .returned (.int .i64 r') ∧ Drawn W w') :
    Calls Try.prog 122 #[agg3 x, .func (.func 123) #[] #[.pointer (some ⟨pp, 0, none⟩), .pointer (some ⟨pf, 0, none⟩)]] w fun e w' => e = .returned (.agg #[.string ⟨#[]⟩, .int .i64 l', .int .i64 r']) ∧ Below w.heap.size w w' := by
  have hk := fun W => kind_pair x h W
  obtain ⟨L, l, r⟩ := x
  simp only at h HF1 HF2
  obtain rfl := empty_arr h
  have HF1 := Lib.hid HF1
  have HF2 := Lib.hid HF2
  have HB := Lib.hid (fun (o o' : Obj) => ((Below.refl _ w).alloc (Nat.le_refl _) o).alloc (by simp) o')
  have HTP := ta_pp
  have k1 : ((w.alloc (.cells #[.string ⟨#[]⟩, .int .i64 l, .int .i64 r] 94)).alloc (.cells #[.string ⟨#[]⟩, .int .i64 0, .int .i64 0] 94)).heap[w.heap.size + 1]? = some (.cells #[.string ⟨#[]⟩, .int .i64 0, .int .i64 0] 94 (0, 0)) := by
    have := heap_alloc_new (w.alloc (.cells #[.string ⟨#[]⟩, .int .i64 l, .int .i64 r] 94)) (.cells #[.string ⟨#[]⟩, .int .i64 0, .int .i64 0] 94)
    rwa [show (w.alloc (.cells #[.string ⟨#[]⟩, .int .i64 l, .int .i64 r] 94)).heap.size = w.heap.size + 1 from by simp] at this
  have HK1 := Lib.hid k1
  clear h k1
  show Calls Try.prog _ #[.agg #[.string ⟨#[]⟩, .int .i64 l, .int .i64 r], _] _ _
  have hkk : ∀ W, Calls Try.prog 117 #[.agg #[.string ⟨#[]⟩, .int .i64 l, .int .i64 r]] W fun e w' => e = .returned (.iface 171 (.agg #[.string ⟨#[]⟩, .int .i64 l, .int .i64 r])) ∧ Below W.heap.size W w' := hk
  have HK2 := Lib.hid hkk
  clear hk hkk
  go_enter Try.func122, Try.ntmps122
  go_wp2_with fail
  refine (HK2.out _).mono ?_
  rintro e w1 ⟨rfl, hB1⟩
  have HB1 := Lib.hid ((HB.out _ _).trans (hB1.mono (by simp; omega)))
  have HE1 := Lib.hid ((hB1.block (w.heap.size + 1) (by simp)).trans HK1.out)
  have hs1 : w.heap.size + 2 ≤ w1.heap.size := by have := hB1.size; simp at this; omega
  clear hB1
  go_wp2_with fail
  have hb2 := (Below.refl _ w1).alloc (Nat.le_refl _) (.cells #[.string ⟨#[]⟩, .int .i64 l, .int .i64 r] 171)
  have hK := heap_alloc_new w1 (.cells #[.string ⟨#[]⟩, .int .i64 l, .int .i64 r] 171)
  obtain ⟨⟨c0, c1, c2⟩, _⟩ := blk3_cells hK
  have HE2 := Lib.hid ((hb2.block (w.heap.size + 1) (by omega)).trans HE1.out)
  have HB2 := Lib.hid (HB1.out.trans (hb2.mono HB1.out.size))
  obtain ⟨K, hKe⟩ : ∃ K, K = w1.heap.size := ⟨_, rfl⟩
  have hK1 : w.heap.size + 1 < K := by omega
  have hK2 : K < (w1.alloc (.cells #[.string ⟨#[]⟩, .int .i64 l, .int .i64 r] 171)).heap.size := by simp; omega
  rw [← hKe] at c0 c1 c2 ⊢
  generalize w1.alloc (.cells #[.string ⟨#[]⟩, .int .i64 l, .int .i64 r] 171) = w2 at *
  have HC := Lib.hid (And.intro c1 c2)
  have hwb : ∀ k, k < w.heap.size → w2.drew.heap[k]? = w.heap[k]? := fun k hk => HB2.out.block k hk
  have HW := Lib.hid hwb
  have hKn : K ≠ w.heap.size + 1 := by omega
  have hlt1 : w.heap.size + 1 < w2.drew.heap.size := Nat.lt_trans hK1 hK2
  clear hK hb2 hKe c0 hwb
  go_region_held3 (fun w' => w'.cell? ⟨K, 1, none⟩ = some (.int .i64 l) ∧ w'.cell? ⟨K, 2, none⟩ = some (.int .i64 r)) (first | exact HC.out | exact HC7.out | exact HC8.out | go_keep) ((first
    | (go_at_call_of 123 (Value.int .i64 l); refine (HF1.out _ (by exact HW.out)).mono ?_; rintro e wA ⟨rfl, q, rfl⟩)
    | (go_at_call_of 123 (Value.int .i64 r); refine (HF2.out _ (by exact HW.out)).mono ?_; rintro e wA ⟨rfl, q', rfl⟩)
    | (go_at_call 124
       refine (pairA _ _ _).mono ?_
       rintro e w7 ⟨rfl, hB7⟩
       have HC7 := Lib.hid (And.intro ((hB7.cell (p := ⟨K, 1, none⟩) hK2).trans HC.out.1) ((hB7.cell (p := ⟨K, 2, none⟩) hK2).trans HC.out.2))
       have HC8 := Lib.hid (And.intro (cell_far1 (p := ⟨w.heap.size + 1, 2, none⟩) (u := .int .i64 r') (cell_far1 (p := ⟨w.heap.size + 1, 1, none⟩) (u := .int .i64 l') (cell_far1 (p := ⟨w.heap.size + 1, 0, none⟩) (u := .string ⟨#[]⟩) HC7.out.1 hKn) hKn) hKn) (cell_far1 (p := ⟨w.heap.size + 1, 2, none⟩) (u := .int .i64 r') (cell_far1 (p := ⟨w.heap.size + 1, 1, none⟩) (u := .int .i64 l') (cell_far1 (p := ⟨w.heap.size + 1, 0, none⟩) (u := .string ⟨#[]⟩) HC7.out.2 hKn) hKn) hKn))
       have e7 := (hB7.block (w.heap.size + 1) hlt1).trans HE2.out
       obtain ⟨⟨b0, b1, b2⟩, d0, d1, d2⟩ := blk3_cells e7
       have HE7 := Lib.hid (blk3_cells (blk3 (a' := .string ⟨#[]⟩) (b' := .int .i64 l') (c' := .int .i64 r') e7)).1
       have HB7 : Hid (Below w.heap.size w w7) := Lib.hid ((drewN_below HB2.out _).trans (hB7.mono HB2.out.size))
       clear e7 hB7)))
  obtain ⟨y0, y1, y2⟩ := HE7.out
  go_wp2_with fail
  refine bodyPost_ret (v := .agg #[.string ⟨#[]⟩, .int .i64 l', .int .i64 r']) (by simp [results, Try.results122, go_sem, y0, y1, y2]) rfl ⟨rfl, ?_⟩
  exact ((HB7.out.setCell (by simp) _).setCell (by simp) _).setCell (by simp) _
theorem renum_keep (x : Rl) (f : Value) (w : World) (h : x.L.size ≠ 0) :
    Calls Try.prog 122 #[agg3 x, f] w fun e w' => e = .returned (agg3 x) ∧ Below w.heap.size w w' := by
  have := renum_letter x 0 f w h
  rwa [show raiseR 0 x = x from by unfold raiseR; rw [if_neg h]] at this
end Go.Proofs.Ytnhobcfpipedmaa
