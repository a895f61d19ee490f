/-
  Walks: impl.renumbered with what adds: a rule with numbers that are raised.
-/
import Derived.Test.YtnhobcfpipedmaaGJoinS
import Derived.Test.YtnhobcfpipedmaaGPair
import Derived.Deep.RegionHeld3
import Derived.Deep.AppendLies
namespace Go.Proofs.Ytnhobcfpipedmaa
open Go.RowKit
open Wd
set_option linter.unusedVariables false

theorem adds_any (n b : Int) (pb : Nat) (w : World) (hn : 0 ≤ n ∧ n ≤ 1048576) (hb : 0 ≤ b ∧ b ≤ 1048576) (hp : w.cell? ⟨pb, 0, none⟩ = some (.int .i64 b)) :
    Calls Try.prog 169 #[.int .i64 n, .pointer (some ⟨pb, 0, none⟩)] w fun e w' => e = .returned (.int .i64 (n + b)) ∧ w = w' := by
  go_enter Try.func169, Try.ntmps169
  go_wp2
  go_ret
  exact ⟨rfl, rfl⟩

theorem ta_lp (v : Value) (w : World) : (Instr.typeAssert (.iface 197 v) 163 171 true).run Try.prog w = .ok (.tuple #[.agg #[.string ⟨#[]⟩, .int .i64 0, .int .i64 0], .bool false]) w := by kernel_rfl

set_option maxRecDepth 100000 in
set_option maxHeartbeats 3200000 in
theorem renum_letter (x : Rl) (b : Int) (f : Value) (w : World) (h : x.L.size ≠ 0) :
    Calls Try.prog 122 #[agg3 x, f] w fun e w' => e = .returned (agg3 (raiseR b x)) ∧ Below w.heap.size w w' := by
  have hx : raiseR b x = x := by unfold raiseR; rw [if_neg h]
  rw [hx]
  have HK := Lib.hid (fun W => kind_letter x h W)
  obtain ⟨L, l, r⟩ := x
  have HB := Lib.hid (fun (o o' : Obj) => ((Below.refl _ w).alloc (Nat.le_refl _) o).alloc (by simp) o')
  have HTL := ta_lp
  have k0 : ((w.alloc (.cells #[.string L, .int .i64 l, .int .i64 r] 94)).alloc (.cells #[.string ⟨#[]⟩, .int .i64 0, .int .i64 0] 94)).heap[w.heap.size]? = some (.cells #[.string L, .int .i64 l, .int .i64 r] 94 (0, 0)) := (((Below.refl _ (w.alloc (.cells #[.string L, .int .i64 l, .int .i64 r] 94))).alloc (Nat.le_refl _) _).block w.heap.size (by simp)).trans (heap_alloc_new w _)
  have k1 : ((w.alloc (.cells #[.string L, .int .i64 l, .int .i64 r] 94)).alloc (.cells #[.string ⟨#[]⟩, .int .i64 0, .int .i64 0] 94)).heap[w.heap.size + 1]? = some (.cells #[.string ⟨#[]⟩, .int .i64 0, .int .i64 0] 94 (0, 0)) := by
    have := heap_alloc_new (w.alloc (.cells #[.string L, .int .i64 l, .int .i64 r] 94)) (.cells #[.string ⟨#[]⟩, .int .i64 0, .int .i64 0] 94)
    rwa [show (w.alloc (.cells #[.string L, .int .i64 l, .int .i64 r] 94)).heap.size = w.heap.size + 1 from by simp] at this
  have HK0 := Lib.hid k0
  have HK1 := Lib.hid k1
  clear h hx k0 k1
  show Calls Try.prog _ #[.agg #[.string L, .int .i64 l, .int .i64 r], f] _ _
  have hk : ∀ W, Calls Try.prog 117 #[.agg #[.string L, .int .i64 l, .int .i64 r]] W fun e w' => e = .returned (.iface 197 (.agg #[.string L, .int .i64 l, .int .i64 r])) ∧ Below W.heap.size W w' := HK.out
  have HK2 := Lib.hid hk
  clear hk
  go_enter Try.func122, Try.ntmps122
  go_wp2_with fail
  refine (HK2.out _).mono ?_
  rintro e w1 ⟨rfl, hB1⟩
  have HB1 := Lib.hid ((HB.out _ _).trans (hB1.mono (by simp; omega)))
  have e0 := (hB1.block w.heap.size (by simp; omega)).trans HK0.out
  have e1 := (hB1.block (w.heap.size + 1) (by simp)).trans HK1.out
  have E2 := Lib.hid (blk3_cells (blk3 (a' := .string L) (b' := .int .i64 l) (c' := .int .i64 r) e1)).1
  obtain ⟨⟨a0, a1, a2⟩, _⟩ := blk3_cells e0
  obtain ⟨⟨b0, b1, b2⟩, d0, d1, d2⟩ := blk3_cells e1
  clear e0 e1 hB1
  go_wp2_with fail
  obtain ⟨y0, y1, y2⟩ := E2.out
  refine bodyPost_ret (v := .agg #[.string L, .int .i64 l, .int .i64 r]) (by simp [results, Try.results122, go_sem, y0, y1, y2]) rfl ⟨rfl, ?_⟩
  exact ((HB1.out.setCell (by simp) _).setCell (by simp) _).setCell (by simp) _

set_option maxRecDepth 100000 in
set_option maxHeartbeats 6400000 in
theorem renum_pair (x : Rl) (b : Int) (pb : Nat) (w : World) (h : x.L.size = 0) (h1 : 0 ≤ x.l ∧ x.l ≤ 1048576) (h2 : 0 ≤ x.r ∧ x.r ≤ 1048576) (hb : 0 ≤ b ∧ b ≤ 1048576) (hp : w.cell? ⟨pb, 0, none⟩ = some (.int .i64 b)) :
    Calls Try.prog 122 #[agg3 x, .func (.func 169) #[] #[.pointer (some ⟨pb, 0, none⟩)]] w fun e w' => e = .returned (agg3 (raiseR b x)) ∧ Below w.heap.size w w' := by
  have hk := fun W => kind_pair x h W
  obtain ⟨L, l, r⟩ := x
  simp only at h h1 h2
  obtain rfl := empty_arr h
  have hx : agg3 (raiseR b ⟨⟨#[]⟩, l, r⟩) = .agg #[.string ⟨#[]⟩, .int .i64 (l + b), .int .i64 (r + b)] := rfl
  rw [hx]
  have HB := Lib.hid (fun (o o' : Obj) => ((Below.refl _ w).alloc (Nat.le_refl _) o).alloc (by simp) o')
  have HTP := ta_pp
  have k1 : ((w.alloc (.cells #[.string ⟨#[]⟩, .int .i64 l, .int .i64 r] 94)).alloc (.cells #[.string ⟨#[]⟩, .int .i64 0, .int .i64 0] 94)).heap[w.heap.size + 1]? = some (.cells #[.string ⟨#[]⟩, .int .i64 0, .int .i64 0] 94 (0, 0)) := by
    have := heap_alloc_new (w.alloc (.cells #[.string ⟨#[]⟩, .int .i64 l, .int .i64 r] 94)) (.cells #[.string ⟨#[]⟩, .int .i64 0, .int .i64 0] 94)
    rwa [show (w.alloc (.cells #[.string ⟨#[]⟩, .int .i64 l, .int .i64 r] 94)).heap.size = w.heap.size + 1 from by simp] at this
  have HK1 := Lib.hid k1
  have HP := Lib.hid hp
  have HL := Lib.hid (lt_of_cell hp)
  clear h hx k1 hp
  show Calls Try.prog _ #[.agg #[.string ⟨#[]⟩, .int .i64 l, .int .i64 r], _] _ _
  have hk' : ∀ W, Calls Try.prog 117 #[.agg #[.string ⟨#[]⟩, .int .i64 l, .int .i64 r]] W fun e w' => e = .returned (.iface 171 (.agg #[.string ⟨#[]⟩, .int .i64 l, .int .i64 r])) ∧ Below W.heap.size W w' := hk
  have HK2 := Lib.hid hk'
  clear hk hk'
  go_enter Try.func122, Try.ntmps122
  go_wp2_with fail
  refine (HK2.out _).mono ?_
  rintro e w1 ⟨rfl, hB1⟩
  have HB1 := Lib.hid ((HB.out _ _).trans (hB1.mono (by simp; omega)))
  have HE1 := Lib.hid ((hB1.block (w.heap.size + 1) (by simp)).trans HK1.out)
  have hs1 : w.heap.size + 2 ≤ w1.heap.size := by have := hB1.size; simp at this; omega
  clear hB1
  go_wp2_with fail
  have hb2 := (Below.refl _ w1).alloc (Nat.le_refl _) (.cells #[.string ⟨#[]⟩, .int .i64 l, .int .i64 r] 171)
  have hK := heap_alloc_new w1 (.cells #[.string ⟨#[]⟩, .int .i64 l, .int .i64 r] 171)
  obtain ⟨⟨c0, c1, c2⟩, _⟩ := blk3_cells hK
  have HE2 := Lib.hid ((hb2.block (w.heap.size + 1) (by omega)).trans HE1.out)
  have HB2 := Lib.hid (HB1.out.trans (hb2.mono HB1.out.size))
  obtain ⟨K, hKe⟩ : ∃ K, K = w1.heap.size := ⟨_, rfl⟩
  have hK1 : w.heap.size + 1 < K := by omega
  have hK2 : K < (w1.alloc (.cells #[.string ⟨#[]⟩, .int .i64 l, .int .i64 r] 171)).heap.size := by simp; omega
  rw [← hKe] at c0 c1 c2 ⊢
  generalize w1.alloc (.cells #[.string ⟨#[]⟩, .int .i64 l, .int .i64 r] 171) = w2 at *
  have HC := Lib.hid (And.intro c1 c2)
  have pc2 := (HB2.out.cell (p := ⟨pb, 0, none⟩) HL.out).trans HP.out
  have pcd : w2.drew.cell? ⟨pb, 0, none⟩ = some (.int .i64 b) := pc2
  have HPC := Lib.hid pcd
  have hKn : K ≠ w.heap.size + 1 := by omega
  have hlt1 : w.heap.size + 1 < w2.drew.heap.size := Nat.lt_trans hK1 hK2
  clear hK hb2 hKe c0
  go_region_held3 (fun w' => w'.cell? ⟨K, 1, none⟩ = some (.int .i64 l) ∧ w'.cell? ⟨K, 2, none⟩ = some (.int .i64 r)) (first | exact HC.out | exact HC7.out | exact HC8.out | go_keep) ((first
    | (go_at_call_of 169 (Value.int .i64 l); refine (adds_any _ _ _ _ (by omega) (by omega) HPC.out).mono ?_; rintro e wA ⟨rfl, rfl⟩)
    | (go_at_call_of 169 (Value.int .i64 r); refine (adds_any _ _ _ _ (by omega) (by omega) HPC.out).mono ?_; rintro e wA ⟨rfl, rfl⟩)
    | (go_at_call 124
       refine (pairA _ _ _).mono ?_
       rintro e w7 ⟨rfl, hB7⟩
       have HC7 := Lib.hid (And.intro ((hB7.cell (p := ⟨K, 1, none⟩) hK2).trans HC.out.1) ((hB7.cell (p := ⟨K, 2, none⟩) hK2).trans HC.out.2))
       have HC8 := Lib.hid (And.intro (cell_far1 (p := ⟨w.heap.size + 1, 2, none⟩) (u := .int .i64 (r + b)) (cell_far1 (p := ⟨w.heap.size + 1, 1, none⟩) (u := .int .i64 (l + b)) (cell_far1 (p := ⟨w.heap.size + 1, 0, none⟩) (u := .string ⟨#[]⟩) HC7.out.1 hKn) hKn) hKn) (cell_far1 (p := ⟨w.heap.size + 1, 2, none⟩) (u := .int .i64 (r + b)) (cell_far1 (p := ⟨w.heap.size + 1, 1, none⟩) (u := .int .i64 (l + b)) (cell_far1 (p := ⟨w.heap.size + 1, 0, none⟩) (u := .string ⟨#[]⟩) HC7.out.2 hKn) hKn) hKn))
       have e7 := (hB7.block (w.heap.size + 1) hlt1).trans HE2.out
       obtain ⟨⟨b0, b1, b2⟩, d0, d1, d2⟩ := blk3_cells e7
       have HE7 := Lib.hid (blk3_cells (blk3 (a' := .string ⟨#[]⟩) (b' := .int .i64 (l + b)) (c' := .int .i64 (r + b)) e7)).1
       have HB7 := Lib.hid (HB2.out.drew.trans (hB7.mono HB2.out.drew.size))
       clear e7 hB7)))
  obtain ⟨y0, y1, y2⟩ := HE7.out
  go_wp2_with fail
  refine bodyPost_ret (v := .agg #[.string ⟨#[]⟩, .int .i64 (l + b), .int .i64 (r + b)]) (by simp [results, Try.results122, go_sem, y0, y1, y2]) rfl ⟨rfl, ?_⟩
  exact ((HB7.out.setCell (by simp) _).setCell (by simp) _).setCell (by simp) _
end Go.Proofs.Ytnhobcfpipedmaa
