/-
  Walk: impl.ClimbOf.
-/
import Derived.Test.YtkkbanbhiojllaaClA
namespace Go.Proofs.Ytkkbanbhiojllaa
open Go.RowKit
open Wd
set_option linter.unusedVariables false
namespace Wd
/-- the climb that is asked for, and the code -/
def climbG (gs : List Rl) (zs : List Int) : List Int × Int := if (gOk gs && wOkB zs) = true then (clWh zs gs, 0) else ([0, 0, 0], if gOk gs then 2 else 1)
end Wd
set_option maxRecDepth 100000 in
set_option maxHeartbeats 3200000 in
theorem implClimbOf (v wv : Value) (gs : List Rl) (zs : List Int) (w : World) (hf : FewR gs) (hr : Rules w v gs) (hn : zs.length ≤ 1048576) (hz : IW w wv zs) :
    Calls Try.prog 17 #[.agg #[v], wv] w fun e w' => e = .returned (.tuple #[.agg (clCs (climbG gs zs).1), .int .i64 (climbG gs zs).2]) ∧ Below w.heap.size w w' := by
  have hb1 := (Below.refl _ w).alloc (Nat.le_refl _) (.cells #[v] 33)
  have hb := hb1.alloc (by simp) (.cells #[.int .i64 0, .int .i64 0, .int .i64 0] 28)
  have hR0 := heap_alloc_new (w.alloc (.cells #[v] 33)) (.cells #[.int .i64 0, .int .i64 0, .int .i64 0] 28)
  rw [show (w.alloc (.cells #[v] 33)).heap.size = w.heap.size + 1 from by simp] at hR0
  have h1 := climbFold_any v wv gs zs _ hf (hr.kept hb) hn (hz.kept hb)
  have H1 := Lib.hid h1
  have HB := Lib.hid hb
  have HR0 := Lib.hid hR0
  have HRU := Lib.hid (fun W (hb : Below w.heap.size w W) => hr.kept hb)
  obtain ⟨dm, hum, hdm⟩ := und_clm
  have HUM := Lib.hid (And.intro hum hdm)
  obtain ⟨A, c, rfl, _⟩ := hr
  have HS2 : Hid (((w.alloc (.cells #[.slice A gs.length c] 33)).alloc (.cells #[.int .i64 0, .int .i64 0, .int .i64 0] 28)).heap.size = w.heap.size + 2) := Lib.hid (by simp)
  unfold climbG
  cases hk : gOk gs && wOkB zs
  · rw [if_neg (by simp)]
    have HK := Lib.hid hk
    obtain ⟨cd, hcd⟩ : ∃ cd : Int, cd = if gOk gs then 2 else 1 := ⟨_, rfl⟩
    have hne : (cd != 0) = true := by rw [hcd]; cases gOk gs <;> rfl
    rw [← hcd]
    have HCD := Lib.hid hcd
    clear hb1 hb hR0 h1 hz hum hdm hk hcd
    go_enter Try.func17, Try.ntmps17
    go_wp2_with fail
    refine H1.out.mono ?_
    rintro e w1 hp
    obtain ⟨_, _, k1, k2, _⟩ | ⟨_, rfl, hB1⟩ := hp
    · have := HK.out; rw [k1, k2] at this; simp at this
    rw [← HCD.out]
    have HB1 := Lib.hid (HB.out.trans (hB1.mono HB.out.size))
    have HR1 := Lib.hid ((hB1.block (w.heap.size + 1) (by rw [HS2.out]; omega)).trans HR0.out)
    have hl1 : w.heap.size + 1 < w1.heap.size := (Array.getElem?_eq_some_iff.1 HR1.out).1
    have HRA : Hid (∀ o, (w1.alloc o).heap[w.heap.size + 1]? = some (.cells #[.int .i64 0, .int .i64 0, .int .i64 0] 28 (0, 0))) := Lib.hid (fun o => (((Below.refl _ w1).alloc (Nat.le_refl _) o).block _ hl1).trans HR1.out)
    have HZ0 := Lib.hid (show (Try.prog.info? 28).map (·.size) = some (#[.int .i64 0, .int .i64 0, .int .i64 0] : Array Value).size from size_cl)
    have HZ1 := Lib.hid (all_oneCell_toArray (one3c 0 0 0))
    have HE : Hid (∀ o cs, Below w.heap.size w ((w1.alloc o).setRow (w.heap.size + 1) cs)) := Lib.hid (fun o cs => bSetRow (HB1.out.alloc HB1.out.size o) (by omega) cs)
    clear hB1
    go_wp2_with (with_reducible refine wpList_store_row rfl 28 _ _ rfl (w.heap.size + 1) _ rfl rfl 28 _ (HRA.out _) HZ0.out rfl HZ1.out ?_)
    exact bodyPost_ret (v := .tuple #[ag3c 0 0 0, .int .i64 cd]) (results_row_slot rfl _ _ (w.heap.size + 1) 28 _ (0, 0) _ rfl (setRow_heap _ _ _ _ _ _ (HRA.out _)) HUM.out.1 HUM.out.2 HZ0.out _ rfl) rfl ⟨rfl, HE.out _ _⟩
  · rw [if_pos rfl]
    have HK := Lib.hid hk
    obtain ⟨hok, hwb⟩ : gOk gs = true ∧ wOkB zs = true := by simpa using hk
    have hwo := wOkB_ok hwb
    have HWH := Lib.hid (fun fv lo bw W (hb : Below w.heap.size w W) (h : IsCl W lo bw zs fv (.slice A gs.length c) gs) => clWhole_any fv _ gs lo bw zs W hwo hok (HRU.out W hb) h)
    rw [clWh_part hwo hok] at HWH
    generalize clWh zs gs = u at *
    have HZ0 := Lib.hid (show (Try.prog.info? 28).map (·.size) = some (clCs u).size from size_cl)
    have HZ1 : Hid ((clCs u).all (·.oneCell') = true) := Lib.hid (all_oneCell_toArray (one3c (u.getD 0 0) (u.getD 1 0) (u.getD 2 0)))
    clear hb1 hb hR0 h1 hz hum hdm hk hok hwb hwo
    go_enter Try.func17, Try.ntmps17
    go_wp2_with fail
    refine H1.out.mono ?_
    rintro e w1 hp
    obtain ⟨fv, bw, _, _, rfl, hy, hB1⟩ | ⟨k1, _⟩ := hp
    rotate_left
    · have := HK.out; rw [k1] at this; simp at this
    obtain ⟨A1, c1, A2, c2, he, _, _⟩ := hy.shape
    injection he with he
    subst he
    have HB1 := Lib.hid (HB.out.trans (hB1.mono HB.out.size))
    have HR1 := Lib.hid ((hB1.block (w.heap.size + 1) (by rw [HS2.out]; omega)).trans HR0.out)
    have hb3 := (Below.refl _ w1).alloc (Nat.le_refl _) (.cells (clAll bw (.slice A gs.length c) (.slice A1 gs.length c1) (.slice A2 gs.length c2)) 67)
    have HY3 := Lib.hid (hy.kept hb3)
    have HB3 := Lib.hid (HB1.out.trans (hb3.mono HB1.out.size))
    have hl1 : w.heap.size + 1 < w1.heap.size := (Array.getElem?_eq_some_iff.1 HR1.out).1
    have HR3 := Lib.hid ((hb3.block _ hl1).trans HR1.out)
    clear hB1 hy hb3
    go_wp2_with fail
    refine (HWH.out _ _ _ _ HB3.out HY3.out).mono ?_
    rintro e w3 ⟨rfl, hB4⟩
    have HR4 := Lib.hid ((hB4.block (w.heap.size + 1) (by simp; omega)).trans HR3.out)
    have HB4 := Lib.hid (HB3.out.trans (hB4.mono HB3.out.size))
    have HE : Hid (∀ cs, Below w.heap.size w (w3.setRow (w.heap.size + 1) cs)) := Lib.hid (fun cs => bSetRow HB4.out (by omega) cs)
    clear hB4
    go_wp2_with (with_reducible refine wpList_store_row rfl 28 _ _ rfl (w.heap.size + 1) _ rfl rfl 28 _ HR4.out HZ0.out rfl HZ1.out ?_)
    exact bodyPost_ret (v := .tuple #[.agg (clCs u), .int .i64 0]) (results_row_slot rfl _ _ (w.heap.size + 1) 28 _ (0, 0) _ rfl (setRow_heap _ _ _ _ _ _ HR4.out) HUM.out.1 HUM.out.2 HZ0.out _ rfl) rfl ⟨rfl, HE.out _⟩
end Go.Proofs.Ytkkbanbhiojllaa
