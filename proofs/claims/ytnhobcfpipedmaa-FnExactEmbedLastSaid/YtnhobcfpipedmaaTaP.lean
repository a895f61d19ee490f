/-
  Walks: impl.letterFold; length, part and whole of a fold of tallies.
-/
import Derived.Test.YtnhobcfpipedmaaTaF
import Derived.Test.YtnhobcfpipedmaaGWLen
import Derived.Test.YtnhobcfpipedmaaCovK
namespace Go.Proofs.Ytnhobcfpipedmaa
open Go.RowKit
open Wd
set_option linter.unusedVariables false
theorem taAll_one (A0 A1 A2 : Option Addr) (l0 l1 l2 c0 c1 c2 : Nat) : (taAll (.slice A0 l0 c0) (.slice A1 l1 c1) (.slice A2 l2 c2)).all (·.oneCell') = true :=
  all_oneCell_toArray (cs := [.int .i64 0, .int .i64 0, .int .i64 0, .int .i64 0, taL, taT, .slice A0 l0 c0, .slice A1 l1 c1, .slice A2 l2 c2]) (by intro v hv; simp only [List.mem_cons, List.not_mem_nil, or_false] at hv; rcases hv with rfl | rfl | rfl | rfl | rfl | rfl | rfl | rfl | rfl <;> rfl)
theorem taZero_one : taZero.all (·.oneCell') = true := by kernel_rfl
theorem taZero_size : (Try.prog.info? 154).map (·.size) = some taZero.size := size_taFold (.int .i64 0) (.int .i64 0) (.int .i64 0)
theorem IsTa.shape {w : World} {lo : Nat} {fv gv : Value} {gs : List Rl} (h : IsTa w lo fv gv gs) : ∃ A1 c1 A2 c2, fv = .agg (taAll gv (.slice A1 gs.length c1) (.slice A2 gs.length c2)) ∧ OwnsI w lo (.slice A1 gs.length c1) (lens gs) ∧ w.ownsRow lo 147 4 (.slice A2 gs.length c2) gs.length (iv (flV (taAt gs) gs.length)) := by
  obtain ⟨lv, vv, h0, h1, h2⟩ := h
  obtain ⟨A1, c1, rfl⟩ := own_slice h1
  obtain ⟨A2, c2, rfl⟩ := own_slice h2
  rw [lens_len] at h0 h1
  exact ⟨A1, c1, A2, c2, h0, h1, h2⟩
theorem IsTa.setRow {w : World} {lo R : Nat} {fv gv : Value} {gs : List Rl} (h : IsTa w lo fv gv gs) (hR : R < lo) (cs : Array Value) : IsTa (w.setRow R cs) lo fv gv gs := by
  obtain ⟨lv, vv, h0, h1, h2⟩ := h
  exact ⟨lv, vv, h0, World.ownsRow.kept h1 (grown_setRow w R cs) (.inr fun e => by have := (h1.lt R e).1; omega), World.ownsRow.kept h2 (grown_setRow w R cs) (.inr fun e => by have := (h2.lt R e).1; omega)⟩
set_option maxRecDepth 100000 in
set_option maxHeartbeats 3200000 in
theorem letterFold_any (v : Value) (gs : List Rl) (w : World) (hf : FewR gs) (hr : Rules w v gs) :
    Calls Try.prog 111 #[.agg #[v]] w fun e w' => ∃ fv, e = .returned (.tuple #[.agg fv, .bool (gOk gs)]) ∧ (gOk gs = true → IsTa w' w.heap.size (.agg fv) v gs) ∧ (gOk gs = false → fv = taZero) ∧ Below w.heap.size w w' := by
  have hb : Below w.heap.size w ((w.alloc (.cells #[v] 31)).alloc (.cells taZero 154)) := ((Below.refl _ w).alloc (Nat.le_refl _) _).alloc (by simp) _
  have hR : ((w.alloc (.cells #[v] 31)).alloc (.cells taZero 154)).heap[w.heap.size + 1]? = some (.cells taZero 154 (0, 0)) := by
    have := heap_alloc_new (w.alloc (.cells #[v] 31)) (.cells taZero 154)
    rwa [show (w.alloc (.cells #[v] 31)).heap.size = w.heap.size + 1 from by simp] at this
  have h1 := taFold_any v gs _ hf (hr.kept hb)
  have HB := Lib.hid hb
  have HR := Lib.hid hR
  have hsz : ((w.alloc (.cells #[v] 31)).alloc (.cells taZero 154)).heap.size = w.heap.size + 2 := by simp
  have HSZ := Lib.hid hsz
  obtain ⟨d, hu, hd⟩ := und_taFold
  have HU := Lib.hid (And.intro hu hd)
  have HZ := Lib.hid (And.intro taZero_size taZero_one)
  obtain ⟨Av, cv, rfl, _⟩ := hr
  clear hb hR hu hd hsz
  cases hok : gOk gs
  · rw [hok] at h1
    have H1 := Lib.hid h1
    clear h1 hok
    go_enter Try.func111, Try.ntmps111
    go_wp2_with fail
    refine H1.out.mono ?_
    rintro e w3 ⟨fv, rfl, _, hz, hB3⟩
    obtain rfl := hz trivial
    have HB3 := Lib.hid (HB.out.trans (hB3.mono HB.out.size))
    have HR3 := Lib.hid ((hB3.block (w.heap.size + 1) (by rw [HSZ.out]; omega)).trans HR.out)
    clear hB3 hz
    go_wp2_with (with_reducible refine wpList_store_row rfl 154 _ _ rfl (w.heap.size + 1) _ rfl rfl 154 _ HR3.out HZ.out.1 rfl HZ.out.2 ?_)
    exact bodyPost_ret (v := .tuple #[.agg taZero, .bool false]) (results_row_slot rfl _ _ (w.heap.size + 1) 154 _ (0, 0) _ rfl (setRow_heap _ _ _ taZero _ _ HR3.out) HU.out.1 HU.out.2 HZ.out.1 _ rfl) rfl ⟨taZero, rfl, fun h => (by cases h), fun _ => rfl, bSetRow HB3.out (by omega) _⟩
  · rw [hok] at h1
    have H1 := Lib.hid h1
    clear h1 hok
    go_enter Try.func111, Try.ntmps111
    go_wp2_with fail
    refine H1.out.mono ?_
    rintro e w3 ⟨fv, rfl, hy, _, hB3⟩
    have hy := hy trivial
    have HY := Lib.hid hy
    obtain ⟨A1, c1, A2, c2, he, _, _⟩ := hy.shape
    injection he with he
    subst he
    have HB3 := Lib.hid (HB.out.trans (hB3.mono HB.out.size))
    have HR3 := Lib.hid ((hB3.block (w.heap.size + 1) (by rw [HSZ.out]; omega)).trans HR.out)
    have HS2 := Lib.hid (And.intro (size_taFold (.slice Av gs.length cv) (.slice A1 gs.length c1) (.slice A2 gs.length c2)) (taAll_one Av A1 A2 gs.length gs.length gs.length cv c1 c2))
    clear hB3 hy
    go_wp2_with (with_reducible refine wpList_store_row rfl 154 _ _ rfl (w.heap.size + 1) _ rfl rfl 154 _ HR3.out HS2.out.1 rfl HS2.out.2 ?_)
    exact bodyPost_ret (v := .tuple #[.agg (taAll (.slice Av gs.length cv) (.slice A1 gs.length c1) (.slice A2 gs.length c2)), .bool true]) (results_row_slot rfl _ _ (w.heap.size + 1) 154 _ (0, 0) _ rfl (setRow_heap _ _ _ _ _ _ HR3.out) HU.out.1 HU.out.2 HS2.out.1 _ rfl) rfl ⟨_, rfl, fun _ => (HY.out.setRow (by rw [HSZ.out]; omega) _).lower (by rw [HSZ.out]; omega), fun h => (by cases h), bSetRow HB3.out (by omega) _⟩
set_option maxRecDepth 100000 in
theorem taLength_any (fv gv : Value) (gs : List Rl) (lo : Nat) (w : World) (hn : gs.length ≤ 1048576) (h : IsTa w lo fv gv gs) :
    Calls Try.prog 186 #[fv] w fun e w' => e = .returned (.int .i64 (wordLen gs)) ∧ w' = w.alloc (.cells fv.cells 154) := by
  obtain ⟨A1, c1, A2, c2, rfl, h1, _⟩ := h.shape
  have HL := Lib.hid (wordLength_any _ gs lo _ hn (h1.alloc (.cells (taAll gv (.slice A1 gs.length c1) (.slice A2 gs.length c2)) 154)))
  have h7 := cell_of_row _ _ 7 _ _ _ (heap_alloc_new w (.cells (taAll gv (.slice A1 gs.length c1) (.slice A2 gs.length c2)) 154))
  have h7 : (w.alloc (.cells (taAll gv (.slice A1 gs.length c1) (.slice A2 gs.length c2)) 154)).cell? ⟨w.heap.size, 7, none⟩ = some (.slice A1 gs.length c1) := h7
  have HN := Lib.hid (lens_len gs)
  clear h h1 hn
  go_enter Try.func186, Try.ntmps186
  go_wp2_with fail
  refine HL.out.mono ?_
  rintro e w1 ⟨rfl, rfl⟩
  go_wp2_with fail
  go_ret
  exact ⟨rfl, rfl⟩
end Go.Proofs.Ytnhobcfpipedmaa
