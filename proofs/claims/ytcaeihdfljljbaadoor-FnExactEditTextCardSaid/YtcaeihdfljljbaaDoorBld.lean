/-
  Builders beside other blocks; the walk of impl.writeWord.
-/
import Derived.Test.YtcaeihdfljljbaaDoorWordM
import Derived.Test.YtcaeihdfljljbaaDoorBldD
import Derived.Test.YtcaeihdfljljbaaDoorMeas
import Derived.Test.YtcaeihdfljljbaaDoorGPr
import Derived.Lib.OthersKept
namespace Go.Proofs.YtcaeihdfljljbaaDoor
open Go.RowKit
open Wd
set_option linter.unusedVariables false

theorem rulesU_kept {B : Nat} {w w' : World} {v : Value} {gs : List Rl} (h : RulesU B w v gs) (hb : Below B w w') : RulesU B w' v gs := by
  obtain ⟨A, c, hv, h | ⟨g, hA, hg, hc⟩⟩ := h
  · exact ⟨A, c, hv, .inl h⟩
  · exact ⟨A, c, hv, .inr ⟨g, hA, hg, fun j u hu => by rw [World.cell?_of_block (a := ⟨g, j, none⟩) (hb.block g hg)]; exact hc j u hu⟩⟩
set_option maxRecDepth 100000 in
set_option maxHeartbeats 3200000 in
theorem writeWord_letter (B b : Nat) (v : Value) (gs : List Rl) (k : Nat) (hk : k < gs.length) (hn : gs.length ≤ 1048576) (h0 : gs[k].L.size ≠ 0) (l : List UInt8) (W : World) (hb : Bld B b l W) (hr : RulesU B W v gs) (hB : B ≤ W.heap.size) (hl : l.length + gs[k].L.size ≤ 1000000000) :
    Calls Tryd.prog 106 #[.pointer (some ⟨b, 0, none⟩), v, .int .i64 k] W (WrPost B b (l ++ gs[k].L.data.toList) W) := by
  obtain ⟨A, c, rfl, hr⟩ := hr
  rcases hr with hr | ⟨g, rfl, hg, hc⟩
  · rw [hr] at hk; simp at hk
  obtain ⟨a0, a1, a2⟩ := rules_cells hc hk
  have HK := Lib.hid (fun W => kind_letter gs[k] h0 W)
  have HT := ta_ll
  have HBL := Lib.hid hb
  have hs1 : (Lib.byteCells l).length + gs[k].L.size ≤ 140737488355328 := by rw [Lib.byteCells_length]; omega
  have HW := Lib.hid (fun w h1 h2 => Tryd.wstr B b (Lib.byteCells l) gs[k].L w h1 hs1 h2)
  generalize gs[k] = R at *
  clear hc hb h0 hl hs1
  go_enter Tryd.func106, Tryd.ntmps106
  go_wp2_with fail
  refine (HK.out _).mono ?_
  rintro e w1 ⟨rfl, hB1⟩
  have HB1 := Lib.hid hB1
  clear hB1 a0 a1 a2
  go_wp2_with fail
  have hb2 := HB1.out.alloc HB1.out.size (.cells #[.string R.L, .int .i64 R.l, .int .i64 R.r] 177)
  have HB2 := Lib.hid hb2
  refine (HW.out _ (bld_kept HBL.out hb2) (Nat.le_trans hB hb2.size)).mono ?_
  rintro e w3 ⟨rfl, hbd, hB3, hO3⟩
  have HE := Lib.hid (show WrPost B b (l ++ R.L.data.toList) W (.returned (.tuple #[])) w3 from ⟨rfl, .inr (by rw [byteCells_app]; exact hbd), (hb2.mono hB).trans hB3, (oth_below hb2).trans hO3⟩)
  clear hb2 hbd hB3 hO3
  go_wp2_with fail
  go_end0
  exact HE.out

set_option maxRecDepth 100000 in
set_option maxHeartbeats 3200000 in
theorem writeWord_pair (B b : Nat) (v : Value) (gs : List Rl) (k x y : Nat) (hk : k < gs.length) (hn : gs.length ≤ 1048576) (h0 : gs[k].L.size = 0) (hx : gs[k].l = x) (hy : gs[k].r = y) (hxk : x < k) (hyk : y < k) (l m1 m2 : List UInt8) (W : World) (hb : Bld B b l W) (hr : RulesU B W v gs) (hB : B ≤ W.heap.size)
    (c1 : ∀ w, Bld B b l w → RulesU B w v gs → B ≤ w.heap.size → Calls Tryd.prog 106 #[.pointer (some ⟨b, 0, none⟩), v, .int .i64 x] w (WrPost B b (l ++ m1) w))
    (c2 : ∀ w, Bld B b (l ++ m1) w → RulesU B w v gs → B ≤ w.heap.size → Calls Tryd.prog 106 #[.pointer (some ⟨b, 0, none⟩), v, .int .i64 y] w (WrPost B b (l ++ m1 ++ m2) w)) :
    Calls Tryd.prog 106 #[.pointer (some ⟨b, 0, none⟩), v, .int .i64 k] W (WrPost B b (l ++ m1 ++ m2) W) := by
  have HRU := Lib.hid hr
  obtain ⟨A, c, rfl, hr⟩ := hr
  rcases hr with hr | ⟨g, rfl, hg, hc⟩
  · rw [hr] at hk; simp at hk
  obtain ⟨a0, a1, a2⟩ := rules_cells hc hk
  have HK := Lib.hid (fun W => kind_pair gs[k] h0 W)
  have HT := ta_pl
  have HTP := ta_pp
  have HBL := Lib.hid hb
  have HC1 := Lib.hid c1
  have HC2 := Lib.hid c2
  have HX := Lib.hid hx
  have HY := Lib.hid hy
  have HBB := Lib.hid (bld_lt hb)
  have hb1 : b < W.heap.size := (bld_lt hb).2
  generalize gs[k] = R at *
  clear hc hb h0 c1 c2 hx hy
  go_enter Tryd.func106, Tryd.ntmps106
  go_wp2_with fail
  refine (HK.out _).mono ?_
  rintro e w1 ⟨rfl, hB1⟩
  have HB1 := Lib.hid hB1
  have hs1 := hB1.size
  clear hB1 a0 a1 a2
  go_wp2_with fail
  have hb2 := HB1.out.alloc HB1.out.size (.cells #[.string R.L, .int .i64 R.l, .int .i64 R.r] 176)
  have HV := Lib.hid (heap_alloc_new w1 (.cells #[.string R.L, .int .i64 R.l, .int .i64 R.r] 176))
  have HB2 := Lib.hid hb2
  obtain ⟨V, hV⟩ : ∃ V, V = w1.heap.size := ⟨_, rfl⟩
  rw [← hV] at HV ⊢
  have hVb : some V ≠ some b := fun e => by have : V = b := Option.some.inj e; omega
  generalize w1.alloc (.cells #[.string R.L, .int .i64 R.l, .int .i64 R.r] 176) = w2 at *
  rw [HX.out]
  clear hV hb2
  refine (HC1.out _ (bld_kept HBL.out HB2.out) (rulesU_kept HRU.out (HB2.out.mono hB)) (Nat.le_trans hB HB2.out.size)).mono ?_
  rintro e w3 ⟨rfl, hbd3, hB3, hO3⟩
  have hV3 := hO3 V _ HV.out hVb (fun c fz e => by injection e with _ ht; exact absurd ht (by decide))
  obtain ⟨⟨b0, b1, b2⟩, _⟩ := blk3_cells hV3
  have HBD3 := Lib.hid hbd3
  have HB3 := Lib.hid ((HB2.out.mono hB).trans hB3)
  have HO3 := Lib.hid ((oth_below HB2.out : Oth8 b W w2).trans hO3)
  clear hbd3 hB3 hO3 hV3
  go_wp2_with fail
  rw [HY.out]
  refine (HC2.out _ HBD3.out (rulesU_kept HRU.out HB3.out) (Nat.le_trans hB HB3.out.size)).mono ?_
  rintro e w4 ⟨rfl, hbd4, hB4, hO4⟩
  have HE := Lib.hid (show WrPost B b (l ++ m1 ++ m2) W (.returned (.tuple #[])) w4 from ⟨rfl, hbd4, HB3.out.trans hB4, HO3.out.trans hO4⟩)
  clear hbd4 hB4 hO4 b0 b1 b2
  go_wp2_with fail
  go_end0
  exact HE.out

theorem writeWord_any (B b : Nat) (v : Value) (gs : List Rl) (hok : gOk gs = true) : ∀ m k, k < m → (hk : k < gs.length) → ∀ (l : List UInt8) (W : World), Bld B b l W → RulesU B W v gs → B ≤ W.heap.size → (l.length : Int) + (lens gs).getD k 0 ≤ 1000000000 →
    Calls Tryd.prog 106 #[.pointer (some ⟨b, 0, none⟩), v, .int .i64 k] W (WrPost B b (l ++ wordAt gs k) W)
  | 0, k, hm, _, _, _, _, _, _, _ => by omega
  | m + 1, k, hm, hk, l, W, hb, hr, hB, hl => by
    have hn := gOk_len hok
    by_cases h0 : gs[k].L.size = 0
    · obtain ⟨x, y, hx, hy, hxk, hyk, hs, p1, _, p2, _⟩ := pair_parts hok hk h0
      rw [wordAt_pair hok hk h0 hx hy hxk hyk, ← List.append_assoc]
      have la := wordAt_len hok (show x < gs.length by omega)
      refine writeWord_pair B b v gs k x y hk (by omega) h0 hx hy hxk hyk l _ _ W hb hr hB (fun w h1 h2 h3 => writeWord_any B b v gs hok m x (by omega) (by omega) l w h1 h2 h3 (by omega)) (fun w h1 h2 h3 => writeWord_any B b v gs hok m y (by omega) (by omega) _ w h1 h2 h3 ?_)
      rw [List.length_append]; omega
    · rw [wordAt_letter hk h0]
      have h1 : (lens gs).getD k 0 = 1 := vals_letter _ gs k hk h0
      have h2 := ((ok_letter h0).1 (fits_at (gOk_iff.1 hok).2.1 k hk)).1.1
      exact writeWord_letter B b v gs k hk (by omega) h0 l W hb hr hB (by omega)
end Go.Proofs.YtcaeihdfljljbaaDoor
