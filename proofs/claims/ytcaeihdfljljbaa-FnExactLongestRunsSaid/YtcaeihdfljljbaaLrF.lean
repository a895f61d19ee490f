/-
  Walk: impl.foldOf of stretches.
-/
import Derived.Test.YtcaeihdfljljbaaLrM
import Derived.Test.YtcaeihdfljljbaaHand
import Derived.Test.YtcaeihdfljljbaaVLen
import Derived.Test.YtcaeihdfljljbaaIdx
import Derived.Laws.EntriesVeiled
import Derived.Deep.RegionHeld3
import Derived.Deep.AppendLies
import Derived.Deep.Cut
namespace Go.Proofs.Ytcaeihdfljljbaa
open Go.RowKit
open Wd
set_option linter.unusedVariables false
theorem info_lr : (Try.prog.info? 115).map (fun i => (i.zero, i.size, i.bytes)) = some (some (ag4s 0 0 0 0), 4, 32) := by kernel_rfl
abbrev lrL (bl : Nat) : Value := .func (.func 69) #[] #[.pointer (some ⟨bl, 0, none⟩)]
abbrev lrT : Value := .func (.func 71) #[] #[]
abbrev lrCnt (bl : Nat) : Array Value := #[.int .i64 0, .int .i64 0, .int .i64 0, .int .i64 0, lrL bl, lrT]
abbrev lrZero : Array Value := #[.int .i64 0, .int .i64 0, .int .i64 0, .int .i64 0, .nilFunc, .nilFunc, .slice none 0 0, .slice none 0 0, .slice none 0 0]
abbrev lrAll (bl : Nat) (gv lv vv : Value) : Array Value := #[.int .i64 0, .int .i64 0, .int .i64 0, .int .i64 0, lrL bl, lrT, gv, lv, vv]
theorem size_lrFold (bl : Nat) (gv lv vv : Value) : (Try.prog.info? 122).map (·.size) = some (lrAll bl gv lv vv).size := by
  have : (Try.prog.info? 122).map (·.size) = some 9 := by kernel_rfl
  exact this
theorem und_lrFold : ∃ d, Try.prog.underlying 122 = some d ∧ rowD d = true := und_row (by kernel_rfl)
theorem und_lrCnt : ∃ d, Try.prog.underlying 119 = some d ∧ rowD d = true := und_row (by kernel_rfl)
theorem size_lrCnt (bl : Nat) : (Try.prog.info? 119).map (·.size) = some (lrCnt bl).size := by
  have : (Try.prog.info? 119).map (·.size) = some 6 := by kernel_rfl
  exact this
/-- a fold of stretches over rules gv; its lengths and tallies lie from lo on -/
def IsLr (w : World) (lo bl l : Nat) (fv gv : Value) (gs : List Rl) : Prop :=
  ∃ lv vv, fv = .agg (lrAll bl gv lv vv) ∧ OwnsI w lo lv (lens gs) ∧ w.ownsRow lo 115 4 vv gs.length (iv (flV (stAt l gs) gs.length))
theorem IsLr.kept {w w' : World} {lo bl l : Nat} {fv gv : Value} {gs : List Rl} (h : IsLr w lo bl l fv gv gs) (hb : Below w.heap.size w w') : IsLr w' lo bl l fv gv gs := by
  obtain ⟨lv, vv, h0, h1, h2⟩ := h
  exact ⟨lv, vv, h0, own_below h1 hb (Nat.le_refl _), own_below h2 hb (Nat.le_refl _)⟩
theorem IsLr.lower {w : World} {lo B bl l : Nat} {fv gv : Value} {gs : List Rl} (h : IsLr w lo bl l fv gv gs) (hB : B ≤ lo) : IsLr w B bl l fv gv gs := by
  obtain ⟨lv, vv, h0, h1, h2⟩ := h
  exact ⟨lv, vv, h0, own_lower h1 hB, own_lower h2 hB⟩
theorem s11s {w w' : World} {p1 p2 p3 p4 p5 p6 p7 p8 p9 p10 p11 : Addr} {v1 v2 v3 v4 v5 v6 v7 v8 v9 v10 v11 : Value}
    (h : w.cell? p1 = some v1 ∧ w.cell? p2 = some v2 ∧ w.cell? p3 = some v3 ∧ w.cell? p4 = some v4 ∧ w.cell? p5 = some v5 ∧ w.cell? p6 = some v6 ∧ w.cell? p7 = some v7 ∧ w.cell? p8 = some v8 ∧ w.cell? p9 = some v9 ∧ w.cell? p10 = some v10 ∧ w.cell? p11 = some v11)
    (k : ∀ p v, w.cell? p = some v → w'.cell? p = some v) :
    w'.cell? p1 = some v1 ∧ w'.cell? p2 = some v2 ∧ w'.cell? p3 = some v3 ∧ w'.cell? p4 = some v4 ∧ w'.cell? p5 = some v5 ∧ w'.cell? p6 = some v6 ∧ w'.cell? p7 = some v7 ∧ w'.cell? p8 = some v8 ∧ w'.cell? p9 = some v9 ∧ w'.cell? p10 = some v10 ∧ w'.cell? p11 = some v11 :=
  ⟨k _ _ h.1, k _ _ h.2.1, k _ _ h.2.2.1, k _ _ h.2.2.2.1, k _ _ h.2.2.2.2.1, k _ _ h.2.2.2.2.2.1, k _ _ h.2.2.2.2.2.2.1, k _ _ h.2.2.2.2.2.2.2.1, k _ _ h.2.2.2.2.2.2.2.2.1, k _ _ h.2.2.2.2.2.2.2.2.2.1, k _ _ h.2.2.2.2.2.2.2.2.2.2⟩
/-- between two rules: the tallies lie in block M -/
def LrSt (l : Nat) (gs : List Rl) (w4 : World) (M n k : Nat) (vv : Value) (wr : World) : Prop :=
  vv = .slice (some ⟨M, 0, none⟩) k n ∧ wr.ownsRow M 115 4 (.slice (some ⟨M, 0, none⟩) k n) k (iv (flV (stAt l gs) k)) ∧ Below M w4 wr
theorem lrSt_next {l : Nat} {gs : List Rl} {w4 wr w5 w6 : World} {M n k : Nat} {vv : Value} {x0 x1 x2 x3 : Int} {o : Obj} (hst : LrSt l gs w4 M n k vv wr) (hM : M ≤ wr.heap.size) (hb : Below wr.heap.size wr w5) (hv : stAt l gs k = [x0, x1, x2, x3])
    (hown : w6.ownsRow M 115 4 (.slice (some ⟨M, 0, none⟩) (k + 1) n) (k + 1) (iv (flV (stAt l gs) k) ++ [.int .i64 x0, .int .i64 x1, .int .i64 x2, .int .i64 x3])) (hg : (w5.alloc o).grownBy w6 (some M)) : LrSt l gs w4 M n (k + 1) (.slice (some ⟨M, 0, none⟩) (k + 1) n) w6 := by
  obtain ⟨h0, h1, h2⟩ := hst
  have hB := h2.trans (hb.mono hM)
  have hs := hb.size
  refine ⟨rfl, ?_, (hB.alloc (by omega) o).grown hg (by simp; omega) (fun q hq => by injection hq with hq; omega)⟩
  rw [flV_succ, iv_app, hv]
  exact hown
/-- the cells of a tally of a row -/
theorem lrSt_cells {l : Nat} {gs : List Rl} {w : World} {B g c k j : Nat} (hl : ∀ i, i < k → (stAt l gs i).length = 4) (h : w.ownsRow B 115 4 (.slice (some ⟨g, 0, none⟩) k c) k (iv (flV (stAt l gs) k))) (hj : j < k) :
    w.cell? ⟨g, j * 4, none⟩ = some (.int .i64 ((stAt l gs j).getD 0 0)) ∧ w.cell? ⟨g, j * 4 + 1, none⟩ = some (.int .i64 ((stAt l gs j).getD 1 0)) ∧ w.cell? ⟨g, j * 4 + 2, none⟩ = some (.int .i64 ((stAt l gs j).getD 2 0)) ∧ w.cell? ⟨g, j * 4 + 3, none⟩ = some (.int .i64 ((stAt l gs j).getD 3 0)) := by
  have hlen := flV_len hl
  have key : ∀ i, i < 4 → w.cell? ⟨g, j * 4 + i, none⟩ = some (.int .i64 ((stAt l gs j).getD i 0)) := fun i hi => by
    have h1 := flV_get hl hj hi
    have h2 : j * 4 + i < (flV (stAt l gs) k).length := (List.getElem?_eq_some_iff.1 h1).1
    rw [h.cellAt (j * 4 + i) (by omega), iv_get _ _ h2]
    rw [List.getElem?_eq_getElem h2] at h1
    injection h1 with h1
    rw [h1]
  exact ⟨key 0 (by omega), key 1 (by omega), key 2 (by omega), key 3 (by omega)⟩
set_option maxRecDepth 100000 in
set_option maxHeartbeats 12800000 in
theorem lrFold_any (v : Value) (gs : List Rl) (bl l : Nat) (w : World) (hf : FewR gs) (hr : Rules w v gs) (hw : w.cell? ⟨bl, 0, none⟩ = some (.int .i64 (l : Int))) :
    Calls Try.prog 68 #[.agg #[v], .agg (lrCnt bl)] w fun e w' => ∃ fv, e = .returned (.tuple #[.agg fv, .bool (gOk gs)]) ∧ (gOk gs = true → IsLr w' w.heap.size bl l (.agg fv) v gs) ∧ (gOk gs = false → fv = lrZero) ∧ Below w.heap.size w w' := by
  obtain ⟨i0, hi, hz0, hz1, hz2⟩ := info_parts info_lr
  obtain ⟨hG, hC, hR, hb, hs3⟩ := al3 w (.cells #[v] 48) (.cells (lrCnt bl) 119) (.cells lrZero 122)
  have hl1 := len.vlen_any v gs _ hf (hr.kept hb)
  unfold LensPost at hl1
  have HL := Lib.hid hl1
  have HB := Lib.hid hb
  have HH := Lib.hid (And.intro hG (And.intro hC hR))
  have HS3 := Lib.hid hs3
  have HRU := Lib.hid (fun W (hb : Below w.heap.size w W) => hr.kept hb)
  have HWS := Lib.hid (fun W (hb : Below w.heap.size w W) => (hb.cell (p := ⟨bl, 0, none⟩) (lt_of_cell hw)).trans hw)
  have hg0 := cell_of_row _ _ 0 _ _ _ hG
  obtain ⟨Av, cv, rfl, _⟩ := hr
  have hg0 : (((w.alloc (.cells #[.slice Av gs.length cv] 48)).alloc (.cells (lrCnt bl) 119)).alloc (.cells lrZero 122)).cell? ⟨w.heap.size, 0, none⟩ = some (.slice Av gs.length cv) := hg0
  have HG0 := Lib.hid hg0
  clear hb hl1 hG hC hR hs3 hw
  obtain ⟨d, hu, hd⟩ := und_lrFold
  have HU := Lib.hid (And.intro hu hd)
  have HSZ := Lib.hid (fun gv lv vv => size_lrFold bl gv lv vv)
  have HSZ0 : Hid ((Try.prog.info? 122).map (·.size) = some lrZero.size) := Lib.hid (size_lrFold bl (.int .i64 0) (.int .i64 0) (.int .i64 0))
  have HON0 : Hid (lrZero.all (·.oneCell') = true) := Lib.hid (by kernel_rfl)
  clear hu hd
  cases hok : gOk gs
  · rw [hok] at HL
    clear hok
    go_enter Try.func68, Try.ntmps68
    go_upto_region 1 with fail
    change Code.wp _ _ _ _ (((w.alloc (.cells #[.slice Av gs.length cv] 48)).alloc (.cells (lrCnt bl) 119)).alloc (.cells lrZero 122))
    generalize ((w.alloc (.cells #[.slice Av gs.length cv] 48)).alloc (.cells (lrCnt bl) 119)).alloc (.cells lrZero 122) = w3 at *
    obtain ⟨R, hRe⟩ : ∃ R, R = w.heap.size + 1 + 1 := ⟨_, rfl⟩
    have HRE := Lib.hid hRe
    rw [← hRe]
    rw [show w.heap.size + 2 = R from hRe.symm] at HH
    clear hRe
    go_wp2_with fail
    refine HL.out.mono ?_
    rintro e w4 ⟨x, rfl, _, hB4⟩
    have HB4 := Lib.hid (HB.out.trans (hB4.mono HB.out.size))
    have HR4 := Lib.hid ((hB4.block R (by have := HRE.out; have := HS3.out; omega)).trans HH.out.2.2)
    clear hB4
    go_wp2_with (with_reducible refine wpList_store_row rfl 122 _ _ rfl R _ rfl rfl 122 _ HR4.out HSZ0.out rfl HON0.out ?_)
    refine bodyPost_ret (v := .tuple #[.agg lrZero, .bool false]) (results_row_slot rfl _ _ R 122 _ (0, 0) _ rfl (setRow_heap _ R _ lrZero _ _ HR4.out) HU.out.1 HU.out.2 HSZ0.out _ rfl) rfl ⟨lrZero, rfl, fun h => (by cases h), fun _ => rfl, bSetRow HB4.out (by rw [HRE.out]; omega) _⟩
  · rw [hok] at HL
    have HOK := Lib.hid hok
    have HFIT := Lib.hid (gOk_iff.1 hok).2.1
    have hn400 := gOk_len hok
    clear hok
    go_enter Try.func68, Try.ntmps68
    go_upto_region 1 with fail
    change Code.wp _ _ _ _ (((w.alloc (.cells #[.slice Av gs.length cv] 48)).alloc (.cells (lrCnt bl) 119)).alloc (.cells lrZero 122))
    generalize ((w.alloc (.cells #[.slice Av gs.length cv] 48)).alloc (.cells (lrCnt bl) 119)).alloc (.cells lrZero 122) = w3 at *
    obtain ⟨R, hRe⟩ : ∃ R, R = w.heap.size + 1 + 1 := ⟨_, rfl⟩
    have HRE := Lib.hid hRe
    rw [← hRe]
    rw [show w.heap.size + 2 = R from hRe.symm] at HH
    clear hRe
    go_wp2_with fail
    refine HL.out.mono ?_
    rintro e w4 ⟨x, rfl, ho4, hB4⟩
    have ho4 := ho4 trivial
    have HO4 := Lib.hid ho4
    obtain ⟨Ax, cx, rfl⟩ := own_slice ho4
    have HB34 := Lib.hid hB4
    have HB4 := Lib.hid (HB.out.trans (hB4.mono HB.out.size))
    have HR4 := Lib.hid ((hB4.block R (by have := HRE.out; have := HS3.out; omega)).trans HH.out.2.2)
    have HC4 := Lib.hid ((hB4.block (w.heap.size + 1) (by have := HRE.out; have := HS3.out; omega)).trans HH.out.2.1)
    have hg4 := (hB4.cell (p := ⟨w.heap.size, 0, none⟩) (by have := HS3.out; simp only; omega)).trans HG0.out
    have hs4 : w.heap.size + 3 ≤ w4.heap.size := by have := hB4.size; have := HS3.out; omega
    have HG4 := Lib.hid hg4
    obtain ⟨n, hne⟩ : ∃ n, n = gs.length := ⟨_, rfl⟩
    rw [← hne] at hn400 hg4
    have HN := Lib.hid hne
    clear ho4 hB4 hg0
    obtain ⟨M, hM⟩ : ∃ M, M = w4.heap.size := ⟨_, rfl⟩
    have HM := Lib.hid hM
    have hMw : w.heap.size + 3 ≤ M := by rw [hM]; exact hs4
    rw [← hne]
    clear hne hM
    go_wp2_with (first | (at_make; refine wpList_make_own _ rfl _ _ 120 rfl w4.heap.size 115 i0 (ag4s 0 0 0 0) 4 Try.underlying120 hi hz0 hz1 .i64 .i64 _ n rfl rfl rfl (by rw [hz2]; omega) (by unfold maxLen; omega) (Nat.le_refl _) ?_))
    intro w5 hown hgr
    have hB5 := below_of_grown hgr
    have hg5 := (hB5.cell (p := ⟨w.heap.size, 0, none⟩) (lt_of_cell HG4.out)).trans HG4.out
    rw [← HN.out] at hg5
    rw [← HM.out] at hown hB5 ⊢
    have HST : Hid (LrSt l gs w4 M n 0 (.slice (some ⟨M, 0, none⟩) 0 n) w5) := Lib.hid ⟨rfl, hown, hB5⟩
    clear hown hgr hB5
    go_wp2_with fail
    clear hg5
    go_loopw [8, 10, 11, 12, 28] (fun vv _ _ _ i wr => ∃ k : Nat, k ≤ n ∧ i = .int .i64 k ∧ LrSt l gs w4 M n k vv wr) (fun _ _ _ _ i _ => n - (intOf i).toNat)
    case atStart => exact ⟨0, Nat.zero_le _, rfl, HST.out⟩
    case round =>
      obtain ⟨k, hk, rfl, hst⟩ := hrel
      obtain ⟨wo, rfl⟩ : ∃ wo : World, wo = wr := ⟨_, rfl⟩
      have HSX := Lib.hid hst
      obtain ⟨rfl, hown, hB⟩ := hst
      have hB' : Below w4.heap.size w4 wo := by rw [← HM.out]; exact hB
      have hBw := HB4.out.trans (hB'.mono HB4.out.size)
      have hMl : M < wo.heap.size := (hown.lt M rfl).2
      by_cases hkn : k < n
      · have hkg : k < gs.length := by rw [← HN.out]; exact hkn
        obtain ⟨Ay, cy, hvy, hcy⟩ := HRU.out wo hBw
        injection hvy with hvA _ hvc
        subst hvA hvc
        rcases hcy with hn0 | ⟨g, rfl, hg, hc⟩
        · rw [hn0] at hkg; simp at hkg
        obtain ⟨a0, a1, a2⟩ := rules_cells hc hkg
        have hfit := fits_at HFIT.out k hkg
        have hCo := (hB'.block (w.heap.size + 1) (by omega)).trans HC4.out
        have hc4 := cell_of_row _ _ 4 _ _ _ hCo
        have hc5 := cell_of_row _ _ 5 _ _ _ hCo
        have hc4 : wo.cell? ⟨w.heap.size + 1, 4, none⟩ = some (lrL bl) := hc4
        have hc5 : wo.cell? ⟨w.heap.size + 1, 5, none⟩ = some lrT := hc5
        have hCl : w.heap.size + 1 < wo.heap.size := lt_of_cell hc5
        have hall : ∀ i, i < k → stOk ((lens gs).getD i 0) (stAt l gs i) := fun i hi => stAt_ok HOK.out (by omega)
        have HAL := Lib.hid (fun i (hi : i < k) => (hall i hi).1)
        have HAL1 := Lib.hid (fun i (hi : i < k + 1) => (stAt_ok (l := l) HOK.out (k := i) (by omega)).1)
        have k0 : (0 : Int) ≤ (k : Int) := by omega
        have k1 : (k : Int) < (n : Int) := by omega
        have HOW := Lib.hid hown
        have HBW0 := Lib.hid hBw
        clear hc hB hB' hBw hCo
        by_cases h0 : gs[k].L.size = 0
        · have hp := (ok_pair h0).1 hfit
          have HK := Lib.hid (fun W => kind_pair gs[k] h0 W)
          have HT1 := tt_pl
          have HT2 := tt_pp
          obtain ⟨a, ha⟩ : ∃ a : Nat, gs[k].l = a := ⟨gs[k].l.toNat, by omega⟩
          obtain ⟨b, hb⟩ : ∃ b : Nat, gs[k].r = b := ⟨gs[k].r.toNat, by omega⟩
          have hak : a < k := by omega
          have hbk : b < k := by omega
          have hva := hall a hak
          have hvb := hall b hbk
          have hla := small_at (gOk_iff.1 HOK.out).2.2 a (by omega)
          have hlb := small_at (gOk_iff.1 HOK.out).2.2 b (by omega)
          have hvk : stAt l gs k = [(stAt l gs a).getD 0 0 + (stAt l gs b).getD 0 0, if (stAt l gs a).getD 1 0 = (stAt l gs a).getD 0 0 then (stAt l gs a).getD 1 0 + (stAt l gs b).getD 1 0 else (stAt l gs a).getD 1 0, if (stAt l gs b).getD 2 0 = (stAt l gs b).getD 0 0 then (stAt l gs b).getD 2 0 + (stAt l gs a).getD 2 0 else (stAt l gs b).getD 2 0, max (max ((stAt l gs a).getD 3 0) ((stAt l gs b).getD 3 0)) ((stAt l gs a).getD 2 0 + (stAt l gs b).getD 1 0)] := (valAt_pair HFIT.out hkg h0 ha hb hak hbk).trans rfl
          obtain ⟨_, p0, p1, p2, p3, _⟩ := hva
          obtain ⟨_, q0, q1, q2, q3, _⟩ := hvb
          have hla0 : 0 ≤ (lens gs).getD a 0 := by omega
          have hlb0 : 0 ≤ (lens gs).getD b 0 := by omega
          have hx0 : 0 ≤ (stAt l gs a).getD 0 0 ∧ (stAt l gs a).getD 0 0 ≤ 1000000000000000 := by omega
          have hx1 : 0 ≤ (stAt l gs a).getD 1 0 ∧ (stAt l gs a).getD 1 0 ≤ 1000000000000000 := by omega
          have hx2 : 0 ≤ (stAt l gs a).getD 2 0 ∧ (stAt l gs a).getD 2 0 ≤ 1000000000000000 := by omega
          have hx3 : 0 ≤ (stAt l gs a).getD 3 0 ∧ (stAt l gs a).getD 3 0 ≤ 1000000000000000 := by omega
          have hy0 : 0 ≤ (stAt l gs b).getD 0 0 ∧ (stAt l gs b).getD 0 0 ≤ 1000000000000000 := by omega
          have hy1 : 0 ≤ (stAt l gs b).getD 1 0 ∧ (stAt l gs b).getD 1 0 ≤ 1000000000000000 := by omega
          have hy2 : 0 ≤ (stAt l gs b).getD 2 0 ∧ (stAt l gs b).getD 2 0 ≤ 1000000000000000 := by omega
          have hy3 : 0 ≤ (stAt l gs b).getD 3 0 ∧ (stAt l gs b).getD 3 0 ≤ 1000000000000000 := by omega
          clear p0 p1 p2 p3 q0 q1 q2 q3 hla0 hlb0
          obtain ⟨xa0, xa1, xa2, xa3⟩ := lrSt_cells HAL.out HOW.out hak
          obtain ⟨xb0, xb1, xb2, xb3⟩ := lrSt_cells HAL.out HOW.out hbk
          have HTA := Lib.hid (fun (w6 : World) (h : w6.ownsRow M 115 4 (.slice (some ⟨M, 0, none⟩) (k + 1) n) (k + 1) (iv (flV (stAt l gs) (k + 1)))) => lrSt_cells HAL1.out h (show a < k + 1 by omega))
          have HTB := Lib.hid (fun (w6 : World) (h : w6.ownsRow M 115 4 (.slice (some ⟨M, 0, none⟩) (k + 1) n) (k + 1) (iv (flV (stAt l gs) (k + 1)))) => lrSt_cells HAL1.out h (show b < k + 1 by omega))
          generalize (stAt l gs a).getD 0 0 = x0 at *
          generalize (stAt l gs a).getD 1 0 = x1 at *
          generalize (stAt l gs a).getD 2 0 = x2 at *
          generalize (stAt l gs a).getD 3 0 = x3 at *
          generalize (stAt l gs b).getD 0 0 = y0 at *
          generalize (stAt l gs b).getD 1 0 = y1 at *
          generalize (stAt l gs b).getD 2 0 = y2 at *
          generalize (stAt l gs b).getD 3 0 = y3 at *
          have HTH := Lib.hid (fun W => stThen_any x0 x1 x2 x3 y0 y1 y2 y3 W hx0 hx1 hx2 hx3 hy0 hy1 hy2 hy3)
          generalize (if x1 = x0 then x1 + y1 else x1) = z1 at *
          generalize (if y2 = y0 then y2 + x2 else y2) = z2 at *
          generalize max (max x3 y3) (x2 + y1) = z3 at *
          generalize x0 + y0 = z0 at *
          have HVK := Lib.hid hvk
          generalize gs[k] = Rk at *
          obtain ⟨L, l, r⟩ := Rk
          simp only at ha hb a0 a1 a2 HK
          subst ha hb
          have a0' : (0 : Int) ≤ (a : Int) := by omega
          have a1' : (a : Int) < (k : Int) := by omega
          have b0' : (0 : Int) ≤ (b : Int) := by omega
          have b1' : (b : Int) < (k : Int) := by omega
          clear hall hla hlb hx0 hx1 hx2 hx3 hy0 hy1 hy2 hy3 hvk hown hfit h0 hp
          go_wp2_with fail
          refine (HK.out _).mono ?_
          rintro e w7 ⟨rfl, hB7⟩
          have hb7 := ((Below.refl _ wo).alloc (Nat.le_refl _) (.cells #[.string L, .int .i64 a, .int .i64 b] 132)).trans (hB7.mono (by simp))
          have hb8 := hb7.alloc hb7.size (.cells #[.string L, .int .i64 a, .int .i64 b] 201)
          have kcs := heap_alloc_new w7 (.cells #[.string L, .int .i64 a, .int .i64 b] 201)
          have kc1 : (w7.alloc (.cells #[.string L, .int .i64 a, .int .i64 b] 201)).cell? ⟨w7.heap.size, 1, none⟩ = some (.int .i64 a) := by rw [cell_of_row _ _ _ _ _ _ kcs]; rfl
          have kc2 : (w7.alloc (.cells #[.string L, .int .i64 a, .int .i64 b] 201)).cell? ⟨w7.heap.size, 2, none⟩ = some (.int .i64 b) := by rw [cell_of_row _ _ _ _ _ _ kcs]; rfl
          have HB8 := Lib.hid hb8
          obtain ⟨Kp, hKp⟩ : ∃ Kp, Kp = w7.heap.size := ⟨_, rfl⟩
          have hM7 : wo.heap.size ≤ w7.heap.size := hb7.size
          clear a0 a1 a2 hB7 hb7 kcs
          go_upto_region 14 with fail
          have hKM : Kp ≠ M := by omega
          rw [← hKp] at kc1 kc2 ⊢
          generalize w7.alloc (.cells #[.string L, .int .i64 a, .int .i64 b] 201) = w8 at *
          have c5 := cells_below hb8 _ _ hc5
          have ca0 := cells_below hb8 _ _ xa0
          have ca1 := cells_below hb8 _ _ xa1
          have ca2 := cells_below hb8 _ _ xa2
          have ca3 := cells_below hb8 _ _ xa3
          have cb0 := cells_below hb8 _ _ xb0
          have cb1 := cells_below hb8 _ _ xb1
          have cb2 := cells_below hb8 _ _ xb2
          have cb3 := cells_below hb8 _ _ xb3
          have HF : Hid (w8.cell? ⟨w.heap.size + 1, 5, none⟩ = some lrT ∧ w8.cell? ⟨Kp, 1, none⟩ = some (.int .i64 (a : Int)) ∧ w8.cell? ⟨Kp, 2, none⟩ = some (.int .i64 (b : Int)) ∧ w8.cell? ⟨M, a * 4, none⟩ = some (.int .i64 x0) ∧ w8.cell? ⟨M, a * 4 + 1, none⟩ = some (.int .i64 x1) ∧ w8.cell? ⟨M, a * 4 + 2, none⟩ = some (.int .i64 x2) ∧ w8.cell? ⟨M, a * 4 + 3, none⟩ = some (.int .i64 x3) ∧ w8.cell? ⟨M, b * 4, none⟩ = some (.int .i64 y0) ∧ w8.cell? ⟨M, b * 4 + 1, none⟩ = some (.int .i64 y1) ∧ w8.cell? ⟨M, b * 4 + 2, none⟩ = some (.int .i64 y2) ∧ w8.cell? ⟨M, b * 4 + 3, none⟩ = some (.int .i64 y3)) := Lib.hid ⟨c5, kc1, kc2, ca0, ca1, ca2, ca3, cb0, cb1, cb2, cb3⟩
          clear hKp hM7 hc4 hc5 xa0 xa1 xa2 xa3 xb0 xb1 xb2 xb3 hb8
          go_region_held3 (fun w' => w'.cell? ⟨w.heap.size + 1, 5, none⟩ = some lrT ∧ w'.cell? ⟨Kp, 1, none⟩ = some (.int .i64 (a : Int)) ∧ w'.cell? ⟨Kp, 2, none⟩ = some (.int .i64 (b : Int)) ∧ w'.cell? ⟨M, a * 4, none⟩ = some (.int .i64 x0) ∧ w'.cell? ⟨M, a * 4 + 1, none⟩ = some (.int .i64 x1) ∧ w'.cell? ⟨M, a * 4 + 2, none⟩ = some (.int .i64 x2) ∧ w'.cell? ⟨M, a * 4 + 3, none⟩ = some (.int .i64 x3) ∧ w'.cell? ⟨M, b * 4, none⟩ = some (.int .i64 y0) ∧ w'.cell? ⟨M, b * 4 + 1, none⟩ = some (.int .i64 y1) ∧ w'.cell? ⟨M, b * 4 + 2, none⟩ = some (.int .i64 y2) ∧ w'.cell? ⟨M, b * 4 + 3, none⟩ = some (.int .i64 y3))
            (first | go_keep | exact HS9.out | exact HS10.out)
            (first
              | (go_at_call 71
                 refine (HTH.out _).mono ?_
                 rintro e w9 ⟨rfl, hB9⟩
                 have hB9 := below_undrew hB9
                 have HS9 := Lib.hid (s11s HF.out (cells_below hB9))
                 have HB9 := Lib.hid (HB8.out.trans (hB9.mono HB8.out.size))
                 clear hB9)
              | (refine step_append_fits (by rfl) _ _ 120 (by rfl) M 115 i0 4 Try.underlying120 hi hz1 M k n (iv (flV (stAt l gs) k)) (by rfl) ?_ ⟨w9.heap.size, 0, none⟩ 1 1 [.int .i64 z0, .int .i64 z1, .int .i64 z2, .int .i64 z3] (by rfl) (by rfl) ?_ (one4 _ _ _ _) (by omega) ?_
                 exact World.ownsRow.alloc (own_below HOW.out HB9.out (Nat.le_refl _)) _
                 exact news4 w9 _ _ _ _ _
                 intro w10 hown' hgrow
                 have HN10 := Lib.hid (lrSt_next HSX.out (Nat.le_of_lt hMl) HB9.out HVK.out hown' hgrow)
                 have hkp : ∀ p v, w9.cell? p = some v → p.block ≠ M → w10.cell? p = some v := fun p v h hne => (World.cell?_of_block (hgrow.block p.block (by have := lt_of_cell h; simp; omega) (fun e => hne (by injection e)))).trans ((((Below.refl _ w9).alloc (Nat.le_refl _) _).cell (lt_of_cell h)).trans h)
                 obtain ⟨da0, da1, da2, da3⟩ := HTA.out _ HN10.out.2.1
                 obtain ⟨db0, db1, db2, db3⟩ := HTB.out _ HN10.out.2.1
                 have HS10 := Lib.hid (And.intro (hkp _ _ HS9.out.1 (by simp only; omega)) (And.intro (hkp _ _ HS9.out.2.1 hKM) (And.intro (hkp _ _ HS9.out.2.2.1 hKM) (And.intro da0 (And.intro da1 (And.intro da2 (And.intro da3 (And.intro db0 (And.intro db1 (And.intro db2 db3))))))))))
                 clear hown' hgrow hkp da0 da1 da2 da3 db0 db1 db2 db3))
          go_wp2_with fail
          go_roundw
          all_goals first | exact ⟨k + 1, by omega, by go_num, HN10.out⟩ | ((repeat apply Exists.intro); exact ⟨⟨k + 1, by omega, by go_num, HN10.out⟩, rfl⟩) | (simp [intOf]; done) | (simp [intOf]; omega) | omega
        · obtain ⟨bt, hL, hb1, hb2, hno⟩ := letter_byte h0 hfit
          have HK := Lib.hid (fun W => kind_letter gs[k] h0 W)
          have HT := tt_ll
          obtain ⟨d, hd⟩ : ∃ d : Nat, d = bt.toNat - 97 := ⟨_, rfl⟩
          have hd1 : (bt.toNat : Int) = (d : Int) + 97 := by omega
          have hd4 : d < 4 := by omega
          have HIX := Lib.hid (fun W => idx_letter bt d hd1 hd4 W)
          have hvk : stAt l gs k = [1, one1 d l, one1 d l, one1 d l] := by
            rw [hd, ← hno]
            exact valAt_letter hkg h0
          have hlt : ∀ W, Below w.heap.size w W → Calls Try.prog 69 #[.int .i64 (d : Int), .pointer (some ⟨bl, 0, none⟩)] W fun e w' => e = .returned (ag4s 1 (one1 d l) (one1 d l) (one1 d l)) ∧ Below W.heap.size W w' := fun W hb => stLetter_any d l bl W (HWS.out W hb)
          generalize one1 d l = x1 at *
          have HLT := Lib.hid hlt
          have HVK := Lib.hid hvk
          have HLB := Lib.hid hL
          generalize gs[k] = Rk at *
          clear hall hown hfit h0 hvk hlt hd hd1 hno hL hb1 hb2
          go_wp2_with fail
          refine (HK.out _).mono ?_
          rintro e w7 ⟨rfl, hB7⟩
          have hb7 := ((Below.refl _ wo).alloc (Nat.le_refl _) (.cells #[.string Rk.L, .int .i64 Rk.l, .int .i64 Rk.r] 132)).trans (hB7.mono (by simp))
          have hb8 := hb7.alloc hb7.size (.cells #[.string Rk.L, .int .i64 Rk.l, .int .i64 Rk.r] 199)
          have kc0 : (w7.alloc (.cells #[.string Rk.L, .int .i64 Rk.l, .int .i64 Rk.r] 199)).cell? ⟨w7.heap.size, 0, none⟩ = some (.string ⟨#[bt]⟩) := by rw [cell_of_row _ _ _ _ _ _ (heap_alloc_new w7 _), ← HLB.out]; rfl
          have HB8 := Lib.hid hb8
          obtain ⟨Kp, hKp⟩ : ∃ Kp, Kp = w7.heap.size := ⟨_, rfl⟩
          have hM7 : wo.heap.size ≤ w7.heap.size := hb7.size
          clear a0 a1 a2 hB7 hb7
          go_upto_region 11 with fail
          have hKM : Kp ≠ M := by omega
          rw [← hKp] at kc0 ⊢
          generalize w7.alloc (.cells #[.string Rk.L, .int .i64 Rk.l, .int .i64 Rk.r] 199) = w8 at *
          have c4 := cells_below hb8 _ _ hc4
          have HF : Hid (w8.cell? ⟨w.heap.size + 1, 4, none⟩ = some (lrL bl) ∧ w8.cell? ⟨Kp, 0, none⟩ = some (.string ⟨#[bt]⟩)) := Lib.hid ⟨c4, kc0⟩
          have HLM := Lib.hid (fun m => HLT.out (w8.drewN m) (below_drewN (HBW0.out.trans (HB8.out.mono HBW0.out.size)) m))
          clear hKp hM7 hc4 hc5 hb8
          go_region_held3 (fun w' => w'.cell? ⟨w.heap.size + 1, 4, none⟩ = some (lrL bl) ∧ w'.cell? ⟨Kp, 0, none⟩ = some (.string ⟨#[bt]⟩))
            (first | go_keep | exact HS9.out | exact HS10.out)
            (first
              | (go_at_call 126
                 refine (HIX.out _).mono ?_
                 rintro e w0 ⟨rfl, rfl⟩)
              | (go_at_call 69
                 refine (HLM.out _).mono ?_
                 rintro e w9 ⟨rfl, hB9⟩
                 have hB9 := below_undrew hB9
                 have HS9 := Lib.hid (And.intro (cells_below hB9 _ _ HF.out.1) (cells_below hB9 _ _ HF.out.2))
                 have HB9 := Lib.hid (HB8.out.trans (hB9.mono HB8.out.size))
                 clear hB9)
              | (refine step_append_fits (by rfl) _ _ 120 (by rfl) M 115 i0 4 Try.underlying120 hi hz1 M k n (iv (flV (stAt l gs) k)) (by rfl) ?_ ⟨w9.heap.size, 0, none⟩ 1 1 [.int .i64 1, .int .i64 x1, .int .i64 x1, .int .i64 x1] (by rfl) (by rfl) ?_ (one4 _ _ _ _) (by omega) ?_
                 exact World.ownsRow.alloc (own_below HOW.out HB9.out (Nat.le_refl _)) _
                 exact news4 w9 _ _ _ _ _
                 intro w10 hown' hgrow
                 have HN10 := Lib.hid (lrSt_next HSX.out (Nat.le_of_lt hMl) HB9.out HVK.out hown' hgrow)
                 have hkp : ∀ p v, w9.cell? p = some v → p.block ≠ M → w10.cell? p = some v := fun p v h hne => (World.cell?_of_block (hgrow.block p.block (by have := lt_of_cell h; simp; omega) (fun e => hne (by injection e)))).trans ((((Below.refl _ w9).alloc (Nat.le_refl _) _).cell (lt_of_cell h)).trans h)
                 have HS10 := Lib.hid (And.intro (hkp _ _ HS9.out.1 (by simp only; omega)) (hkp _ _ HS9.out.2 hKM))
                 clear hown' hgrow hkp))
          go_wp2_with fail
          go_roundw
          all_goals first | exact ⟨k + 1, by omega, by go_num, HN10.out⟩ | ((repeat apply Exists.intro); exact ⟨⟨k + 1, by omega, by go_num, HN10.out⟩, rfl⟩) | (simp [intOf]; done) | (simp [intOf]; omega) | omega
      · obtain rfl : k = n := by omega
        have HBW := Lib.hid hBw
        have HRo := Lib.hid ((hB'.block R (by have := HRE.out; omega)).trans HR4.out)
        have HCo := Lib.hid ((hB'.block (w.heap.size + 1) (by omega)).trans HC4.out)
        have hgo := (hB'.cell (p := ⟨w.heap.size, 0, none⟩) (lt_of_cell HG4.out)).trans HG4.out
        have HRW : Hid (w.heap.size ≤ R ∧ R < M) := Lib.hid ⟨by rw [HRE.out]; omega, by rw [HRE.out]; omega⟩
        have HFIN : Hid (IsLr (wo.setRow R (lrAll bl (.slice Av gs.length cv) (.slice Ax (lens gs).length cx) (.slice (some ⟨M, 0, none⟩) k k))) w.heap.size bl l (.agg (lrAll bl (.slice Av gs.length cv) (.slice Ax (lens gs).length cx) (.slice (some ⟨M, 0, none⟩) k k))) (.slice Av gs.length cv) gs) := Lib.hid (by
          have hs3' := HS3.out
          have g1 : wo.grownBy (wo.setRow R (lrAll bl (.slice Av gs.length cv) (.slice Ax (lens gs).length cx) (.slice (some ⟨M, 0, none⟩) k k))) (some R) := grown_setRow wo R _
          refine ⟨_, _, rfl, ?_, ?_⟩
          · refine own_lower (World.ownsRow.kept (own_below HO4.out hB' (Nat.le_refl _)) g1 (.inr ?_)) (by omega)
            intro e
            have := (HO4.out.lt R e).1
            have := HRE.out
            omega
          · have ho : wo.ownsRow M 115 4 (.slice (some ⟨M, 0, none⟩) k k) gs.length (iv (flV (stAt l gs) gs.length)) := by rw [← HN.out]; exact hown
            refine own_lower (World.ownsRow.kept ho g1 (.inr ?_)) (by omega)
            intro e
            injection e with e
            have := HRW.out.2
            simp only at e
            omega)
        rw [← HN.out] at hgo HFIN
        have HCS := Lib.hid (size_lrCnt bl)
        have HSA := Lib.hid (size_lrFold bl (.slice Av k cv) (.slice Ax (lens gs).length cx) (.slice (some ⟨M, 0, none⟩) k k))
        have HON : Hid ((lrAll bl (.slice Av k cv) (.slice Ax (lens gs).length cx) (.slice (some ⟨M, 0, none⟩) k k)).all (·.oneCell') = true) := Lib.hid (all_oneCell_toArray (cs := [.int .i64 0, .int .i64 0, .int .i64 0, .int .i64 0, lrL bl, lrT, .slice Av k cv, .slice Ax (lens gs).length cx, .slice (some ⟨M, 0, none⟩) k k]) (by intro v hv; simp only [List.mem_cons, List.not_mem_nil, or_false] at hv; rcases hv with rfl | rfl | rfl | rfl | rfl | rfl | rfl | rfl | rfl <;> rfl))
        obtain ⟨dc, huc, hdc⟩ := und_lrCnt
        have HUC := Lib.hid huc
        have HDC := Lib.hid hdc
        clear huc hdc hown hB hB' hBw
        go_wp2_with (first
          | (with_reducible refine wpList_load_rowD HDC.out rfl 119 _ rfl (w.heap.size + 1) rfl 119 _ _ HCo.out HUC.out HCS.out ?_)
          | (with_reducible refine wpList_store_row rfl 122 _ _ rfl R _ rfl rfl 122 _ HRo.out HSA.out rfl HON.out ?_))
        refine bodyPost_ret (v := .tuple #[.agg (lrAll bl (.slice Av k cv) (.slice Ax (lens gs).length cx) (.slice (some ⟨M, 0, none⟩) k k)), .bool true]) (results_row_slot rfl _ _ R 122 _ (0, 0) _ rfl (setRow_heap _ R _ _ _ _ HRo.out) HU.out.1 HU.out.2 HSA.out _ rfl) rfl ⟨_, rfl, fun _ => (by rw [← HN.out]; exact HFIN.out), fun h => (by cases h), bSetRow HBW.out HRW.out.1 _⟩
end Go.Proofs.Ytcaeihdfljljbaa
