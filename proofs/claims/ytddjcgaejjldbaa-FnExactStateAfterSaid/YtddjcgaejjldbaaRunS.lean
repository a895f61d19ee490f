/-
  Walks: spec.l04End, spec.RunGrammar.
-/
import Derived.Test.YtddjcgaejjldbaaMapsS
import Derived.Test.YtddjcgaejjldbaaGramOk
import Derived.BigQuiet
import Derived.Deep.RegionLaw
namespace Go.Proofs.Ytddjcgaejjldbaa
open Go.RowKit
open Wd
set_option linter.unusedVariables false
namespace Wd
/-- where the whole word leads -/
def endS (nx : List (List Int)) (gs : List Rl) (s : Int) : Int := if gs.length = 0 then s else ((mapsK nx gs gs.length).getD (gs.length - 1) []).getD s.toNat 0
def runG (x : Au) (s : Int) (gs : List Rl) : Int × Int := if aOk x = true ∧ gOk gs = true then if 0 ≤ s ∧ s < x.st then (endS x.nx gs s, 0) else (0, 2) else (0, 1)
end Wd
set_option maxRecDepth 100000 in
set_option maxHeartbeats 3200000 in
theorem l04End_any (nv : Value) (nx : List (List Int)) (st : Int) (pg : Nat) (gs : List Rl) (s : Int) (w : World) (h1 : 1 ≤ st) (h24 : st ≤ 24) (hrow : nx.all (rowOk st) = true) (hlen : (nx.length : Int) = st) (hN : IsLL w nv nx) (hfit : fits gs = true) (hn : gs.length ≤ 400) (hg : GP w pg gs) (hs : 0 ≤ s ∧ s < st) :
    Calls Try.prog 91 #[nv, .pointer (some ⟨pg, 0, none⟩), .int .i64 s] w fun e w' => e = .returned (.int .i64 (endS nx gs s)) ∧ Below w.heap.size w w' := by
  have HM := Lib.hid (fun W (hb : Below w.heap.size w W) => l04Maps_any nv nx st pg gs W h1 h24 hrow hlen (hN.kept hb) hfit hn (hg.kept hb))
  have hok := mapsK_ok hrow hlen h1 h24 hfit gs.length (Nat.le_refl _)
  obtain ⟨gv, hgv, hR⟩ := hg
  obtain ⟨A, c, rfl, hNx⟩ := hN
  obtain ⟨Av, cv, rfl, hRx⟩ := hR
  clear hRx
  unfold endS
  by_cases h0 : gs.length = 0
  · rw [if_pos h0]
    rw [h0] at hgv
    clear hok h0 HM hn hNx
    go_enter Try.func91, Try.ntmps91
    go_wp2_with fail
    go_ret
    exact ⟨rfl, Below.refl _ _⟩
  · rw [if_neg h0]
    obtain ⟨m, hm⟩ : ∃ m, gs.length = m + 1 := ⟨gs.length - 1, by omega⟩
    have hokm := hok m (by omega)
    rw [hm, show m + 1 - 1 = m from by omega]
    have hget := mapsN_get (nx := nx) (gs := gs) (N := nx.length) (show m < gs.length by omega)
    have hml := mapsN_len nx gs nx.length gs.length
    rw [hm] at hokm hget hml hgv
    obtain ⟨t, rfl⟩ : ∃ t : Nat, s = t := ⟨s.toNat, by omega⟩
    rw [Int.toNat_natCast]
    have ht : t < nx.length := by omega
    have HM2 : Hid (∀ W, Below w.heap.size w W → Calls Try.prog 100 #[.slice A nx.length c, .pointer (some ⟨pg, 0, none⟩)] W fun e w' => ∃ gy cy ga ca, e = .returned (.slice (some ⟨gy, 0, none⟩) (m + 1) cy) ∧ w'.cell? ⟨gy, m, none⟩ = some (.slice (some ⟨ga, 0, none⟩) nx.length ca) ∧ w'.cell? ⟨ga, t, none⟩ = some (.int .i64 (((mapsK nx gs (m + 1)).getD m []).getD t 0)) ∧ Below W.heap.size W w') := Lib.hid (fun W hb => by
      refine (HM.out W hb).mono ?_
      rintro e w' ⟨y, U, rfl, ho, hB⟩
      rw [hm] at ho
      have hUl : U.length = m + 1 := by rw [ho.len, hml]
      obtain ⟨gy, cy, rfl⟩ : ∃ gy cy, y = .slice (some ⟨gy, 0, none⟩) (m + 1) cy := by
        rcases ho.shape with ⟨_, h0⟩ | ⟨gy, cy, hv, _⟩
        · rw [h0] at hUl; simp at hUl
        · exact ⟨gy, cy, by rw [hv, hUl]⟩
      have h1 := ho.outer
      rw [hUl] at h1
      have c1 := h1.cellAt m (by omega)
      rw [List.getElem?_eq_getElem (by omega)] at c1
      have hrw := ho.rows.row m _ _ (List.getElem?_eq_getElem (by omega)) hget
      have hl : (((mapsK nx gs (m + 1)).getD m []).take nx.length).length = nx.length := by rw [List.length_take, hokm.1]; omega
      generalize U[m]'(by omega) = u at *
      unfold OwnsI at hrw
      rw [hl] at hrw
      obtain ⟨ga, ca, rfl⟩ : ∃ ga ca, u = .slice (some ⟨ga, 0, none⟩) nx.length ca := by
        rcases hrw.2 with ⟨_, h0⟩ | ⟨ga, ca, cur, hv, _⟩
        · omega
        · exact ⟨ga, ca, hv⟩
      refine ⟨gy, cy, ga, ca, rfl, c1, ?_, hB⟩
      rw [hrw.cellAt t (by omega), iv_get _ t (by rw [hl]; exact ht), List.getElem_take, List.getD_eq_getElem?_getD (i := t), List.getElem?_eq_getElem (by rw [hokm.1]; omega)]
      rfl)
    obtain ⟨n, hne⟩ : ∃ n, n = m + 1 := ⟨_, rfl⟩
    rw [← hne] at HM2 hgv ⊢
    have hsub : IntKind.i64.wrap ((n : Int) - 1) = (m : Int) := by rw [IntKind.wrap_i64]; omega
    have m0 : (0 : Int) ≤ (m : Int) := by omega
    have m1 : (m : Int) < (n : Int) := by omega
    have t0 : (0 : Int) ≤ (t : Int) := by omega
    have t1 : (t : Int) < (nx.length : Int) := by omega
    have hnz : (((n : Int)) == 0) = false := by simp; omega
    have hnz' : n ≠ 0 := by omega
    have HGV := Lib.hid hgv
    clear hok hokm hget hml hm h0 hn HM hs hlen hNx hrow ht hne
    generalize ((mapsK nx gs n).getD m []).getD t 0 = z at *
    generalize nx.length = N at *
    go_enter Try.func91, Try.ntmps91
    go_wp2_with fail
    go_region_law ((first
      | (go_simp
         go_at_call 100
         refine (HM2.out _ ?_).mono ?_
         (first | exact Below.refl _ _ | exact below_drewN (Below.refl _ _) 1 | exact below_drewN (Below.refl _ _) _)
         rintro e w9 ⟨gy, cy, ga, ca, rfl, c1, c2, hB9⟩
         have hB9 := below_undrew hB9
         have HB9 := Lib.hid hB9
         have hs9 := (hB9.cell (lt_of_cell HGV.out)).trans HGV.out
         clear hB9)))
    all_goals
      go_wp2_with fail
      go_ret
      exact ⟨rfl, HB9.out⟩
set_option maxRecDepth 100000 in
set_option maxHeartbeats 3200000 in
theorem specRunGrammar (av : Value) (x : Au) (s : Int) (gv : Value) (gs : List Rl) (w : World) (hf : FewA x) (hx : IsAu w av x) (hfr : FewR gs) (hr : Rules w gv gs) :
    Calls Try.prog 34 #[av, .int .i64 s, .agg #[gv]] w fun e w' => e = .returned (.tuple #[.int .i64 (runG x s gs).1, .int .i64 (runG x s gs).2]) ∧ Below w.heap.size w w' := by
  obtain ⟨st, go, fin, nx⟩ := x
  obtain ⟨f, n, rfl, hF, hN⟩ := hx
  simp only at hF hN
  have hb : Below w.heap.size w ((w.alloc (.cells #[.int .i64 st, .int .i64 go, f, n] 39)).alloc (.cells #[gv] 58)) := ((Below.refl _ w).alloc (Nat.le_refl _) _).alloc (by simp) _
  have hP : B4 ((w.alloc (.cells #[.int .i64 st, .int .i64 go, f, n] 39)).alloc (.cells #[gv] 58)) w.heap.size (.int .i64 st) (.int .i64 go) f n 39 := (B4.new w _ _ _ _ _).alloc _
  have hG : GP ((w.alloc (.cells #[.int .i64 st, .int .i64 go, f, n] 39)).alloc (.cells #[gv] 58)) (w.heap.size + 1) gs := by
    have := rules_gpT (hr.kept ((Below.refl _ w).alloc (Nat.le_refl _) (.cells #[.int .i64 st, .int .i64 go, f, n] 39))) 58
    rwa [show (w.alloc (.cells #[.int .i64 st, .int .i64 go, f, n] 39)).heap.size = w.heap.size + 1 from by simp] at this
  have HC := Lib.hid (l04Ok_any w.heap.size f n ⟨st, go, fin, nx⟩ _ hP (hF.kept hb) (hN.kept hb) hf)
  have HG := Lib.hid (fun W h => l02Ok_any (w.heap.size + 1) gs W hfr h)
  have HGP := Lib.hid hG
  have HB := Lib.hid hb
  have HP := Lib.hid hP
  have HI := Lib.hid (fun W => inB_any s 0 (st - 1) W)
  have HN := Lib.hid (fun W (hW : Below w.heap.size w W) => hN.kept hW)
  obtain ⟨Af, cf, rfl⟩ := hF.shape
  obtain ⟨An, cn, rfl, hNx⟩ := hN
  obtain ⟨Ag, cg, rfl, hRx⟩ := hr
  clear hb hP hG hF hNx hRx
  unfold runG
  cases ha : aOk ⟨st, go, fin, nx⟩
  · rw [ha] at HC
    rw [if_neg (by simp)]
    clear ha
    go_enter Try.func34, Try.ntmps34
    go_wp2_with fail
    refine HC.out.mono ?_
    rintro e w3 ⟨rfl, hD⟩
    have HB3 := Lib.hid (HB.out.trans (hD.below _))
    clear hD
    go_wp2_with fail
    go_ret2
    exact ⟨rfl, HB3.out⟩
  · rw [ha] at HC
    obtain ⟨⟨h1, h24⟩, hrow, hlen⟩ := aOk_parts ha
    simp only at h1 h24 hrow hlen
    cases hok : gOk gs
    · rw [if_neg (by simp)]
      have HG2 : Hid (∀ W, GP W (w.heap.size + 1) gs → Calls Try.prog 89 #[.pointer (some ⟨w.heap.size + 1, 0, none⟩)] W fun e w' => e = .returned (.bool false) ∧ Below W.heap.size W w') := Lib.hid (fun W h => by have := HG.out W h; rwa [hok] at this)
      clear ha hok hrow hlen
      go_enter Try.func34, Try.ntmps34
      go_wp2_with fail
      refine HC.out.mono ?_
      rintro e w3 ⟨rfl, hD⟩
      have HB3 := Lib.hid (HB.out.trans (hD.below _))
      have HG3 := Lib.hid (HGP.out.kept (hD.below _))
      clear hD
      go_wp2_with fail
      refine (HG2.out _ HG3.out).mono ?_
      rintro e w4 ⟨rfl, hB4⟩
      have HB4 := Lib.hid (HB3.out.trans (hB4.mono HB3.out.size))
      clear hB4
      go_wp2_with fail
      go_ret2
      exact ⟨rfl, HB4.out⟩
    · rw [if_pos ⟨rfl, rfl⟩]
      have HG2 : Hid (∀ W, GP W (w.heap.size + 1) gs → Calls Try.prog 89 #[.pointer (some ⟨w.heap.size + 1, 0, none⟩)] W fun e w' => e = .returned (.bool true) ∧ Below W.heap.size W w') := Lib.hid (fun W h => by have := HG.out W h; rwa [hok] at this)
      have hfit := (gOk_iff.1 hok).2.1
      have hn400 := gOk_len hok
      by_cases hs : 0 ≤ s ∧ s < st
      · rw [if_pos hs]
        have hsd : decide (0 ≤ s ∧ s ≤ st - 1) = true := decide_eq_true (by omega)
        rw [hsd] at HI
        have HE := Lib.hid (fun W (hb : Below w.heap.size w W) hg => l04End_any _ nx st (w.heap.size + 1) gs s W h1 h24 hrow hlen (HN.out W hb) hfit hn400 hg hs)
        have hsub : IntKind.i64.wrap (st - 1) = st - 1 := by rw [IntKind.wrap_i64]; omega
        clear ha hok hrow hlen hs hsd hfit
        go_enter Try.func34, Try.ntmps34
        go_wp2_with fail
        refine HC.out.mono ?_
        rintro e w3 ⟨rfl, hD⟩
        have HB3 := Lib.hid (HB.out.trans (hD.below _))
        have HG3 := Lib.hid (HGP.out.kept (hD.below _))
        have HP3 := Lib.hid (HP.out.kept (hD.below _))
        clear hD
        go_wp2_with fail
        refine (HG2.out _ HG3.out).mono ?_
        rintro e w4 ⟨rfl, hB4⟩
        have HB4 := Lib.hid (HB3.out.trans (hB4.mono HB3.out.size))
        have HP4 := Lib.hid (HP3.out.kept hB4)
        have HG4 := Lib.hid (HG3.out.kept hB4)
        obtain ⟨⟨p0, p1, p2, p3⟩, _⟩ := blk4_cells HP4.out
        clear hB4
        go_wp2_with fail
        refine (HI.out _).mono ?_
        rintro e w5 ⟨rfl, rfl⟩
        go_wp2_with fail
        refine (HE.out _ HB4.out HG4.out).mono ?_
        rintro e w6 ⟨rfl, hB6⟩
        have HB6 := Lib.hid (HB4.out.trans (hB6.mono HB4.out.size))
        clear hB6
        go_wp2_with fail
        go_ret2
        exact ⟨rfl, HB6.out⟩
      · rw [if_neg hs]
        have hsd : decide (0 ≤ s ∧ s ≤ st - 1) = false := decide_eq_false (by omega)
        rw [hsd] at HI
        have hsub : IntKind.i64.wrap (st - 1) = st - 1 := by rw [IntKind.wrap_i64]; omega
        clear ha hok hrow hlen hs hsd hfit
        go_enter Try.func34, Try.ntmps34
        go_wp2_with fail
        refine HC.out.mono ?_
        rintro e w3 ⟨rfl, hD⟩
        have HB3 := Lib.hid (HB.out.trans (hD.below _))
        have HG3 := Lib.hid (HGP.out.kept (hD.below _))
        have HP3 := Lib.hid (HP.out.kept (hD.below _))
        clear hD
        go_wp2_with fail
        refine (HG2.out _ HG3.out).mono ?_
        rintro e w4 ⟨rfl, hB4⟩
        have HB4 := Lib.hid (HB3.out.trans (hB4.mono HB3.out.size))
        have HP4 := Lib.hid (HP3.out.kept hB4)
        obtain ⟨⟨p0, p1, p2, p3⟩, _⟩ := blk4_cells HP4.out
        clear hB4
        go_wp2_with fail
        refine (HI.out _).mono ?_
        rintro e w5 ⟨rfl, rfl⟩
        go_wp2_with fail
        go_ret2
        exact ⟨rfl, HB4.out⟩
end Go.Proofs.Ytddjcgaejjldbaa
