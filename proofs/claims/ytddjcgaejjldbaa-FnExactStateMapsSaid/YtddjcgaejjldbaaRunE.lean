/-
  Walks: spec.l04End, spec.RunGrammar.
  Walks: impl.walkOfAuto, lastOf, wordLength, the walk's end, impl.RunGrammar.
  Walks: impl.lastOf, wordLength, the walk's end.
-/
import Derived.Test.YtddjcgaejjldbaaMapsS
import Derived.Test.YtddjcgaejjldbaaGramOk
import Derived.BigQuiet
import Derived.Deep.RegionLaw
import Derived.Test.YtddjcgaejjldbaaWalkO
import Derived.Test.YtddjcgaejjldbaaAuI3
import Derived.Laws.EntriesVeiled
import Derived.Deep.RegionHeld3
namespace Go.Proofs.Ytddjcgaejjldbaa
open Go.RowKit
open Wd
set_option linter.unusedVariables false
namespace Wd
/-- where the whole word leads -/
def endS (nx : List (List Int)) (gs : List Rl) (s : Int) : Int := if gs.length = 0 then s else ((mapsK nx gs gs.length).getD (gs.length - 1) []).getD s.toNat 0
def runG (x : Au) (s : Int) (gs : List Rl) : Int × Int := if aOk x = true ∧ gOk gs = true then if 0 ≤ s ∧ s < x.st then (endS x.nx gs s, 0) else (0, 2) else (0, 1)
end Wd
set_option maxRecDepth 100000 in
set_option maxHeartbeats 3200000 in
theorem l04End_any (nv : Value) (nx : List (List Int)) (st : Int) (pg : Nat) (gs : List Rl) (s : Int) (w : World) (h1 : 1 ≤ st) (h24 : st ≤ 24) (hrow : nx.all (rowOk st) = true) (hlen : (nx.length : Int) = st) (hN : IsLL w nv nx) (hfit : fits gs = true) (hn : gs.length ≤ 400) (hg : GP w pg gs) (hs : 0 ≤ s ∧ s < st) :
    Calls Try.prog 91 #[nv, .pointer (some ⟨pg, 0, none⟩), .int .i64 s] w fun e w' => e = .returned (.int .i64 (endS nx gs s)) ∧ Below w.heap.size w w' := by
  have HM := Lib.hid (fun W (hb : Below w.heap.size w W) => l04Maps_any nv nx st pg gs W h1 h24 hrow hlen (hN.kept hb) hfit hn (hg.kept hb))
  have hok := mapsK_ok hrow hlen h1 h24 hfit gs.length (Nat.le_refl _)
  obtain ⟨gv, hgv, hR⟩ := hg
  obtain ⟨A, c, rfl, hNx⟩ := hN
  obtain ⟨Av, cv, rfl, hRx⟩ := hR
  clear hRx
  unfold endS
  by_cases h0 : gs.length = 0
  · rw [if_pos h0]
    rw [h0] at hgv
    clear hok h0 HM hn hNx
    go_enter Try.func91, Try.ntmps91
    go_wp2_with fail
    go_ret
    exact ⟨rfl, Below.refl _ _⟩
  · rw [if_neg h0]
    obtain ⟨m, hm⟩ : ∃ m, gs.length = m + 1 := ⟨gs.length - 1, by omega⟩
    have hokm := hok m (by omega)
    rw [hm, show m + 1 - 1 = m from by omega]
    have hget := mapsN_get (nx := nx) (gs := gs) (N := nx.length) (show m < gs.length by omega)
    have hml := mapsN_len nx gs nx.length gs.length
    rw [hm] at hokm hget hml hgv
    obtain ⟨t, rfl⟩ : ∃ t : Nat, s = t := ⟨s.toNat, by omega⟩
    rw [Int.toNat_natCast]
    have ht : t < nx.length := by omega
    have HM2 : Hid (∀ W, Below w.heap.size w W → Calls Try.prog 100 #[.slice A nx.length c, .pointer (some ⟨pg, 0, none⟩)] W fun e w' => ∃ gy cy ga ca, e = .returned (.slice (some ⟨gy, 0, none⟩) (m + 1) cy) ∧ w'.cell? ⟨gy, m, none⟩ = some (.slice (some ⟨ga, 0, none⟩) nx.length ca) ∧ w'.cell? ⟨ga, t, none⟩ = some (.int .i64 (((mapsK nx gs (m + 1)).getD m []).getD t 0)) ∧ Below W.heap.size W w') := Lib.hid (fun W hb => by
      refine (HM.out W hb).mono ?_
      rintro e w' ⟨y, U, rfl, ho, hB⟩
      rw [hm] at ho
      have hUl : U.length = m + 1 := by rw [ho.len, hml]
      obtain ⟨gy, cy, rfl⟩ : ∃ gy cy, y = .slice (some ⟨gy, 0, none⟩) (m + 1) cy := by
        rcases ho.shape with ⟨_, h0⟩ | ⟨gy, cy, hv, _⟩
        · rw [h0] at hUl; simp at hUl
        · exact ⟨gy, cy, by rw [hv, hUl]⟩
      have h1 := ho.outer
      rw [hUl] at h1
      have c1 := h1.cellAt m (by omega)
      rw [List.getElem?_eq_getElem (by omega)] at c1
      have hrw := ho.rows.row m _ _ (List.getElem?_eq_getElem (by omega)) hget
      have hl : (((mapsK nx gs (m + 1)).getD m []).take nx.length).length = nx.length := by rw [List.length_take, hokm.1]; omega
      generalize U[m]'(by omega) = u at *
      unfold OwnsI at hrw
      rw [hl] at hrw
      obtain ⟨ga, ca, rfl⟩ : ∃ ga ca, u = .slice (some ⟨ga, 0, none⟩) nx.length ca := by
        rcases hrw.2 with ⟨_, h0⟩ | ⟨ga, ca, cur, hv, _⟩
        · omega
        · exact ⟨ga, ca, hv⟩
      refine ⟨gy, cy, ga, ca, rfl, c1, ?_, hB⟩
      rw [hrw.cellAt t (by omega), iv_get _ t (by rw [hl]; exact ht), List.getElem_take, List.getD_eq_getElem?_getD (i := t), List.getElem?_eq_getElem (by rw [hokm.1]; omega)]
      rfl)
    obtain ⟨n, hne⟩ : ∃ n, n = m + 1 := ⟨_, rfl⟩
    rw [← hne] at HM2 hgv ⊢
    have hsub : IntKind.i64.wrap ((n : Int) - 1) = (m : Int) := by rw [IntKind.wrap_i64]; omega
    have m0 : (0 : Int) ≤ (m : Int) := by omega
    have m1 : (m : Int) < (n : Int) := by omega
    have t0 : (0 : Int) ≤ (t : Int) := by omega
    have t1 : (t : Int) < (nx.length : Int) := by omega
    have hnz : (((n : Int)) == 0) = false := by simp; omega
    have hnz' : n ≠ 0 := by omega
    have HGV := Lib.hid hgv
    clear hok hokm hget hml hm h0 hn HM hs hlen hNx hrow ht hne
    generalize ((mapsK nx gs n).getD m []).getD t 0 = z at *
    generalize nx.length = N at *
    go_enter Try.func91, Try.ntmps91
    go_wp2_with fail
    go_region_law ((first
      | (go_simp
         go_at_call 100
         refine (HM2.out _ ?_).mono ?_
         (first | exact Below.refl _ _ | exact below_drewN (Below.refl _ _) 1 | exact below_drewN (Below.refl _ _) _)
         rintro e w9 ⟨gy, cy, ga, ca, rfl, c1, c2, hB9⟩
         have hB9 := below_undrew hB9
         have HB9 := Lib.hid hB9
         have hs9 := (hB9.cell (lt_of_cell HGV.out)).trans HGV.out
         clear hB9)))
    all_goals
      go_wp2_with fail
      go_ret
      exact ⟨rfl, HB9.out⟩
set_option maxRecDepth 100000 in
set_option maxHeartbeats 3200000 in
theorem specRunGrammar (av : Value) (x : Au) (s : Int) (gv : Value) (gs : List Rl) (w : World) (hf : FewA x) (hx : IsAu w av x) (hfr : FewR gs) (hr : Rules w gv gs) :
    Calls Try.prog 34 #[av, .int .i64 s, .agg #[gv]] w fun e w' => e = .returned (.tuple #[.int .i64 (runG x s gs).1, .int .i64 (runG x s gs).2]) ∧ Below w.heap.size w w' := by
  obtain ⟨st, go, fin, nx⟩ := x
  obtain ⟨f, n, rfl, hF, hN⟩ := hx
  simp only at hF hN
  have hb : Below w.heap.size w ((w.alloc (.cells #[.int .i64 st, .int .i64 go, f, n] 39)).alloc (.cells #[gv] 58)) := ((Below.refl _ w).alloc (Nat.le_refl _) _).alloc (by simp) _
  have hP : B4 ((w.alloc (.cells #[.int .i64 st, .int .i64 go, f, n] 39)).alloc (.cells #[gv] 58)) w.heap.size (.int .i64 st) (.int .i64 go) f n 39 := (B4.new w _ _ _ _ _).alloc _
  have hG : GP ((w.alloc (.cells #[.int .i64 st, .int .i64 go, f, n] 39)).alloc (.cells #[gv] 58)) (w.heap.size + 1) gs := by
    have := rules_gpT (hr.kept ((Below.refl _ w).alloc (Nat.le_refl _) (.cells #[.int .i64 st, .int .i64 go, f, n] 39))) 58
    rwa [show (w.alloc (.cells #[.int .i64 st, .int .i64 go, f, n] 39)).heap.size = w.heap.size + 1 from by simp] at this
  have HC := Lib.hid (l04Ok_any w.heap.size f n ⟨st, go, fin, nx⟩ _ hP (hF.kept hb) (hN.kept hb) hf)
  have HG := Lib.hid (fun W h => l02Ok_any (w.heap.size + 1) gs W hfr h)
  have HGP := Lib.hid hG
  have HB := Lib.hid hb
  have HP := Lib.hid hP
  have HI := Lib.hid (fun W => inB_any s 0 (st - 1) W)
  have HN := Lib.hid (fun W (hW : Below w.heap.size w W) => hN.kept hW)
  obtain ⟨Af, cf, rfl⟩ := hF.shape
  obtain ⟨An, cn, rfl, hNx⟩ := hN
  obtain ⟨Ag, cg, rfl, hRx⟩ := hr
  clear hb hP hG hF hNx hRx
  unfold runG
  cases ha : aOk ⟨st, go, fin, nx⟩
  · rw [ha] at HC
    rw [if_neg (by simp)]
    clear ha
    go_enter Try.func34, Try.ntmps34
    go_wp2_with fail
    refine HC.out.mono ?_
    rintro e w3 ⟨rfl, hD⟩
    have HB3 := Lib.hid (HB.out.trans (hD.below _))
    clear hD
    go_wp2_with fail
    go_ret2
    exact ⟨rfl, HB3.out⟩
  · rw [ha] at HC
    obtain ⟨⟨h1, h24⟩, hrow, hlen⟩ := aOk_parts ha
    simp only at h1 h24 hrow hlen
    cases hok : gOk gs
    · rw [if_neg (by simp)]
      have HG2 : Hid (∀ W, GP W (w.heap.size + 1) gs → Calls Try.prog 89 #[.pointer (some ⟨w.heap.size + 1, 0, none⟩)] W fun e w' => e = .returned (.bool false) ∧ Below W.heap.size W w') := Lib.hid (fun W h => by have := HG.out W h; rwa [hok] at this)
      clear ha hok hrow hlen
      go_enter Try.func34, Try.ntmps34
      go_wp2_with fail
      refine HC.out.mono ?_
      rintro e w3 ⟨rfl, hD⟩
      have HB3 := Lib.hid (HB.out.trans (hD.below _))
      have HG3 := Lib.hid (HGP.out.kept (hD.below _))
      clear hD
      go_wp2_with fail
      refine (HG2.out _ HG3.out).mono ?_
      rintro e w4 ⟨rfl, hB4⟩
      have HB4 := Lib.hid (HB3.out.trans (hB4.mono HB3.out.size))
      clear hB4
      go_wp2_with fail
      go_ret2
      exact ⟨rfl, HB4.out⟩
    · rw [if_pos ⟨rfl, rfl⟩]
      have HG2 : Hid (∀ W, GP W (w.heap.size + 1) gs → Calls Try.prog 89 #[.pointer (some ⟨w.heap.size + 1, 0, none⟩)] W fun e w' => e = .returned (.bool true) ∧ Below W.heap.size W w') := Lib.hid (fun W h => by have := HG.out W h; rwa [hok] at this)
      have hfit := (gOk_iff.1 hok).2.1
      have hn400 := gOk_len hok
      by_cases hs : 0 ≤ s ∧ s < st
      · rw [if_pos hs]
        have hsd : decide (0 ≤ s ∧ s ≤ st - 1) = true := decide_eq_true (by omega)
        rw [hsd] at HI
        have HE := Lib.hid (fun W (hb : Below w.heap.size w W) hg => l04End_any _ nx st (w.heap.size + 1) gs s W h1 h24 hrow hlen (HN.out W hb) hfit hn400 hg hs)
        have hsub : IntKind.i64.wrap (st - 1) = st - 1 := by rw [IntKind.wrap_i64]; omega
        clear ha hok hrow hlen hs hsd hfit
        go_enter Try.func34, Try.ntmps34
        go_wp2_with fail
        refine HC.out.mono ?_
        rintro e w3 ⟨rfl, hD⟩
        have HB3 := Lib.hid (HB.out.trans (hD.below _))
        have HG3 := Lib.hid (HGP.out.kept (hD.below _))
        have HP3 := Lib.hid (HP.out.kept (hD.below _))
        clear hD
        go_wp2_with fail
        refine (HG2.out _ HG3.out).mono ?_
        rintro e w4 ⟨rfl, hB4⟩
        have HB4 := Lib.hid (HB3.out.trans (hB4.mono HB3.out.size))
        have HP4 := Lib.hid (HP3.out.kept hB4)
        have HG4 := Lib.hid (HG3.out.kept hB4)
        obtain ⟨⟨p0, p1, p2, p3⟩, _⟩ := blk4_cells HP4.out
        clear hB4
        go_wp2_with fail
        refine (HI.out _).mono ?_
        rintro e w5 ⟨rfl, rfl⟩
        go_wp2_with fail
        refine (HE.out _ HB4.out HG4.out).mono ?_
        rintro e w6 ⟨rfl, hB6⟩
        have HB6 := Lib.hid (HB4.out.trans (hB6.mono HB4.out.size))
        clear hB6
        go_wp2_with fail
        go_ret2
        exact ⟨rfl, HB6.out⟩
      · rw [if_neg hs]
        have hsd : decide (0 ≤ s ∧ s ≤ st - 1) = false := decide_eq_false (by omega)
        rw [hsd] at HI
        have hsub : IntKind.i64.wrap (st - 1) = st - 1 := by rw [IntKind.wrap_i64]; omega
        clear ha hok hrow hlen hs hsd hfit
        go_enter Try.func34, Try.ntmps34
        go_wp2_with fail
        refine HC.out.mono ?_
        rintro e w3 ⟨rfl, hD⟩
        have HB3 := Lib.hid (HB.out.trans (hD.below _))
        have HG3 := Lib.hid (HGP.out.kept (hD.below _))
        have HP3 := Lib.hid (HP.out.kept (hD.below _))
        clear hD
        go_wp2_with fail
        refine (HG2.out _ HG3.out).mono ?_
        rintro e w4 ⟨rfl, hB4⟩
        have HB4 := Lib.hid (HB3.out.trans (hB4.mono HB3.out.size))
        have HP4 := Lib.hid (HP3.out.kept hB4)
        obtain ⟨⟨p0, p1, p2, p3⟩, _⟩ := blk4_cells HP4.out
        clear hB4
        go_wp2_with fail
        refine (HI.out _).mono ?_
        rintro e w5 ⟨rfl, rfl⟩
        go_wp2_with fail
        go_ret2
        exact ⟨rfl, HB4.out⟩
set_option maxRecDepth 100000 in
set_option maxHeartbeats 3200000 in
theorem walkOfAuto_any (av : Value) (x : Au) (gv : Value) (gs : List Rl) (w : World) (hf : FewA x) (hx : IsAu w av x) (hfr : FewR gs) (hr : Rules w gv gs) :
    Calls Try.prog 93 #[av, .agg #[gv]] w fun e w' => ∃ wv, e = .returned (.tuple #[wv, .bool (aOk x && gOk gs)]) ∧ ((aOk x && gOk gs) = true → IsW w' w.heap.size wv gv gs x.nx x.go) ∧ ((aOk x && gOk gs) = false → wv = zeroW) ∧ Below w.heap.size w w' := by
  have HIS := Lib.hid (fun W (hb : Below w.heap.size w W) => hx.kept hb)
  have HRU := Lib.hid (fun W (hb : Below w.heap.size w W) => hr.kept hb)
  obtain ⟨st, go, fin, nx⟩ := x
  obtain ⟨f, n, rfl, hF, hN⟩ := hx
  simp only at hF hN
  obtain ⟨hP, hG, hR, hB3, hs3⟩ := al3 w (.cells #[.int .i64 st, .int .i64 go, f, n] 39) (.cells #[gv] 58) (.cells #[.slice none 0 0, .slice none 0 0, .slice none 0 0, .int .i64 0] 122)
  have HP : Hid (B4 _ w.heap.size (.int .i64 st) (.int .i64 go) f n 39) := Lib.hid hP
  have HR : Hid (B4 _ (w.heap.size + 2) (.slice none 0 0) (.slice none 0 0) (.slice none 0 0) (.int .i64 0) 122) := Lib.hid hR
  have hg0 := cell_of_row _ _ 0 _ _ _ hG
  have HG : Hid ((((w.alloc (.cells #[.int .i64 st, .int .i64 go, f, n] 39)).alloc (.cells #[gv] 58)).alloc (.cells #[.slice none 0 0, .slice none 0 0, .slice none 0 0, .int .i64 0] 122)).cell? ⟨w.heap.size + 1, 0, none⟩ = some gv) := Lib.hid hg0
  have HB := Lib.hid hB3
  have HV := Lib.hid (fun W (hb : Below w.heap.size w W) => implValidAuto _ ⟨st, go, fin, nx⟩ W hf (HIS.out W hb))
  have HN := Lib.hid (fun W (hb : Below w.heap.size w W) => hN.kept hb)
  obtain ⟨Af, cf, rfl⟩ := hF.shape
  obtain ⟨An, cn, rfl, hNx⟩ := hN
  obtain ⟨Ag, cg, rfl, hRx⟩ := hr
  clear hP hG hR hB3 hg0 hNx hRx hF
  show Calls Try.prog _ #[.agg #[.int .i64 st, .int .i64 go, .slice Af fin.length cf, .slice An nx.length cn], .agg #[.slice Ag gs.length cg]] w _
  cases ha : aOk ⟨st, go, fin, nx⟩
  · have HV2 : Hid (∀ W, Below w.heap.size w W → Calls Try.prog 75 #[.agg #[.int .i64 st, .int .i64 go, .slice Af fin.length cf, .slice An nx.length cn]] W fun e w' => e = .returned (.bool false) ∧ Below W.heap.size W w') := Lib.hid (fun W hb => by have := HV.out W hb; rwa [ha] at this)
    clear ha HV
    go_enter Try.func93, Try.ntmps93
    go_upto_region 1 with fail
    generalize ((w.alloc (.cells #[.int .i64 st, .int .i64 go, .slice Af fin.length cf, .slice An nx.length cn] 39)).alloc (.cells #[.slice Ag gs.length cg] 58)).alloc (.cells #[.slice none 0 0, .slice none 0 0, .slice none 0 0, .int .i64 0] 122) = w3 at *
    obtain ⟨⟨p0, p1, p2, p3⟩, _⟩ := blk4_cells HP.out
    go_wp2_with fail
    refine (HV2.out _ HB.out).mono ?_
    rintro e w4 ⟨rfl, hB4⟩
    have HB4 := Lib.hid (HB.out.trans (hB4.mono HB.out.size))
    have HR4 := Lib.hid (HR.out.kept hB4)
    obtain ⟨⟨r0, r1, r2, r3⟩, g0, g1, g2, g3⟩ := blk4_cells HR4.out
    have HE := Lib.hid (blk4_cells (blk4_all (a' := .slice none 0 0) (b' := .slice none 0 0) (c' := .slice none 0 0) (d' := .int .i64 0) HR4.out)).1
    clear hB4 p0 p1 p2 p3 hs3
    go_wp2_with fail
    obtain ⟨y0, y1, y2, y3⟩ := HE.out
    refine bodyPost_ret (v := .tuple #[zeroW, .bool false]) (by simp [results, Try.results93, go_sem, y0, y1, y2, y3, zeroW]) rfl ⟨_, rfl, fun h => (by cases h), fun _ => rfl, ?_⟩
    exact (((HB4.out.setCell (by simp; omega) _).setCell (by simp; omega) _).setCell (by simp; omega) _).setCell (by simp; omega) _
  · obtain ⟨⟨h1, h24⟩, hrow, hlen⟩ := aOk_parts ha
    simp only at h1 h24 hrow hlen
    have HV2 : Hid (∀ W, Below w.heap.size w W → Calls Try.prog 75 #[.agg #[.int .i64 st, .int .i64 go, .slice Af fin.length cf, .slice An nx.length cn]] W fun e w' => e = .returned (.bool true) ∧ Below W.heap.size W w') := Lib.hid (fun W hb => by have := HV.out W hb; rwa [ha] at this)
    have HW := Lib.hid (fun W (hb : Below w.heap.size w W) => walkOf_any go st _ nx _ gs W h1 h24 hrow hlen (HN.out W hb) hfr (HRU.out W hb))
    clear ha HV hrow hlen
    cases hok : gOk gs
    all_goals
      rw [hok] at HW
      clear hok
      go_enter Try.func93, Try.ntmps93
      go_upto_region 1 with fail
      generalize ((w.alloc (.cells #[.int .i64 st, .int .i64 go, .slice Af fin.length cf, .slice An nx.length cn] 39)).alloc (.cells #[.slice Ag gs.length cg] 58)).alloc (.cells #[.slice none 0 0, .slice none 0 0, .slice none 0 0, .int .i64 0] 122) = w3 at *
      obtain ⟨⟨p0, p1, p2, p3⟩, _⟩ := blk4_cells HP.out
      go_wp2_with fail
      refine (HV2.out _ HB.out).mono ?_
      rintro e w4 ⟨rfl, hB4⟩
      have HB4 := Lib.hid (HB.out.trans (hB4.mono HB.out.size))
      have HR4 := Lib.hid (HR.out.kept hB4)
      have HP4 := Lib.hid (HP.out.kept hB4)
      have hg4 := (hB4.cell (lt_of_cell HG.out)).trans HG.out
      clear hB4 p0 p1 p2 p3 hs3
      obtain ⟨⟨p0, p1, p2, p3⟩, _⟩ := blk4_cells HP4.out
      go_wp2_with fail
      refine (HW.out _ HB4.out).mono ?_
      rintro e w5 ⟨wv, rfl, hyes, hno, hB5⟩
      have HB5 := Lib.hid (HB4.out.trans (hB5.mono HB4.out.size))
      have HR5 := Lib.hid (HR4.out.kept hB5)
      obtain ⟨⟨r0, r1, r2, r3⟩, g0, g1, g2, g3⟩ := blk4_cells HR5.out
      clear hB5 p0 p1 p2 p3 hg4
    · have hz := hno trivial
      subst hz
      have HE := Lib.hid (blk4_cells (blk4_all (a' := .slice none 0 0) (b' := .slice none 0 0) (c' := .slice none 0 0) (d' := .int .i64 0) HR5.out)).1
      unfold zeroW
      clear hyes hno
      go_wp2_with fail
      obtain ⟨y0, y1, y2, y3⟩ := HE.out
      refine bodyPost_ret (v := .tuple #[zeroW, .bool false]) (by simp [results, Try.results93, go_sem, y0, y1, y2, y3, zeroW]) rfl ⟨_, rfl, fun h => (by cases h), fun _ => rfl, ?_⟩
      exact (((HB5.out.setCell (by simp; omega) _).setCell (by simp; omega) _).setCell (by simp; omega) _).setCell (by simp; omega) _
    · have hw5 := hyes trivial
      have HW5 := Lib.hid hw5
      obtain ⟨A2, c2, A3, c3, rfl⟩ := hw5.shape
      have HE := Lib.hid (blk4_cells (blk4_all (a' := .slice Ag gs.length cg) (b' := .slice A2 (lens gs).length c2) (c' := .slice A3 gs.length c3) (d' := .int .i64 go) HR5.out)).1
      have HRL : Hid (w.heap.size + 2 < w4.heap.size) := Lib.hid HR4.out.lt
      clear hyes hno hw5
      go_wp2_with fail
      obtain ⟨y0, y1, y2, y3⟩ := HE.out
      refine bodyPost_ret (v := .tuple #[.agg #[.slice Ag gs.length cg, .slice A2 (lens gs).length c2, .slice A3 gs.length c3, .int .i64 go], .bool true]) (by simp [results, Try.results93, go_sem, y0, y1, y2, y3]) rfl ⟨_, rfl, fun _ => ?_, fun h => (by cases h), ?_⟩
      · exact (((((HW5.out.far _ _ HRL.out).far _ _ HRL.out).far _ _ HRL.out).far _ _ HRL.out)).lower HB4.out.size
      · exact (((HB5.out.setCell (by simp; omega) _).setCell (by simp; omega) _).setCell (by simp; omega) _).setCell (by simp; omega) _
theorem lastOf_any (A : Option Addr) (n c : Nat) (hn : n ≤ 400) (w : World) :
    Calls Try.prog 137 #[.slice A n c] w fun e w' => e = .returned (.int .i64 ((n : Int) - 1)) ∧ w' = w := by
  have h1 : IntKind.i64.wrap ((n : Int) - 1) = (n : Int) - 1 := by rw [IntKind.wrap_i64]; omega
  go_enter Try.func137, Try.ntmps137
  go_wp2
  go_ret
  exact ⟨ret_int (by first | rfl | omega), rfl⟩
theorem wordLen_any (v : Value) (zs : List Int) (hn : zs.length ≤ 400) (w : World) (h : IsL w v zs) :
    Calls Try.prog 101 #[v] w fun e w' => e = .returned (.int .i64 (zs.getD (zs.length - 1) 0)) ∧ w' = w := by
  obtain ⟨A, c, rfl, hc⟩ := h
  by_cases h0 : zs.length = 0
  · have hz : zs = [] := List.eq_nil_of_length_eq_zero h0
    subst hz
    clear hc h0
    go_enter Try.func101, Try.ntmps101
    go_wp2
    go_ret
    exact ⟨rfl, rfl⟩
  · rcases hc with hz | ⟨a, rfl, hc⟩
    · rw [hz] at h0; simp at h0
    obtain ⟨m, hm⟩ : ∃ m, zs.length = m + 1 := ⟨zs.length - 1, by omega⟩
    have c0 := hc m (by omega)
    have ez : zs.getD (zs.length - 1) 0 = zs[m]'(by omega) := by
      rw [show zs.length - 1 = m from by omega, List.getD_eq_getElem?_getD, List.getElem?_eq_getElem (by omega)]
      rfl
    rw [← ez] at c0
    clear ez
    generalize zs.getD (zs.length - 1) 0 = z at *
    obtain ⟨n, hne⟩ : ∃ n, n = zs.length := ⟨_, rfl⟩
    rw [← hne]
    have hsub : IntKind.i64.wrap ((n : Int) - 1) = (m : Int) := by rw [IntKind.wrap_i64]; omega
    have m0 : (0 : Int) ≤ (m : Int) := by omega
    have m1 : (m : Int) < (n : Int) := by omega
    have hnz : (((n : Int)) == 0) = false := by simp; omega
    have hnz' : n ≠ 0 := by omega
    clear hc h0 hm hn hne
    go_enter Try.func101, Try.ntmps101
    go_wp2
    go_ret
    exact ⟨rfl, rfl⟩
theorem lead_zero (k s n : Int) (p q : Value) (h : n ≤ 0) (w : World) :
    Calls Try.prog 136 #[.int .i64 k, .int .i64 s, .int .i64 n, p, q] w fun e w' => e = .returned (.int .i64 s) ∧ w' = w := by
  have hd : decide (n ≤ 0) = true := decide_eq_true h
  clear h
  go_enter Try.func136, Try.ntmps136
  go_wp2_with fail
  go_ret
  exact ⟨rfl, rfl⟩
theorem lead_full (k : Nat) (s n : Int) (Wb : Nat) (q : Value) (gv lv mv : Value) (st0 : Int) (ls : List Int) (ms : List (List Int)) (lo : Nat) (w : World) (hB : B4 w Wb gv lv mv (.int .i64 st0) 122) (hl : IsL w lv ls) (hm : IsMs w lo mv ms) (hk : k < ls.length) (hk2 : k < ms.length) (hn : 0 < n) (hn2 : ls.getD k 0 ≤ n) (hs : 0 ≤ s ∧ s < 24) :
    Calls Try.prog 136 #[.int .i64 k, .int .i64 s, .int .i64 n, .pointer (some ⟨Wb, 0, none⟩), q] w fun e w' => e = .returned (.int .i64 ((ms.getD k []).getD s.toNat 0)) ∧ w' = w := by
  obtain ⟨t, rfl⟩ : ∃ t : Nat, s = t := ⟨s.toNat, by omega⟩
  rw [Int.toNat_natCast]
  obtain ⟨⟨p0, p1, p2, p3⟩, _⟩ := blk4_cells hB
  obtain ⟨A2, c2, rfl, h2⟩ := hl
  obtain ⟨A3, c3, rfl, h3⟩ := hm
  rcases h2 with h2 | ⟨a2, rfl, h2⟩
  · rw [h2] at hk; simp at hk
  rcases h3 with h3 | ⟨a3, rfl, _, h3⟩
  · rw [h3] at hk2; simp at hk2
  have c0 := h2 k hk
  have c1 := h3 k t hk2 (by omega)
  rw [show ls[k] = ls.getD k 0 from by rw [List.getD_eq_getElem?_getD, List.getElem?_eq_getElem hk]; rfl] at c0
  clear h2 h3
  generalize ls.getD k 0 = lk at *
  generalize (ms.getD k []).getD t 0 = z at *
  generalize ls.length = N at *
  generalize ms.length = M at *
  have k0 : (0 : Int) ≤ (k : Int) := by omega
  have k1 : (k : Int) < (N : Int) := by omega
  have k2 : (k : Int) < (M : Int) := by omega
  have t0 : (0 : Int) ≤ (t : Int) := by omega
  have t1 : (t : Int) < 24 := by omega
  have hd : decide (n ≤ 0) = false := decide_eq_false (by omega)
  have hd2 : decide (lk ≤ n) = true := decide_eq_true hn2
  clear hB hk hk2 hn hn2 hs
  go_enter Try.func136, Try.ntmps136
  go_wp2_with fail
  go_ret
  exact ⟨rfl, rfl⟩
set_option maxRecDepth 100000 in
set_option maxHeartbeats 3200000 in
theorem after_full (wv gv : Value) (gs : List Rl) (nx : List (List Int)) (s : Int) (lo : Nat) (w : World) (hok : gOk gs = true) (hr : Rules w gv gs) (hW : IsW w lo wv gv gs nx s) (hs : 0 ≤ s ∧ s < 24) :
    Calls Try.prog 102 #[wv, .int .i64 (wordLen gs)] w fun e w' => e = .returned (.int .i64 (endS nx gs s)) ∧ Below w.heap.size w w' := by
  have hmf : ∀ (fn : Fn) (first cap : Array Value) (w : World), (Instr.makeFunc fn first cap).run Try.prog w = .ok (.func fn first cap) w := fun _ _ _ _ => rfl
  obtain ⟨lv, mv, rfl, h2, h3⟩ := hW
  have hn400 := gOk_len hok
  have hfit := (gOk_iff.1 hok).2.1
  have hb : Below w.heap.size w ((w.alloc (.cells #[gv, lv, mv, .int .i64 s] 122)).alloc (.cells #[.func (.func 136) #[] #[.pointer (some ⟨w.heap.size, 0, none⟩), .pointer (some ⟨w.heap.size + 1, 0, none⟩)]] 172)) := ((Below.refl _ w).alloc (Nat.le_refl _) _).alloc (by simp) _
  have hP : B4 ((w.alloc (.cells #[gv, lv, mv, .int .i64 s] 122)).alloc (.cells #[.func (.func 136) #[] #[.pointer (some ⟨w.heap.size, 0, none⟩), .pointer (some ⟨w.heap.size + 1, 0, none⟩)]] 172)) w.heap.size gv lv mv (.int .i64 s) 122 := (B4.new w _ _ _ _ _).alloc _
  have hQ := heap_alloc_new (w.alloc (.cells #[gv, lv, mv, .int .i64 s] 122)) (.cells #[.func (.func 136) #[] #[.pointer (some ⟨w.heap.size, 0, none⟩), .pointer (some ⟨w.heap.size + 1, 0, none⟩)]] 172)
  rw [show (w.alloc (.cells #[gv, lv, mv, .int .i64 s] 122)).heap.size = w.heap.size + 1 from by simp] at hQ
  have hq := cell_of_row _ _ 0 _ _ _ hQ
  have HLD : Hid (∀ W, Below ((w.alloc (.cells #[gv, lv, mv, .int .i64 s] 122)).alloc (.cells #[.func (.func 136) #[] #[.pointer (some ⟨w.heap.size, 0, none⟩), .pointer (some ⟨w.heap.size + 1, 0, none⟩)]] 172)).heap.size ((w.alloc (.cells #[gv, lv, mv, .int .i64 s] 122)).alloc (.cells #[.func (.func 136) #[] #[.pointer (some ⟨w.heap.size, 0, none⟩), .pointer (some ⟨w.heap.size + 1, 0, none⟩)]] 172)) W → Calls Try.prog 136 #[.int .i64 ((gs.length : Int) - 1), .int .i64 s, .int .i64 (wordLen gs), .pointer (some ⟨w.heap.size, 0, none⟩), .pointer (some ⟨w.heap.size + 1, 0, none⟩)] W fun e w' => e = .returned (.int .i64 (endS nx gs s)) ∧ w' = W) := Lib.hid (fun W hW => by
    unfold endS
    by_cases h0 : gs.length = 0
    · rw [if_pos h0, wordLen_zero h0]
      exact lead_zero _ s 0 _ _ (by omega) W
    · rw [if_neg h0]
      have hk : ((gs.length : Int) - 1) = ((gs.length - 1 : Nat) : Int) := by omega
      rw [hk]
      have hpos := lens_pos (gs := gs) (k := gs.length - 1) (by omega) (fun j hj _ => fits_at hfit j hj)
      unfold wordLen
      exact lead_full (gs.length - 1) s _ w.heap.size _ gv lv mv s (lens gs) (mapsK nx gs gs.length) lo W (hP.kept hW) (((IsL.of_own h2).kept hb).kept hW) ((h3.kept hb).kept hW) (by rw [lens_len]; omega) (by rw [mapsK_len]; omega) (by omega) (Int.le_refl _) hs)
  have HB := Lib.hid hb
  obtain ⟨⟨p0, p1, p2, p3⟩, _⟩ := blk4_cells hP
  obtain ⟨Ag, cg, rfl, hRx⟩ := hr
  obtain ⟨A2, c2, rfl⟩ := own_slice h2
  obtain ⟨A3, c3, rfl, h3x⟩ := h3
  have HLO := Lib.hid (fun W => lastOf_any Ag gs.length cg hn400 W)
  generalize wordLen gs = n at *
  generalize endS nx gs s = z at *
  clear hok hs hn400 hfit hRx h3x h2 hP hQ
  go_enter Try.func102, Try.ntmps102
  go_upto_region 3 with fail
  generalize (w.alloc (.cells #[.slice Ag gs.length cg, .slice A2 (lens gs).length c2, .slice A3 (mapsK nx gs gs.length).length c3, .int .i64 s] 122)).alloc (.cells #[.func (.func 136) #[] #[.pointer (some ⟨w.heap.size, 0, none⟩), .pointer (some ⟨w.heap.size + 1, 0, none⟩)]] 172) = w2 at *
  have hq : w2.cell? ⟨w.heap.size + 1, 0, none⟩ = some (.func (.func 136) #[] #[.pointer (some ⟨w.heap.size, 0, none⟩), .pointer (some ⟨w.heap.size + 1, 0, none⟩)]) := hq
  have HLE := Lib.hid (fun m => HLD.out (w2.drewN m) (below_drewN (Below.refl _ w2) m))
  clear hb HLD
  go_quiet ((first
    | (go_at_call 137; exact Calls.quiet_of_same (HLO.out _))
    | (go_at_call 136; exact Calls.quiet_of_same (HLE.out _))))
  go_wp2_with fail
  go_ret
  exact ⟨rfl, below_drewN HB.out _⟩
end Go.Proofs.Ytddjcgaejjldbaa
