/-
  Walks: spec.l04End, spec.RunGrammar.
  Walks: impl.walkOfAuto, lastOf, wordLength, the walk's end, impl.RunGrammar.
  Walks: impl.lastOf, wordLength, the walk's end.
-/
import Derived.Test.YtaffachjopjbgaaMapsS
import Derived.Test.YtaffachjopjbgaaGramOk
import Derived.BigQuiet
import Derived.Deep.RegionLaw
import Derived.Test.YtaffachjopjbgaaWalkO
import Derived.Test.YtaffachjopjbgaaAuI3
import Derived.Laws.EntriesVeiled
import Derived.Deep.RegionHeld3
namespace Go.Proofs.Ytaffachjopjbgaa
open Go.RowKit
open Wd
set_option linter.unusedVariables false
namespace Wd
/-- where the whole word leads -/
def endS (nx : List (List Int)) (gs : List Rl) (s : Int) : Int := if gs.length = 0 then s else ((mapsK nx gs gs.length).getD (gs.length - 1) []).getD s.toNat 0
def runG (x : Au) (s : Int) (gs : List Rl) : Int × Int := if aOk x = true ∧ gOk gs = true then if 0 ≤ s ∧ s < x.st then (endS x.nx gs s, 0) else (0, 2) else (0, 1)
end Wd
set_option maxRecDepth 100000 in
set_option maxHeartbeats 3200000 in
theorem walkOfAuto_any (av : Value) (x : Au) (gv : Value) (gs : List Rl) (w : World) (hf : FewA x) (hx : IsAu w av x) (hfr : FewR gs) (hr : Rules w gv gs) :
    Calls Try.prog 86 #[av, .agg #[gv]] w fun e w' => ∃ wv, e = .returned (.tuple #[wv, .bool (aOk x && gOk gs)]) ∧ ((aOk x && gOk gs) = true → IsW w' w.heap.size wv gv gs x.nx x.go) ∧ ((aOk x && gOk gs) = false → wv = zeroW) ∧ Below w.heap.size w w' := by
  have HIS := Lib.hid (fun W (hb : Below w.heap.size w W) => hx.kept hb)
  have HRU := Lib.hid (fun W (hb : Below w.heap.size w W) => hr.kept hb)
  obtain ⟨st, go, fin, nx⟩ := x
  obtain ⟨f, n, rfl, hF, hN⟩ := hx
  simp only at hF hN
  obtain ⟨hP, hG, hR, hB3, hs3⟩ := al3 w (.cells #[.int .i64 st, .int .i64 go, f, n] 33) (.cells #[gv] 37) (.cells #[.slice none 0 0, .slice none 0 0, .slice none 0 0, .int .i64 0] 110)
  have HP : Hid (B4 _ w.heap.size (.int .i64 st) (.int .i64 go) f n 33) := Lib.hid hP
  have HR : Hid (B4 _ (w.heap.size + 2) (.slice none 0 0) (.slice none 0 0) (.slice none 0 0) (.int .i64 0) 110) := Lib.hid hR
  have hg0 := cell_of_row _ _ 0 _ _ _ hG
  have HG : Hid ((((w.alloc (.cells #[.int .i64 st, .int .i64 go, f, n] 33)).alloc (.cells #[gv] 37)).alloc (.cells #[.slice none 0 0, .slice none 0 0, .slice none 0 0, .int .i64 0] 110)).cell? ⟨w.heap.size + 1, 0, none⟩ = some gv) := Lib.hid hg0
  have HB := Lib.hid hB3
  have HV := Lib.hid (fun W (hb : Below w.heap.size w W) => implValidAuto _ ⟨st, go, fin, nx⟩ W hf (HIS.out W hb))
  have HN := Lib.hid (fun W (hb : Below w.heap.size w W) => hN.kept hb)
  obtain ⟨Af, cf, rfl⟩ := hF.shape
  obtain ⟨An, cn, rfl, hNx⟩ := hN
  obtain ⟨Ag, cg, rfl, hRx⟩ := hr
  clear hP hG hR hB3 hg0 hNx hRx hF
  show Calls Try.prog _ #[.agg #[.int .i64 st, .int .i64 go, .slice Af fin.length cf, .slice An nx.length cn], .agg #[.slice Ag gs.length cg]] w _
  cases ha : aOk ⟨st, go, fin, nx⟩
  · have HV2 : Hid (∀ W, Below w.heap.size w W → Calls Try.prog 107 #[.agg #[.int .i64 st, .int .i64 go, .slice Af fin.length cf, .slice An nx.length cn]] W fun e w' => e = .returned (.bool false) ∧ Below W.heap.size W w') := Lib.hid (fun W hb => by have := HV.out W hb; rwa [ha] at this)
    clear ha HV
    go_enter Try.func86, Try.ntmps86
    go_upto_region 1 with fail
    generalize ((w.alloc (.cells #[.int .i64 st, .int .i64 go, .slice Af fin.length cf, .slice An nx.length cn] 33)).alloc (.cells #[.slice Ag gs.length cg] 37)).alloc (.cells #[.slice none 0 0, .slice none 0 0, .slice none 0 0, .int .i64 0] 110) = w3 at *
    obtain ⟨⟨p0, p1, p2, p3⟩, _⟩ := blk4_cells HP.out
    go_wp2_with fail
    refine (HV2.out _ HB.out).mono ?_
    rintro e w4 ⟨rfl, hB4⟩
    have HB4 := Lib.hid (HB.out.trans (hB4.mono HB.out.size))
    have HR4 := Lib.hid (HR.out.kept hB4)
    obtain ⟨⟨r0, r1, r2, r3⟩, g0, g1, g2, g3⟩ := blk4_cells HR4.out
    have HE := Lib.hid (blk4_cells (blk4_all (a' := .slice none 0 0) (b' := .slice none 0 0) (c' := .slice none 0 0) (d' := .int .i64 0) HR4.out)).1
    clear hB4 p0 p1 p2 p3 hs3
    go_wp2_with fail
    obtain ⟨y0, y1, y2, y3⟩ := HE.out
    refine bodyPost_ret (v := .tuple #[zeroW, .bool false]) (by simp [results, Try.results86, go_sem, y0, y1, y2, y3, zeroW]) rfl ⟨_, rfl, fun h => (by cases h), fun _ => rfl, ?_⟩
    exact (((HB4.out.setCell (by simp; omega) _).setCell (by simp; omega) _).setCell (by simp; omega) _).setCell (by simp; omega) _
  · obtain ⟨⟨h1, h24⟩, hrow, hlen⟩ := aOk_parts ha
    simp only at h1 h24 hrow hlen
    have HV2 : Hid (∀ W, Below w.heap.size w W → Calls Try.prog 107 #[.agg #[.int .i64 st, .int .i64 go, .slice Af fin.length cf, .slice An nx.length cn]] W fun e w' => e = .returned (.bool true) ∧ Below W.heap.size W w') := Lib.hid (fun W hb => by have := HV.out W hb; rwa [ha] at this)
    have HW := Lib.hid (fun W (hb : Below w.heap.size w W) => walkOf_any go st _ nx _ gs W h1 h24 hrow hlen (HN.out W hb) hfr (HRU.out W hb))
    clear ha HV hrow hlen
    cases hok : gOk gs
    all_goals
      rw [hok] at HW
      clear hok
      go_enter Try.func86, Try.ntmps86
      go_upto_region 1 with fail
      generalize ((w.alloc (.cells #[.int .i64 st, .int .i64 go, .slice Af fin.length cf, .slice An nx.length cn] 33)).alloc (.cells #[.slice Ag gs.length cg] 37)).alloc (.cells #[.slice none 0 0, .slice none 0 0, .slice none 0 0, .int .i64 0] 110) = w3 at *
      obtain ⟨⟨p0, p1, p2, p3⟩, _⟩ := blk4_cells HP.out
      go_wp2_with fail
      refine (HV2.out _ HB.out).mono ?_
      rintro e w4 ⟨rfl, hB4⟩
      have HB4 := Lib.hid (HB.out.trans (hB4.mono HB.out.size))
      have HR4 := Lib.hid (HR.out.kept hB4)
      have HP4 := Lib.hid (HP.out.kept hB4)
      have hg4 := (hB4.cell (lt_of_cell HG.out)).trans HG.out
      clear hB4 p0 p1 p2 p3 hs3
      obtain ⟨⟨p0, p1, p2, p3⟩, _⟩ := blk4_cells HP4.out
      go_wp2_with fail
      refine (HW.out _ HB4.out).mono ?_
      rintro e w5 ⟨wv, rfl, hyes, hno, hB5⟩
      have HB5 := Lib.hid (HB4.out.trans (hB5.mono HB4.out.size))
      have HR5 := Lib.hid (HR4.out.kept hB5)
      obtain ⟨⟨r0, r1, r2, r3⟩, g0, g1, g2, g3⟩ := blk4_cells HR5.out
      clear hB5 p0 p1 p2 p3 hg4
    · have hz := hno trivial
      subst hz
      have HE := Lib.hid (blk4_cells (blk4_all (a' := .slice none 0 0) (b' := .slice none 0 0) (c' := .slice none 0 0) (d' := .int .i64 0) HR5.out)).1
      unfold zeroW
      clear hyes hno
      go_wp2_with fail
      obtain ⟨y0, y1, y2, y3⟩ := HE.out
      refine bodyPost_ret (v := .tuple #[zeroW, .bool false]) (by simp [results, Try.results86, go_sem, y0, y1, y2, y3, zeroW]) rfl ⟨_, rfl, fun h => (by cases h), fun _ => rfl, ?_⟩
      exact (((HB5.out.setCell (by simp; omega) _).setCell (by simp; omega) _).setCell (by simp; omega) _).setCell (by simp; omega) _
    · have hw5 := hyes trivial
      have HW5 := Lib.hid hw5
      obtain ⟨A2, c2, A3, c3, rfl⟩ := hw5.shape
      have HE := Lib.hid (blk4_cells (blk4_all (a' := .slice Ag gs.length cg) (b' := .slice A2 (lens gs).length c2) (c' := .slice A3 gs.length c3) (d' := .int .i64 go) HR5.out)).1
      have HRL : Hid (w.heap.size + 2 < w4.heap.size) := Lib.hid HR4.out.lt
      clear hyes hno hw5
      go_wp2_with fail
      obtain ⟨y0, y1, y2, y3⟩ := HE.out
      refine bodyPost_ret (v := .tuple #[.agg #[.slice Ag gs.length cg, .slice A2 (lens gs).length c2, .slice A3 gs.length c3, .int .i64 go], .bool true]) (by simp [results, Try.results86, go_sem, y0, y1, y2, y3]) rfl ⟨_, rfl, fun _ => ?_, fun h => (by cases h), ?_⟩
      · exact (((((HW5.out.far _ _ HRL.out).far _ _ HRL.out).far _ _ HRL.out).far _ _ HRL.out)).lower HB4.out.size
      · exact (((HB5.out.setCell (by simp; omega) _).setCell (by simp; omega) _).setCell (by simp; omega) _).setCell (by simp; omega) _
theorem lastOf_any (A : Option Addr) (n c : Nat) (hn : n ≤ 400) (w : World) :
    Calls Try.prog 135 #[.slice A n c] w fun e w' => e = .returned (.int .i64 ((n : Int) - 1)) ∧ w' = w := by
  have h1 : IntKind.i64.wrap ((n : Int) - 1) = (n : Int) - 1 := by rw [IntKind.wrap_i64]; omega
  go_enter Try.func135, Try.ntmps135
  go_wp2
  go_ret
  exact ⟨ret_int (by first | rfl | omega), rfl⟩
theorem wordLen_any (v : Value) (zs : List Int) (hn : zs.length ≤ 400) (w : World) (h : IsL w v zs) :
    Calls Try.prog 102 #[v] w fun e w' => e = .returned (.int .i64 (zs.getD (zs.length - 1) 0)) ∧ w' = w := by
  obtain ⟨A, c, rfl, hc⟩ := h
  by_cases h0 : zs.length = 0
  · have hz : zs = [] := List.eq_nil_of_length_eq_zero h0
    subst hz
    clear hc h0
    go_enter Try.func102, Try.ntmps102
    go_wp2
    go_ret
    exact ⟨rfl, rfl⟩
  · rcases hc with hz | ⟨a, rfl, hc⟩
    · rw [hz] at h0; simp at h0
    obtain ⟨m, hm⟩ : ∃ m, zs.length = m + 1 := ⟨zs.length - 1, by omega⟩
    have c0 := hc m (by omega)
    have ez : zs.getD (zs.length - 1) 0 = zs[m]'(by omega) := by
      rw [show zs.length - 1 = m from by omega, List.getD_eq_getElem?_getD, List.getElem?_eq_getElem (by omega)]
      rfl
    rw [← ez] at c0
    clear ez
    generalize zs.getD (zs.length - 1) 0 = z at *
    obtain ⟨n, hne⟩ : ∃ n, n = zs.length := ⟨_, rfl⟩
    rw [← hne]
    have hsub : IntKind.i64.wrap ((n : Int) - 1) = (m : Int) := by rw [IntKind.wrap_i64]; omega
    have m0 : (0 : Int) ≤ (m : Int) := by omega
    have m1 : (m : Int) < (n : Int) := by omega
    have hnz : (((n : Int)) == 0) = false := by simp; omega
    have hnz' : n ≠ 0 := by omega
    clear hc h0 hm hn hne
    go_enter Try.func102, Try.ntmps102
    go_wp2
    go_ret
    exact ⟨rfl, rfl⟩
end Go.Proofs.Ytaffachjopjbgaa
