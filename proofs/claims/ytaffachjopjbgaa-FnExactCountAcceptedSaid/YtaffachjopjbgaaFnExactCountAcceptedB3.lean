/-
  Part 3 of the texts on which FnExactCountAccepted rests, one behind the other: contracts and numbers of what the law's two functions call. No condition beyond those that each theorem names.
-/
import Derived.Test.YtaffachjopjbgaaFnExactCountAcceptedB2
import Derived.BigQuiet
import Derived.Deep.RegionLaw
import Derived.Laws.EntriesVeiled
import Derived.Deep.RegionHeld3
import Derived.Deep.QuietTactic
import Derived.StillTailTactics
import Derived.Deep.DeepCutAuto
namespace Go.Proofs.Ytaffachjopjbgaa
open Go.RowKit
open Wd
set_option linter.unusedVariables false
namespace Wd
/-- where the whole word leads -/
def endS (nx : List (List Int)) (gs : List Rl) (s : Int) : Int := if gs.length = 0 then s else ((mapsK nx gs gs.length).getD (gs.length - 1) []).getD s.toNat 0
def runG (x : Au) (s : Int) (gs : List Rl) : Int × Int := if aOk x = true ∧ gOk gs = true then if 0 ≤ s ∧ s < x.st then (endS x.nx gs s, 0) else (0, 2) else (0, 1)
end Wd
set_option maxRecDepth 100000 in
set_option maxHeartbeats 3200000 in
theorem walkOfAuto_any (av : Value) (x : Au) (gv : Value) (gs : List Rl) (w : World) (hf : FewA x) (hx : IsAu w av x) (hfr : FewR gs) (hr : Rules w gv gs) :
    Calls Try.prog 86 #[av, .agg #[gv]] w fun e w' => ∃ wv, e = .returned (.tuple #[wv, .bool (aOk x && gOk gs)]) ∧ ((aOk x && gOk gs) = true → IsW w' w.heap.size wv gv gs x.nx x.go) ∧ ((aOk x && gOk gs) = false → wv = zeroW) ∧ Below w.heap.size w w' := by
  have HIS := Lib.hid (fun W (hb : Below w.heap.size w W) => hx.kept hb)
  have HRU := Lib.hid (fun W (hb : Below w.heap.size w W) => hr.kept hb)
  obtain ⟨st, go, fin, nx⟩ := x
  obtain ⟨f, n, rfl, hF, hN⟩ := hx
  simp only at hF hN
  obtain ⟨hP, hG, hR, hB3, hs3⟩ := al3 w (.cells #[.int .i64 st, .int .i64 go, f, n] 33) (.cells #[gv] 37) (.cells #[.slice none 0 0, .slice none 0 0, .slice none 0 0, .int .i64 0] 110)
  have HP : Hid (B4 _ w.heap.size (.int .i64 st) (.int .i64 go) f n 33) := Lib.hid hP
  have HR : Hid (B4 _ (w.heap.size + 2) (.slice none 0 0) (.slice none 0 0) (.slice none 0 0) (.int .i64 0) 110) := Lib.hid hR
  have hg0 := cell_of_row _ _ 0 _ _ _ hG
  have HG : Hid ((((w.alloc (.cells #[.int .i64 st, .int .i64 go, f, n] 33)).alloc (.cells #[gv] 37)).alloc (.cells #[.slice none 0 0, .slice none 0 0, .slice none 0 0, .int .i64 0] 110)).cell? ⟨w.heap.size + 1, 0, none⟩ = some gv) := Lib.hid hg0
  have HB := Lib.hid hB3
  have HV := Lib.hid (fun W (hb : Below w.heap.size w W) => implValidAuto _ ⟨st, go, fin, nx⟩ W hf (HIS.out W hb))
  have HN := Lib.hid (fun W (hb : Below w.heap.size w W) => hN.kept hb)
  obtain ⟨Af, cf, rfl⟩ := hF.shape
  obtain ⟨An, cn, rfl, hNx⟩ := hN
  obtain ⟨Ag, cg, rfl, hRx⟩ := hr
  clear hP hG hR hB3 hg0 hNx hRx hF
  show Calls Try.prog _ #[.agg #[.int .i64 st, .int .i64 go, .slice Af fin.length cf, .slice An nx.length cn], .agg #[.slice Ag gs.length cg]] w _
  cases ha : aOk ⟨st, go, fin, nx⟩
  · have HV2 : Hid (∀ W, Below w.heap.size w W → Calls Try.prog 107 #[.agg #[.int .i64 st, .int .i64 go, .slice Af fin.length cf, .slice An nx.length cn]] W fun e w' => e = .returned (.bool false) ∧ Below W.heap.size W w') := Lib.hid (fun W hb => by have := HV.out W hb; rwa [ha] at this)
    clear ha HV
    go_enter Try.func86, Try.ntmps86
    go_upto_region 1 with fail
    generalize ((w.alloc (.cells #[.int .i64 st, .int .i64 go, .slice Af fin.length cf, .slice An nx.length cn] 33)).alloc (.cells #[.slice Ag gs.length cg] 37)).alloc (.cells #[.slice none 0 0, .slice none 0 0, .slice none 0 0, .int .i64 0] 110) = w3 at *
    obtain ⟨⟨p0, p1, p2, p3⟩, _⟩ := blk4_cells HP.out
    go_wp2_with fail
    refine (HV2.out _ HB.out).mono ?_
    rintro e w4 ⟨rfl, hB4⟩
    have HB4 := Lib.hid (HB.out.trans (hB4.mono HB.out.size))
    have HR4 := Lib.hid (HR.out.kept hB4)
    obtain ⟨⟨r0, r1, r2, r3⟩, g0, g1, g2, g3⟩ := blk4_cells HR4.out
    have HE := Lib.hid (blk4_cells (blk4_all (a' := .slice none 0 0) (b' := .slice none 0 0) (c' := .slice none 0 0) (d' := .int .i64 0) HR4.out)).1
    clear hB4 p0 p1 p2 p3 hs3
    go_wp2_with fail
    obtain ⟨y0, y1, y2, y3⟩ := HE.out
    refine bodyPost_ret (v := .tuple #[zeroW, .bool false]) (by simp [results, Try.results86, go_sem, y0, y1, y2, y3, zeroW]) rfl ⟨_, rfl, fun h => (by cases h), fun _ => rfl, ?_⟩
    exact (((HB4.out.setCell (by simp; omega) _).setCell (by simp; omega) _).setCell (by simp; omega) _).setCell (by simp; omega) _
  · obtain ⟨⟨h1, h24⟩, hrow, hlen⟩ := aOk_parts ha
    simp only at h1 h24 hrow hlen
    have HV2 : Hid (∀ W, Below w.heap.size w W → Calls Try.prog 107 #[.agg #[.int .i64 st, .int .i64 go, .slice Af fin.length cf, .slice An nx.length cn]] W fun e w' => e = .returned (.bool true) ∧ Below W.heap.size W w') := Lib.hid (fun W hb => by have := HV.out W hb; rwa [ha] at this)
    have HW := Lib.hid (fun W (hb : Below w.heap.size w W) => walkOf_any go st _ nx _ gs W h1 h24 hrow hlen (HN.out W hb) hfr (HRU.out W hb))
    clear ha HV hrow hlen
    cases hok : gOk gs
    all_goals
      rw [hok] at HW
      clear hok
      go_enter Try.func86, Try.ntmps86
      go_upto_region 1 with fail
      generalize ((w.alloc (.cells #[.int .i64 st, .int .i64 go, .slice Af fin.length cf, .slice An nx.length cn] 33)).alloc (.cells #[.slice Ag gs.length cg] 37)).alloc (.cells #[.slice none 0 0, .slice none 0 0, .slice none 0 0, .int .i64 0] 110) = w3 at *
      obtain ⟨⟨p0, p1, p2, p3⟩, _⟩ := blk4_cells HP.out
      go_wp2_with fail
      refine (HV2.out _ HB.out).mono ?_
      rintro e w4 ⟨rfl, hB4⟩
      have HB4 := Lib.hid (HB.out.trans (hB4.mono HB.out.size))
      have HR4 := Lib.hid (HR.out.kept hB4)
      have HP4 := Lib.hid (HP.out.kept hB4)
      have hg4 := (hB4.cell (lt_of_cell HG.out)).trans HG.out
      clear hB4 p0 p1 p2 p3 hs3
      obtain ⟨⟨p0, p1, p2, p3⟩, _⟩ := blk4_cells HP4.out
      go_wp2_with fail
      refine (HW.out _ HB4.out).mono ?_
      rintro e w5 ⟨wv, rfl, hyes, hno, hB5⟩
      have HB5 := Lib.hid (HB4.out.trans (hB5.mono HB4.out.size))
      have HR5 := Lib.hid (HR4.out.kept hB5)
      obtain ⟨⟨r0, r1, r2, r3⟩, g0, g1, g2, g3⟩ := blk4_cells HR5.out
      clear hB5 p0 p1 p2 p3 hg4
    · have hz := hno trivial
      subst hz
      have HE := Lib.hid (blk4_cells (blk4_all (a' := .slice none 0 0) (b' := .slice none 0 0) (c' := .slice none 0 0) (d' := .int .i64 0) HR5.out)).1
      unfold zeroW
      clear hyes hno
      go_wp2_with fail
      obtain ⟨y0, y1, y2, y3⟩ := HE.out
      refine bodyPost_ret (v := .tuple #[zeroW, .bool false]) (by simp [results, Try.results86, go_sem, y0, y1, y2, y3, zeroW]) rfl ⟨_, rfl, fun h => (by cases h), fun _ => rfl, ?_⟩
      exact (((HB5.out.setCell (by simp; omega) _).setCell (by simp; omega) _).setCell (by simp; omega) _).setCell (by simp; omega) _
    · have hw5 := hyes trivial
      have HW5 := Lib.hid hw5
      obtain ⟨A2, c2, A3, c3, rfl⟩ := hw5.shape
      have HE := Lib.hid (blk4_cells (blk4_all (a' := .slice Ag gs.length cg) (b' := .slice A2 (lens gs).length c2) (c' := .slice A3 gs.length c3) (d' := .int .i64 go) HR5.out)).1
      have HRL : Hid (w.heap.size + 2 < w4.heap.size) := Lib.hid HR4.out.lt
      clear hyes hno hw5
      go_wp2_with fail
      obtain ⟨y0, y1, y2, y3⟩ := HE.out
      refine bodyPost_ret (v := .tuple #[.agg #[.slice Ag gs.length cg, .slice A2 (lens gs).length c2, .slice A3 gs.length c3, .int .i64 go], .bool true]) (by simp [results, Try.results86, go_sem, y0, y1, y2, y3]) rfl ⟨_, rfl, fun _ => ?_, fun h => (by cases h), ?_⟩
      · exact (((((HW5.out.far _ _ HRL.out).far _ _ HRL.out).far _ _ HRL.out).far _ _ HRL.out)).lower HB4.out.size
      · exact (((HB5.out.setCell (by simp; omega) _).setCell (by simp; omega) _).setCell (by simp; omega) _).setCell (by simp; omega) _
theorem lastOf_any (A : Option Addr) (n c : Nat) (hn : n ≤ 400) (w : World) :
    Calls Try.prog 135 #[.slice A n c] w fun e w' => e = .returned (.int .i64 ((n : Int) - 1)) ∧ w' = w := by
  have h1 : IntKind.i64.wrap ((n : Int) - 1) = (n : Int) - 1 := by rw [IntKind.wrap_i64]; omega
  go_enter Try.func135, Try.ntmps135
  go_wp2
  go_ret
  exact ⟨ret_int (by first | rfl | omega), rfl⟩
theorem wordLen_any (v : Value) (zs : List Int) (hn : zs.length ≤ 400) (w : World) (h : IsL w v zs) :
    Calls Try.prog 102 #[v] w fun e w' => e = .returned (.int .i64 (zs.getD (zs.length - 1) 0)) ∧ w' = w := by
  obtain ⟨A, c, rfl, hc⟩ := h
  by_cases h0 : zs.length = 0
  · have hz : zs = [] := List.eq_nil_of_length_eq_zero h0
    subst hz
    clear hc h0
    go_enter Try.func102, Try.ntmps102
    go_wp2
    go_ret
    exact ⟨rfl, rfl⟩
  · rcases hc with hz | ⟨a, rfl, hc⟩
    · rw [hz] at h0; simp at h0
    obtain ⟨m, hm⟩ : ∃ m, zs.length = m + 1 := ⟨zs.length - 1, by omega⟩
    have c0 := hc m (by omega)
    have ez : zs.getD (zs.length - 1) 0 = zs[m]'(by omega) := by
      rw [show zs.length - 1 = m from by omega, List.getD_eq_getElem?_getD, List.getElem?_eq_getElem (by omega)]
      rfl
    rw [← ez] at c0
    clear ez
    generalize zs.getD (zs.length - 1) 0 = z at *
    obtain ⟨n, hne⟩ : ∃ n, n = zs.length := ⟨_, rfl⟩
    rw [← hne]
    have hsub : IntKind.i64.wrap ((n : Int) - 1) = (m : Int) := by rw [IntKind.wrap_i64]; omega
    have m0 : (0 : Int) ≤ (m : Int) := by omega
    have m1 : (m : Int) < (n : Int) := by omega
    have hnz : (((n : Int)) == 0) = false := by simp; omega
    have hnz' : n ≠ 0 := by omega
    clear hc h0 hm hn hne
    go_enter Try.func102, Try.ntmps102
    go_wp2
    go_ret
    exact ⟨rfl, rfl⟩
end Go.Proofs.Ytaffachjopjbgaa
namespace Go.Proofs.Ytaffachjopjbgaa
open Go.RowKit
open Wd
set_option linter.unusedVariables false
/-- five cells -/
def B5 (w : World) (b : Nat) (c0 c1 c2 c3 c4 : Value) (t : TypeId) : Prop := w.heap[b]? = some (.cells #[c0, c1, c2, c3, c4] t (0, 0))
theorem B5.kept {w w' : World} {b : Nat} {c0 c1 c2 c3 c4 : Value} {t : TypeId} (h : B5 w b c0 c1 c2 c3 c4 t) (hb : Below w.heap.size w w') : B5 w' b c0 c1 c2 c3 c4 t := (hb.block b (Array.getElem?_eq_some_iff.1 h).1).trans h
theorem B5.lt {w : World} {b : Nat} {c0 c1 c2 c3 c4 : Value} {t : TypeId} (h : B5 w b c0 c1 c2 c3 c4 t) : b < w.heap.size := (Array.getElem?_eq_some_iff.1 h).1
theorem b5_cells {w : World} {R : Nat} {t : TypeId} {a b c d e : Value} (h : B5 w R a b c d e t) :
    w.cell? ⟨R, 0, none⟩ = some a ∧ w.cell? ⟨R, 1, none⟩ = some b ∧ w.cell? ⟨R, 2, none⟩ = some c ∧ w.cell? ⟨R, 3, none⟩ = some d ∧ w.cell? ⟨R, 4, none⟩ = some e := by
  have key : ∀ o, w.cell? ⟨R, o, none⟩ = (#[a, b, c, d, e] : Array Value)[o]? := fun o => by unfold B5 at h; simp [World.cell?, h]
  exact ⟨by rw [key]; rfl, by rw [key]; rfl, by rw [key]; rfl, by rw [key]; rfl, by rw [key]; rfl⟩
/-- a search's value: a walk, and the visits of all rules -/
def IsS (w : World) (lo : Nat) (sv gv : Value) (gs : List Rl) (nx vs : List (List Int)) (go : Int) : Prop :=
  ∃ lv mv vv, sv = .agg #[gv, lv, mv, .int .i64 go, vv] ∧ OwnsI w lo lv (lens gs) ∧ IsMs w lo mv (mapsK nx gs gs.length) ∧ IsMs w lo vv vs
theorem IsS.kept {w w' : World} {lo : Nat} {sv gv : Value} {gs : List Rl} {nx vs : List (List Int)} {go : Int} (h : IsS w lo sv gv gs nx vs go) (hb : Below w.heap.size w w') : IsS w' lo sv gv gs nx vs go := by
  obtain ⟨lv, mv, vv, h0, h2, h3, h4⟩ := h
  exact ⟨lv, mv, vv, h0, own_below h2 hb (Nat.le_refl _), h3.kept hb, h4.kept hb⟩
theorem win_zero (k s n : Int) (p q : Value) (h : n ≤ 0) (w : World) :
    Calls Try.prog 163 #[.int .i64 k, .int .i64 s, .int .i64 n, p, q] w fun e w' => e = .returned (.int .i64 0) ∧ w' = w := by
  have hd : decide (n ≤ 0) = true := decide_eq_true h
  clear h
  go_enter Try.func163, Try.ntmps163
  go_wp2_with fail
  go_ret
  exact ⟨rfl, rfl⟩
set_option maxRecDepth 100000 in
set_option maxHeartbeats 1600000 in
theorem win_full (k : Nat) (s n : Int) (Wb : Nat) (q : Value) (gv lv mv vv : Value) (st0 : Int) (ls : List Int) (vs : List (List Int)) (lo : Nat) (w : World) (hB : B5 w Wb gv lv mv (.int .i64 st0) vv 116) (hl : IsL w lv ls) (hm : IsMs w lo vv vs) (hk : k < ls.length) (hk2 : k < vs.length) (hn : 0 < n) (hn2 : ls.getD k 0 ≤ n) (hs : 0 ≤ s ∧ s < 24) :
    Calls Try.prog 163 #[.int .i64 k, .int .i64 s, .int .i64 n, .pointer (some ⟨Wb, 0, none⟩), q] w fun e w' => e = .returned (.int .i64 (at2 vs k s.toNat)) ∧ w' = w := by
  obtain ⟨t, rfl⟩ : ∃ t : Nat, s = t := ⟨s.toNat, by omega⟩
  rw [Int.toNat_natCast]
  obtain ⟨p0, p1, p2, p3, p4⟩ := b5_cells hB
  obtain ⟨A2, c2, rfl, h2⟩ := hl
  obtain ⟨A3, c3, rfl, h3⟩ := hm
  rcases h2 with h2 | ⟨a2, rfl, h2⟩
  · rw [h2] at hk; simp at hk
  rcases h3 with h3 | ⟨a3, rfl, _, h3⟩
  · rw [h3] at hk2; simp at hk2
  have c0 := h2 k hk
  have c1 := h3 k t hk2 (by omega)
  rw [show ls[k] = ls.getD k 0 from by rw [List.getD_eq_getElem?_getD, List.getElem?_eq_getElem hk]; rfl] at c0
  unfold at2
  clear h2 h3
  generalize ls.getD k 0 = lk at *
  generalize (vs.getD k []).getD t 0 = z at *
  generalize ls.length = N at *
  generalize vs.length = M at *
  have k0 : (0 : Int) ≤ (k : Int) := by omega
  have k1 : (k : Int) < (N : Int) := by omega
  have k2 : (k : Int) < (M : Int) := by omega
  have k3 : ((k : Int) == -1) = false := by first | (simp; done) | (simp; omega)
  have t0 : (0 : Int) ≤ (t : Int) := by omega
  have t1 : (t : Int) < 24 := by omega
  have hd : decide (n ≤ 0) = false := decide_eq_false (by omega)
  have hd2 : decide (lk ≤ n) = true := decide_eq_true hn2
  clear hB hk hk2 hn hn2 hs
  go_enter Try.func163, Try.ntmps163
  go_wp2_with fail
  go_ret
  exact ⟨rfl, rfl⟩
/-- all visits -/
def allV (vs : List (List Int)) (gs : List Rl) (s : Int) : Int := if gs.length = 0 then 0 else at2 vs (gs.length - 1) s.toNat
set_option maxRecDepth 100000 in
set_option maxHeartbeats 3200000 in
theorem within_any (sv gv : Value) (gs : List Rl) (nx vs : List (List Int)) (s : Int) (lo : Nat) (w : World) (hok : gOk gs = true) (hr : Rules w gv gs) (hv : vs.length = gs.length) (hW : IsS w lo sv gv gs nx vs s) (hs : 0 ≤ s ∧ s < 24) :
    Calls Try.prog 103 #[sv, .int .i64 (wordLen gs)] w fun e w' => e = .returned (.int .i64 (allV vs gs s)) ∧ Below w.heap.size w w' := by
  have hmf : ∀ (fn : Fn) (first cap : Array Value) (w : World), (Instr.makeFunc fn first cap).run Try.prog w = .ok (.func fn first cap) w := fun _ _ _ _ => rfl
  obtain ⟨lv, mv, vv, rfl, h2, h3, h4⟩ := hW
  have hn400 := gOk_len hok
  have hfit := (gOk_iff.1 hok).2.1
  have hb : Below w.heap.size w ((w.alloc (.cells #[gv, lv, mv, .int .i64 s, vv] 116)).alloc (.cells #[.func (.func 163) #[] #[.pointer (some ⟨w.heap.size, 0, none⟩), .pointer (some ⟨w.heap.size + 1, 0, none⟩)]] 202)) := ((Below.refl _ w).alloc (Nat.le_refl _) _).alloc (by simp) _
  have hP : B5 ((w.alloc (.cells #[gv, lv, mv, .int .i64 s, vv] 116)).alloc (.cells #[.func (.func 163) #[] #[.pointer (some ⟨w.heap.size, 0, none⟩), .pointer (some ⟨w.heap.size + 1, 0, none⟩)]] 202)) w.heap.size gv lv mv (.int .i64 s) vv 116 := B5.kept (heap_alloc_new w _) ((Below.refl _ _).alloc (Nat.le_refl _) _)
  have hQ := heap_alloc_new (w.alloc (.cells #[gv, lv, mv, .int .i64 s, vv] 116)) (.cells #[.func (.func 163) #[] #[.pointer (some ⟨w.heap.size, 0, none⟩), .pointer (some ⟨w.heap.size + 1, 0, none⟩)]] 202)
  rw [show (w.alloc (.cells #[gv, lv, mv, .int .i64 s, vv] 116)).heap.size = w.heap.size + 1 from by simp] at hQ
  have hq := cell_of_row _ _ 0 _ _ _ hQ
  have HLD : Hid (∀ W, Below ((w.alloc (.cells #[gv, lv, mv, .int .i64 s, vv] 116)).alloc (.cells #[.func (.func 163) #[] #[.pointer (some ⟨w.heap.size, 0, none⟩), .pointer (some ⟨w.heap.size + 1, 0, none⟩)]] 202)).heap.size ((w.alloc (.cells #[gv, lv, mv, .int .i64 s, vv] 116)).alloc (.cells #[.func (.func 163) #[] #[.pointer (some ⟨w.heap.size, 0, none⟩), .pointer (some ⟨w.heap.size + 1, 0, none⟩)]] 202)) W → Calls Try.prog 163 #[.int .i64 ((gs.length : Int) - 1), .int .i64 s, .int .i64 (wordLen gs), .pointer (some ⟨w.heap.size, 0, none⟩), .pointer (some ⟨w.heap.size + 1, 0, none⟩)] W fun e w' => e = .returned (.int .i64 (allV vs gs s)) ∧ w' = W) := Lib.hid (fun W hW => by
    unfold allV
    by_cases h0 : gs.length = 0
    · rw [if_pos h0, wordLen_zero h0]
      exact win_zero _ s 0 _ _ (by omega) W
    · rw [if_neg h0]
      have hk : ((gs.length : Int) - 1) = ((gs.length - 1 : Nat) : Int) := by omega
      rw [hk]
      have hpos := lens_pos (gs := gs) (k := gs.length - 1) (by omega) (fun j hj _ => fits_at hfit j hj)
      unfold wordLen
      exact win_full (gs.length - 1) s _ w.heap.size _ gv lv mv vv s (lens gs) vs lo W (hP.kept hW) (((IsL.of_own h2).kept hb).kept hW) ((h4.kept hb).kept hW) (by rw [lens_len]; omega) (by rw [hv]; omega) (by omega) (Int.le_refl _) hs)
  have HB := Lib.hid hb
  obtain ⟨p0, p1, p2, p3, p4⟩ := b5_cells hP
  obtain ⟨Ag, cg, rfl, hRx⟩ := hr
  obtain ⟨A2, c2, rfl⟩ := own_slice h2
  obtain ⟨A3, c3, rfl, h3x⟩ := h3
  obtain ⟨A4, c4, rfl, h4x⟩ := h4
  have HLO := Lib.hid (fun W => lastOf_any Ag gs.length cg hn400 W)
  generalize wordLen gs = n at *
  generalize allV vs gs s = z at *
  clear hok hs hn400 hfit hRx h3x h4x h2 hP hQ hv
  go_enter Try.func103, Try.ntmps103
  go_upto_region 3 with fail
  generalize (w.alloc (.cells #[.slice Ag gs.length cg, .slice A2 (lens gs).length c2, .slice A3 (mapsK nx gs gs.length).length c3, .int .i64 s, .slice A4 vs.length c4] 116)).alloc (.cells #[.func (.func 163) #[] #[.pointer (some ⟨w.heap.size, 0, none⟩), .pointer (some ⟨w.heap.size + 1, 0, none⟩)]] 202) = w2 at *
  have hq : w2.cell? ⟨w.heap.size + 1, 0, none⟩ = some (.func (.func 163) #[] #[.pointer (some ⟨w.heap.size, 0, none⟩), .pointer (some ⟨w.heap.size + 1, 0, none⟩)]) := hq
  have HLE := Lib.hid (fun m => HLD.out (w2.drewN m) (below_drewN (Below.refl _ w2) m))
  clear hb HLD
  go_quiet ((first
    | (go_at_call 135; exact Calls.quiet_of_same (HLO.out _))
    | (go_at_call 163; exact Calls.quiet_of_same (HLE.out _))))
  go_wp2_with fail
  go_ret
  exact ⟨rfl, below_drewN HB.out _⟩
set_option maxRecDepth 100000 in
set_option maxHeartbeats 3200000 in
theorem all_any (sv gv : Value) (gs : List Rl) (nx vs : List (List Int)) (s : Int) (lo : Nat) (w : World) (hok : gOk gs = true) (hr : Rules w gv gs) (hv : vs.length = gs.length) (hW : IsS w lo sv gv gs nx vs s) (hs : 0 ≤ s ∧ s < 24) :
    Calls Try.prog 90 #[sv] w fun e w' => e = .returned (.int .i64 (allV vs gs s)) ∧ Below w.heap.size w w' := by
  have HS := Lib.hid hW
  obtain ⟨lv, mv, vv, rfl, h2, h3, h4⟩ := hW
  have hb := (Below.refl _ w).alloc (Nat.le_refl _) (.cells #[gv, lv, mv, .int .i64 s, vv] 116)
  have hP := heap_alloc_new w (.cells #[gv, lv, mv, .int .i64 s, vv] 116)
  have hs0 : w.heap.size < (w.alloc (.cells #[gv, lv, mv, .int .i64 s, vv] 116)).heap.size := by simp
  have HW := Lib.hid (fun W (hb2 : Below w.heap.size w W) => within_any _ gv gs nx vs s lo W hok (hr.kept hb2) hv (HS.out.kept hb2) hs)
  have hwl : (lens gs).getD ((lens gs).length - 1) 0 = wordLen gs := by rw [lens_len]; rfl
  have HWL := Lib.hid (fun W (hb2 : Below w.heap.size w W) => wordLen_any lv (lens gs) (by rw [lens_len]; exact gOk_len hok) W ((IsL.of_own h2).kept hb2))
  rw [hwl] at HWL
  obtain ⟨p0, p1, p2, p3, p4⟩ := b5_cells (show B5 _ _ _ _ _ _ _ _ from hP)
  obtain ⟨Ag, cg, rfl, hRx⟩ := hr
  obtain ⟨A2, c2, rfl⟩ := own_slice h2
  obtain ⟨A3, c3, rfl, h3x⟩ := h3
  obtain ⟨A4, c4, rfl, h4x⟩ := h4
  have HB := Lib.hid hb
  generalize wordLen gs = n at *
  generalize allV vs gs s = z at *
  clear hok hs hRx h3x h4x h2 hP hwl HS hb hv
  go_enter Try.func90, Try.ntmps90
  go_upto_region 1 with fail
  generalize w.alloc (.cells #[.slice Ag gs.length cg, .slice A2 (lens gs).length c2, .slice A3 (mapsK nx gs gs.length).length c3, .int .i64 s, .slice A4 vs.length c4] 116) = w2 at *
  have HC := Lib.hid (And.intro p0 (And.intro p1 (And.intro p2 (And.intro p3 p4))))
  have HBW := Lib.hid HB.out
  go_region_held3 (fun w' => w'.cell? ⟨w.heap.size, 0, none⟩ = some (.slice Ag gs.length cg) ∧ w'.cell? ⟨w.heap.size, 1, none⟩ = some (.slice A2 (lens gs).length c2) ∧ w'.cell? ⟨w.heap.size, 2, none⟩ = some (.slice A3 (mapsK nx gs gs.length).length c3) ∧ w'.cell? ⟨w.heap.size, 3, none⟩ = some (.int .i64 s) ∧ w'.cell? ⟨w.heap.size, 4, none⟩ = some (.slice A4 vs.length c4))
    (first | (with_reducible exact HC.out) | (with_reducible exact HC9.out) | go_keep)
    (first
      | (go_at_call 102
         refine (HWL.out _ ?_).mono ?_
         (first | (with_reducible exact HBW.out) | (with_reducible exact below_drewN HBW.out 1) | exact below_drewN HBW.out _)
         rintro e w8 ⟨rfl, rfl⟩)
      | (go_at_call 103
         refine (HW.out _ ?_).mono ?_
         (first | (with_reducible exact HBW.out) | (with_reducible exact below_drewN HBW.out 1) | exact below_drewN HBW.out _)
         rintro e w9 ⟨rfl, hB9⟩
         have hB9 : Below w2.heap.size w2 w9 := by first | exact hB9 | exact below_undrew hB9
         have HC9 : Hid (w9.cell? ⟨w.heap.size, 0, none⟩ = some (.slice Ag gs.length cg) ∧ w9.cell? ⟨w.heap.size, 1, none⟩ = some (.slice A2 (lens gs).length c2) ∧ w9.cell? ⟨w.heap.size, 2, none⟩ = some (.slice A3 (mapsK nx gs gs.length).length c3) ∧ w9.cell? ⟨w.heap.size, 3, none⟩ = some (.int .i64 s) ∧ w9.cell? ⟨w.heap.size, 4, none⟩ = some (.slice A4 vs.length c4)) := Lib.hid ⟨(hB9.cell (lt_of_cell p0)).trans p0, (hB9.cell (lt_of_cell p1)).trans p1, (hB9.cell (lt_of_cell p2)).trans p2, (hB9.cell (lt_of_cell p3)).trans p3, (hB9.cell (lt_of_cell p4)).trans p4⟩
         have HB9 := Lib.hid (HB.out.trans (hB9.mono HB.out.size))
         clear hB9))
  all_goals
    go_wp2_with fail
    go_ret
    exact ⟨rfl, HB9.out⟩
end Go.Proofs.Ytaffachjopjbgaa
namespace Go.Proofs.Ytaffachjopjbgaa
open Go.RowKit
open Wd
set_option linter.unusedVariables false
namespace Wd
def rowF (f : Nat → Int) (N : Nat) : List Int := (List.range N).map f
def rowsF (u : Nat → Nat → Int) (n N : Nat) : List (List Int) := (List.range n).map fun j => rowF (u j) N
/-- how often each state is visited -/
def vcL (nx : List (List Int)) (gs : List Rl) (N go : Nat) : List Int := rowF (fun q => allV (visK (fun p => decide (p = (q : Int))) nx gs gs.length) gs (go : Int)) N
end Wd
theorem rowF_len (f : Nat → Int) (N : Nat) : (rowF f N).length = N := by simp [rowF]
theorem rowF_get {f : Nat → Int} {N k : Nat} (h : k < N) : (rowF f N)[k]? = some (f k) := by simp [rowF, h]
theorem rowF_congr {f g : Nat → Int} {N : Nat} (h : ∀ k, k < N → f k = g k) : rowF f N = rowF g N := by
  unfold rowF
  exact List.map_congr_left (fun k hk => h k (List.mem_range.1 hk))
theorem rowF_zero (N : Nat) : rowF (fun _ => 0) N = List.replicate N 0 := by
  apply List.ext_getElem?
  intro i
  by_cases h : i < N
  · rw [rowF_get h, List.getElem?_replicate, if_pos h]
  · rw [List.getElem?_eq_none (by rw [rowF_len]; omega), List.getElem?_eq_none (by simp; omega)]
theorem rowF_set {f : Nat → Int} {N k : Nat} {d : Int} (h : k < N) : (rowF f N).set k (f k + d) = rowF (upd1 f k d) N := by
  apply List.ext_getElem?
  intro i
  by_cases hi : i < N
  · rw [rowF_get hi]
    by_cases e : k = i
    · subst e
      rw [List.getElem?_set_self (by rw [rowF_len]; exact h), upd1_same]
    · rw [List.getElem?_set_ne e, rowF_get hi, upd1_ne f d (fun h => e h.symm)]
  · rw [List.getElem?_eq_none (by rw [List.length_set, rowF_len]; omega), List.getElem?_eq_none (by rw [rowF_len]; omega)]
theorem rowsF_len (u : Nat → Nat → Int) (n N : Nat) : (rowsF u n N).length = n := by simp [rowsF]
theorem rowsF_get {u : Nat → Nat → Int} {n N j : Nat} (h : j < n) : (rowsF u n N)[j]? = some (rowF (u j) N) := by simp [rowsF, h]
theorem rowsF_set {u : Nat → Nat → Int} {n N a t : Nat} {d : Int} (ha : a < n) (ht : t < N) : (rowsF u n N).set a ((rowF (u a) N).set t (u a t + d)) = rowsF (upd2 u a t d) n N := by
  apply List.ext_getElem?
  intro i
  by_cases hi : i < n
  · rw [rowsF_get hi]
    by_cases e : a = i
    · subst e
      rw [List.getElem?_set_self (by rw [rowsF_len]; exact ha), rowF_set ht]
      congr 1
      refine rowF_congr (fun k hk => ?_)
      unfold upd1 upd2
      simp
    · rw [List.getElem?_set_ne e, rowsF_get hi]
      congr 1
      refine rowF_congr (fun k hk => ?_)
      rw [upd2_ne u d (fun h => e h.1.symm)]
  · rw [List.getElem?_eq_none (by rw [List.length_set, rowsF_len]; omega), List.getElem?_eq_none (by rw [rowsF_len]; omega)]
theorem rowsF_snoc (u : Nat → Nat → Int) (k N : Nat) : rowsF u (k + 1) N = rowsF u k N ++ [rowF (u k) N] := by simp [rowsF, List.range_succ]
theorem vc_set {α : Type} (l : List α) (o : Nat) (v : α) (h : o < l.length) : l.take o ++ [v] ++ l.drop (o + 1) = l.set o v := by
  rw [List.set_eq_take_append_cons_drop, if_pos h, List.append_assoc]
  rfl
theorem vc_ivset (l : List Int) (o : Nat) (z : Int) : (iv l).set o (.int .i64 z) = iv (l.set o z) := by unfold iv; rw [List.map_set]
theorem row_store {w : World} {B e g c n : Nat} {zs : List Int} (h : w.ownsRow B e 1 (.slice (some ⟨g, 0, none⟩) n c) n (iv zs)) (k : Nat) (hk : k < zs.length) (z : Int) :
    (w.setCell ⟨g, k, none⟩ (.int .i64 z)).ownsRow B e 1 (.slice (some ⟨g, 0, none⟩) n c) n (iv (zs.set k z)) := by
  have h1 := own_setCells [.int .i64 z] k w _ h (by rw [iv_len]; simp; omega)
  simp only [List.length_cons, List.length_nil, Nat.zero_add] at h1
  rw [vc_set _ _ _ (by rw [iv_len]; exact hk), vc_ivset] at h1
  exact h1
/-- a table of counts and a row of sums, both the call's own -/
structure VM (w1 : World) (O B : Nat) (y : Value) (U : List Value) (n N : Nat) (u : Nat → Nat → Int) (o : Nat → Int) (wr : World) : Prop where
  m : OwnM wr B y U (rowsF u n N)
  out : wr.ownsRow O 2 1 (.slice (some ⟨O, 0, none⟩) N N) N (iv (rowF o N))
  lt : O < B
  below : Below O w1 wr
theorem VM.kept {w1 wr w' : World} {O B : Nat} {y : Value} {U : List Value} {n N : Nat} {u : Nat → Nat → Int} {o : Nat → Int} (h : VM w1 O B y U n N u o wr) (hO : O ≤ w1.heap.size) (hb : Below wr.heap.size wr w') : VM w1 O B y U n N u o w' :=
  ⟨h.m.kept hb, own_below h.out hb (Nat.le_refl _), h.lt, h.below.trans (hb.mono (by
    have := h.below.size
    omega))⟩
theorem VM.row {w1 wr : World} {O B : Nat} {y : Value} {U : List Value} {n N : Nat} {u : Nat → Nat → Int} {o : Nat → Int} (h : VM w1 O B y U n N u o wr) (hN : 0 < N) {a : Nat} (ha : a < n) :
    ∃ ga ca, U[a]? = some (.slice (some ⟨ga, 0, none⟩) N ca) ∧ B ≤ ga ∧ ga < wr.heap.size ∧ (∀ t, t < N → wr.cell? ⟨ga, t, none⟩ = some (.int .i64 (u a t))) ∧ (∀ t, wr.frozen? ⟨ga, t, none⟩ = false) ∧
      ∀ t d, t < N → VM w1 O B y U n N (upd2 u a t d) o (wr.setCell ⟨ga, t, none⟩ (.int .i64 (u a t + d))) := by
  have hl : U.length = n := by rw [h.m.len, rowsF_len]
  have hau : a < U.length := by omega
  have hr := h.m.rows.row a _ _ (List.getElem?_eq_getElem hau) (rowsF_get ha)
  have hr' := hr
  unfold OwnsI at hr
  rw [rowF_len] at hr
  obtain ⟨A, c, hs⟩ := own_slice hr
  rw [hs] at hr hr'
  obtain ⟨ga, hA, hg1, hg2⟩ := own_addr hr hN
  subst hA
  refine ⟨ga, c, by rw [List.getElem?_eq_getElem hau, hs], hg1, hg2, fun t ht => ?_, fun t => hr.frozenAt _, fun t d ht => ?_⟩
  · rw [hr.cellAt t (by omega)]
    unfold iv
    rw [List.getElem?_map, rowF_get ht]
    rfl
  · have hst := row_store hr t (by rw [rowF_len]; exact ht) (u a t + d)
    have hg : wr.grownBy (wr.setCell ⟨ga, t, none⟩ (.int .i64 (u a t + d))) (U[a]).ownBlock := by
      rw [hs]
      exact grownBy_set wr ⟨ga, t, none⟩ _
    have hne : y.ownBlock = none ∨ y.ownBlock ≠ (U[a]).ownBlock := by
      rcases h.m.ne _ (List.getElem_mem hau) with h1 | h1
      · rw [hs] at h1; simp [Value.ownBlock] at h1
      · exact .inr (fun e => h1 e.symm)
    refine ⟨⟨World.ownsRow.kept h.m.outer hg hne, ?_⟩, ?_, h.lt, h.below.setCell (by have := h.lt; show O ≤ ga; omega) _⟩
    · have := h.m.rows.mark (List.getElem?_eq_getElem hau) hg (zs := (rowF (u a) N).set t (u a t + d)) (by
        unfold OwnsI
        rw [List.length_set, rowF_len, hs]
        exact hst)
      rw [rowsF_set ha ht] at this
      exact this
    · exact World.ownsRow.kept h.out hg (.inr (by rw [hs]; simp [Value.ownBlock]; have := h.lt; omega))
theorem VM.sum {w1 wr : World} {O B : Nat} {y : Value} {U : List Value} {n N : Nat} {u : Nat → Nat → Int} {o : Nat → Int} (h : VM w1 O B y U n N u o wr) :
    (∀ t, t < N → wr.cell? ⟨O, t, none⟩ = some (.int .i64 (o t))) ∧ (∀ t, wr.frozen? ⟨O, t, none⟩ = false) ∧
      ∀ t d, t < N → VM w1 O B y U n N u (upd1 o t d) (wr.setCell ⟨O, t, none⟩ (.int .i64 (o t + d))) := by
  refine ⟨fun t ht => ?_, fun t => h.out.frozenAt _, fun t d ht => ?_⟩
  · rw [h.out.cellAt t (by omega)]
    unfold iv
    rw [List.getElem?_map, rowF_get ht]
    rfl
  · have hst := row_store h.out t (by rw [rowF_len]; exact ht) (o t + d)
    rw [rowF_set ht] at hst
    exact ⟨⟨own_setLow h.m.outer _ _ h.lt, h.m.rows.len, fun j u zs a b => own_setLow (h.m.rows.row j u zs a b) _ _ h.lt, h.m.rows.ne⟩, hst, h.lt, h.below.setCell (Nat.le_refl _) _⟩
theorem VM.outer {w1 wr : World} {O B : Nat} {y : Value} {U : List Value} {n N : Nat} {u : Nat → Nat → Int} {o : Nat → Int} (h : VM w1 O B y U n N u o wr) (hn : 0 < n) :
    ∃ gy cy, y = .slice (some ⟨gy, 0, none⟩) n cy ∧ B ≤ gy ∧ gy < wr.heap.size ∧ ∀ j v, U[j]? = some v → wr.cell? ⟨gy, j, none⟩ = some v := by
  have hl : U.length = n := by rw [h.m.len, rowsF_len]
  rcases h.m.shape with ⟨_, h0⟩ | ⟨g, c, hv, hg1, hg2⟩
  · rw [h0] at hl; simp at hl; omega
  · refine ⟨g, c, by rw [hv, hl], hg1, hg2, fun j v hj => ?_⟩
    have ho := h.m.outer
    rw [hv] at ho
    have := ho.cellAt j (by have := (List.getElem?_eq_some_iff.1 hj).1; omega)
    rw [this, hj]
theorem vcL_zero {nx : List (List Int)} {gs : List Rl} {N go : Nat} (h : gs.length = 0) : rowF (fun _ => 0) N = vcL nx gs N go := by
  unfold vcL
  refine rowF_congr (fun k hk => ?_)
  unfold allV
  rw [if_pos h]
theorem vcL_done {nx : List (List Int)} {gs : List Rl} {N go : Nat} {u : Nat → Nat → Int} {o : Nat → Int} (h : VcI nx gs N go 0 N u o) (h0 : 0 < gs.length) (hfit : fits gs = true) (hN : N ≤ 24) (hm : ∀ k t, k < gs.length → t < N → 0 ≤ at2 (mapsK nx gs gs.length) k t) : rowF o N = vcL nx gs N go := by
  unfold vcL
  refine rowF_congr (fun k hk => ?_)
  unfold allV
  rw [if_neg (by omega), Int.toNat_natCast]
  exact VcI.count h hfit hN hm hk
end Go.Proofs.Ytaffachjopjbgaa
namespace Go.Proofs.Ytaffachjopjbgaa
open Go.RowKit
open Wd
set_option linter.unusedVariables false
set_option maxRecDepth 100000 in
set_option maxHeartbeats 1600000 in
theorem has_any (v : Value) (zs : List Int) (n : Int) (w : World) (hl : zs.length ≤ 1048576) (h : IsL w v zs) :
    Calls Try.prog 106 #[v, .int .i64 n] w fun e w' => e = .returned (.bool (hasN zs n)) ∧ w' = w := by
  obtain ⟨A, c, rfl, hin⟩ := h
  have HI := Lib.hid hin
  obtain ⟨N, hN⟩ : ∃ N, N = zs.length := ⟨_, rfl⟩
  rw [← hN] at hl ⊢
  have HN := Lib.hid hN
  clear hin hN
  go_enter Try.func106, Try.ntmps106
  go_wp2_with fail
  go_loopw [5] (fun i wr => ∃ k : Nat, k ≤ N ∧ i = .int .i64 k ∧ (∀ j (hj : j < zs.length), j < k → zs[j] ≠ n) ∧ wr = w) (fun i _ => N - (intOf i).toNat)
  case atStart => exact ⟨0, Nat.zero_le _, rfl, fun j hj h => by omega, rfl⟩
  case round =>
    obtain ⟨k, hk, rfl, hall, rfl⟩ := hrel
    have HA := Lib.hid hall
    clear hall
    by_cases hlt : k < N
    · have hkg : k < zs.length := by rw [← HN.out]; exact hlt
      rcases HI.out with hn | ⟨x, rfl, hc⟩
      · rw [hn] at hkg; simp at hkg
      have c0 := hc k hkg
      by_cases he : zs[k] = n
      · have HT := Lib.hid (hasN_yes hkg he)
        rw [he] at c0
        clear hc hkg he
        go_wp2_with fail
        go_ret
        exact ⟨by rw [HT.out] <;> rfl, rfl⟩
      · have HNX : Hid (∀ j (hj : j < zs.length), j < k + 1 → zs[j] ≠ n) := Lib.hid (fun j hj hjk => by
          by_cases e : j = k
          · subst e; exact he
          · exact HA.out j hj (by omega))
        have hq : (zs[k] == n) = false := by simpa using he
        generalize zs[k] = z at *
        clear hc hkg he
        go_wp2_with fail
        go_roundw
        all_goals first | exact ⟨k + 1, by omega, by go_num, HNX.out, by first | rfl | trivial⟩ | ((repeat apply Exists.intro); exact ⟨⟨k + 1, by omega, by go_num, HNX.out, by first | rfl | trivial⟩, by first | rfl | trivial⟩) | (simp [intOf]; done) | (simp [intOf]; omega) | omega
    · obtain rfl : k = N := by omega
      have HT : Hid (hasN zs n = false) := Lib.hid (hasN_no fun j hj => HA.out j hj (by rw [HN.out]; exact hj))
      clear HA
      go_wp2_with fail
      go_ret
      exact ⟨by rw [HT.out] <;> rfl, rfl⟩
set_option maxRecDepth 100000 in
set_option maxHeartbeats 1600000 in
theorem indexI_any (v : Value) (zs : List Int) (n : Int) (w : World) (hl : zs.length ≤ 1048576) (h : IsL w v zs) :
    Calls Try.prog 204 #[v, .int .i64 n] w fun e w' => ∃ y, e = .returned (.int .i64 y) ∧ w' = w ∧ ((hasN zs n = false ∧ y = -1) ∨ (hasN zs n = true ∧ 0 ≤ y)) := by
  obtain ⟨A, c, rfl, hin⟩ := h
  have HI := Lib.hid hin
  obtain ⟨N, hN⟩ : ∃ N, N = zs.length := ⟨_, rfl⟩
  rw [← hN] at hl ⊢
  have HN := Lib.hid hN
  clear hin hN
  go_enter Try.func204, Try.ntmps204
  go_wp2_with fail
  go_loopw [8] (fun i wr => ∃ k : Nat, k ≤ N ∧ i = .int .i64 k ∧ (∀ j (hj : j < zs.length), j < k → zs[j] ≠ n) ∧ wr = w) (fun i _ => N - (intOf i).toNat)
  case atStart => exact ⟨0, Nat.zero_le _, rfl, fun j hj h => by omega, rfl⟩
  case round =>
    obtain ⟨k, hk, rfl, hall, rfl⟩ := hrel
    have HA := Lib.hid hall
    clear hall
    by_cases hlt : k < N
    · have hkg : k < zs.length := by rw [← HN.out]; exact hlt
      rcases HI.out with hn | ⟨x, rfl, hc⟩
      · rw [hn] at hkg; simp at hkg
      have c0 := hc k hkg
      by_cases he : zs[k] = n
      · have HT := Lib.hid (hasN_yes hkg he)
        rw [he] at c0
        clear hc hkg he
        go_wp2_with fail
        go_ret
        exact ⟨_, rfl, rfl, .inr ⟨HT.out, by omega⟩⟩
      · have HNX : Hid (∀ j (hj : j < zs.length), j < k + 1 → zs[j] ≠ n) := Lib.hid (fun j hj hjk => by
          by_cases e : j = k
          · subst e; exact he
          · exact HA.out j hj (by omega))
        have hq : (n == zs[k]) = false := by simpa using fun e => he (Eq.symm e)
        generalize zs[k] = z at *
        clear hc hkg he
        go_wp2_with fail
        go_roundw
        all_goals first | exact ⟨k + 1, by omega, by go_num, HNX.out, by first | rfl | trivial⟩ | ((repeat apply Exists.intro); exact ⟨⟨k + 1, by omega, by go_num, HNX.out, by first | rfl | trivial⟩, by first | rfl | trivial⟩) | (simp [intOf]; done) | (simp [intOf]; omega) | omega
    · obtain rfl : k = N := by omega
      have HT : Hid (hasN zs n = false) := Lib.hid (hasN_no fun j hj => HA.out j hj (by rw [HN.out]; exact hj))
      clear HA
      go_wp2_with fail
      go_ret
      exact ⟨_, rfl, rfl, .inl ⟨HT.out, rfl⟩⟩
theorem containsI_any (v : Value) (zs : List Int) (n : Int) (w : World) (hl : zs.length ≤ 1048576) (h : IsL w v zs) :
    Calls Try.prog 162 #[v, .int .i64 n] w fun e w' => e = .returned (.bool (hasN zs n)) ∧ w' = w := by
  have HX := Lib.hid (indexI_any v zs n w hl h)
  obtain ⟨A, c, rfl, _⟩ := h
  go_enter Try.func162, Try.ntmps162
  go_wp2_with fail
  refine HX.out.mono ?_
  rintro e w5 ⟨y, rfl, rfl, ⟨ha, rfl⟩ | ⟨ha, hy⟩⟩
  · have HA := Lib.hid ha
    clear ha
    go_wp2_with fail
    go_ret
    exact ⟨by rw [HA.out] <;> rfl, rfl⟩
  · have HA := Lib.hid ha
    have hd : decide (0 ≤ y) = true := decide_eq_true hy
    clear ha
    go_wp2_with fail
    go_ret
    exact ⟨by rw [HA.out] <;> first | rfl | (simp; done) | simp [hd], rfl⟩
theorem isFinal_any (c0 c1 f n : Value) (A A' : Option Addr) (a b a' b' : Nat) (hf : f = .slice A a b) (hn : n = .slice A' a' b') (i j : Int) (h0 : c0 = .int .i64 i) (h1 : c1 = .int .i64 j) (w : World) :
    Calls Try.prog 99 #[.agg #[c0, c1, f, n]] w fun e w' => e = .returned (.func (.func 161) #[] #[.pointer (some ⟨w.heap.size, 0, none⟩)]) ∧ w' = w.alloc (.cells #[c0, c1, f, n] 33) := by
  subst hf hn h0 h1
  have hmf : ∀ (fn : Fn) (first cap : Array Value) (w : World), (Instr.makeFunc fn first cap).run Try.prog w = .ok (.func fn first cap) w := fun _ _ _ _ => rfl
  go_enter Try.func99, Try.ntmps99
  go_wp2_with fail
  go_ret
  exact ⟨rfl, rfl⟩
theorem final_any (s : Int) (P : Nat) (c0 c1 f n : Value) (fin : List Int) (w : World) (hl : fin.length ≤ 1048576) (hP : B4 w P c0 c1 f n 33) (hF : IsL w f fin) :
    Calls Try.prog 161 #[.int .i64 s, .pointer (some ⟨P, 0, none⟩)] w fun e w' => e = .returned (.bool (hasN fin s)) ∧ w' = w := by
  have HC := Lib.hid (containsI_any f fin s w hl hF)
  obtain ⟨⟨p0, p1, p2, p3⟩, _⟩ := blk4_cells hP
  obtain ⟨A, c, rfl⟩ := hF.shape
  clear hP hF
  go_enter Try.func161, Try.ntmps161
  go_wp2_with fail
  refine HC.out.mono ?_
  rintro e w5 ⟨rfl, rfl⟩
  go_wp2_with fail
  go_ret
  exact ⟨rfl, rfl⟩
end Go.Proofs.Ytaffachjopjbgaa
namespace Go.Proofs.Ytaffachjopjbgaa
open Go.RowKit
open Wd
set_option linter.unusedVariables false
theorem vis_or {nx : List (List Int)} {st : Int} {gs : List Rl} (wa wb : Int → Bool) (hd : ∀ p, ¬ (wa p = true ∧ wb p = true)) (h : nx.all (rowOk st) = true) (hl : (nx.length : Int) = st) (h1 : 1 ≤ st) (h24 : st ≤ 24) (hfit : fits gs = true) : ∀ m k s, k < m → k < gs.length → s < 24 →
    at2 (visK (fun p => wa p || wb p) nx gs gs.length) k s = at2 (visK wa nx gs gs.length) k s + at2 (visK wb nx gs gs.length) k s
  | 0, k, s, hm, _, _ => by omega
  | m + 1, k, s, hm, hk, hs => by
    rcases rule_cases hfit hk with hz | ⟨hz, a, b, ha, hb, hak, hbk⟩
    · rw [vis_letter _ nx hk hz hs, vis_letter _ nx hk hz hs, vis_letter _ nx hk hz hs]
      have := hd (at2 (mapsK nx gs gs.length) k s)
      cases e1 : wa (at2 (mapsK nx gs gs.length) k s) <;> cases e2 : wb (at2 (mapsK nx gs gs.length) k s) <;> simp_all
    · have hmb := map_lt h hl h1 h24 hfit (show a < gs.length by omega) hs
      rw [vis_pair _ nx hk hz ha hb hak hbk hs, vis_pair _ nx hk hz ha hb hak hbk hs, vis_pair _ nx hk hz ha hb hak hbk hs, vis_or wa wb hd h hl h1 h24 hfit m a s (by omega) (by omega) hs, vis_or wa wb hd h hl h1 h24 hfit m b _ (by omega) (by omega) hmb]
      omega
theorem vis_none {nx : List (List Int)} {st : Int} {gs : List Rl} (h : nx.all (rowOk st) = true) (hl : (nx.length : Int) = st) (h1 : 1 ≤ st) (h24 : st ≤ 24) (hfit : fits gs = true) : ∀ m k s, k < m → k < gs.length → s < 24 →
    at2 (visK (fun _ => false) nx gs gs.length) k s = 0
  | 0, k, s, hm, _, _ => by omega
  | m + 1, k, s, hm, hk, hs => by
    rcases rule_cases hfit hk with hz | ⟨hz, a, b, ha, hb, hak, hbk⟩
    · rw [vis_letter _ nx hk hz hs]
      simp
    · have hmb := map_lt h hl h1 h24 hfit (show a < gs.length by omega) hs
      rw [vis_pair _ nx hk hz ha hb hak hbk hs, vis_none h hl h1 h24 hfit m a s (by omega) (by omega) hs, vis_none h hl h1 h24 hfit m b _ (by omega) (by omega) hmb]
      omega
namespace Wd
/-- what the first final states add up to -/
def caS (x : Au) (gs : List Rl) (i : Nat) : Int := allV (visK (fun p => hasN (x.fin.take i) p) x.nx gs gs.length) gs x.go + (if hasN (x.fin.take i) x.go = true then 1 else 0)
def caA (x : Au) (gs : List Rl) : Int × Int := if aOk x = true ∧ gOk gs = true then (allV (visK (fun p => hasN x.fin p) x.nx gs gs.length) gs x.go + (if hasN x.fin x.go = true then 1 else 0), 0) else (0, 1)
end Wd
theorem caS_zero {x : Au} {gs : List Rl} (ha : aOk x = true) (hok : gOk gs = true) : caS x gs 0 = 0 := by
  obtain ⟨⟨h1, h24⟩, hrow, hlen⟩ := aOk_parts ha
  have hgo : 0 ≤ x.go ∧ x.go < x.st := by
    unfold aOk at ha
    simp only [Bool.and_eq_true, decide_eq_true_iff] at ha
    have := ha.1.1.2
    omega
  unfold caS
  rw [List.take_zero]
  have e : (fun p => hasN [] p) = (fun _ => false) := by funext p; simp [hasN]
  rw [e, if_neg (by simp [hasN])]
  unfold allV
  split
  · rfl
  · rw [vis_none hrow hlen h1 h24 (gOk_iff.1 hok).2.1 gs.length _ _ (by omega) (by omega) (by omega)]
    rfl
theorem rises_new {lo hi : Int} {l : List Int} (h : risesL lo hi l = true) {i : Nat} (hi' : i < l.length) : hasN (l.take i) l[i] = false := by
  unfold risesL at h
  rw [decide_eq_true_iff] at h
  have mono : ∀ d a, a + d + 1 < l.length → l.getD a 0 < l.getD (a + d + 1) 0 := by
    intro d
    induction d with
    | zero =>
      intro a ha
      have := (h (a + 1) (by omega)).2 (by omega)
      simpa using this
    | succ d ih =>
      intro a ha
      have h1 := ih a (by omega)
      have h2 := (h (a + (d + 1) + 1) (by omega)).2 (by omega)
      have e : a + (d + 1) + 1 - 1 = a + d + 1 := by omega
      rw [e] at h2
      omega
  refine hasN_no (fun j hj e => ?_)
  have hji : j < i := by rw [List.length_take] at hj; omega
  have h2 := mono (i - j - 1) j (by omega)
  have e2 : j + (i - j - 1) + 1 = i := by omega
  rw [e2] at h2
  rw [List.getElem_take] at e
  rw [List.getD_eq_getElem?_getD, List.getD_eq_getElem?_getD, List.getElem?_eq_getElem hi', List.getElem?_eq_getElem (by omega), Option.getD_some, Option.getD_some] at h2
  omega
theorem hasN_snoc (l : List Int) (x p : Int) : hasN (l ++ [x]) p = (hasN l p || decide (p = x)) := by
  unfold hasN
  rw [Bool.eq_iff_iff]
  simp
theorem caS_next {x : Au} {gs : List Rl} (ha : aOk x = true) (hok : gOk gs = true) {i : Nat} (hi : i < x.fin.length) :
    caS x gs (i + 1) = caS x gs i + allV (visK (fun p => decide (p = x.fin[i])) x.nx gs gs.length) gs x.go + (if x.fin[i] = x.go then 1 else 0) := by
  obtain ⟨⟨h1, h24⟩, hrow, hlen⟩ := aOk_parts ha
  have hr : risesL 0 (x.st - 1) x.fin = true := by
    unfold aOk at ha
    simp only [Bool.and_eq_true] at ha
    exact ha.1.2
  have hgo : 0 ≤ x.go ∧ x.go < x.st := by
    unfold aOk at ha
    simp only [Bool.and_eq_true, decide_eq_true_iff] at ha
    have := ha.1.1.2
    omega
  have hnew := rises_new hr hi
  unfold caS
  rw [List.take_succ_eq_append_getElem hi]
  have e : (fun p => hasN (x.fin.take i ++ [x.fin[i]]) p) = (fun p => hasN (x.fin.take i) p || decide (p = x.fin[i])) := by funext p; exact hasN_snoc _ _ _
  rw [e, hasN_snoc]
  have hd : ∀ p, ¬ (hasN (x.fin.take i) p = true ∧ decide (p = x.fin[i]) = true) := by
    rintro p ⟨e1, e2⟩
    rw [decide_eq_true_iff] at e2
    rw [e2, hnew] at e1
    cases e1
  have hall : allV (visK (fun p => hasN (x.fin.take i) p || decide (p = x.fin[i])) x.nx gs gs.length) gs x.go = allV (visK (fun p => hasN (x.fin.take i) p) x.nx gs gs.length) gs x.go + allV (visK (fun p => decide (p = x.fin[i])) x.nx gs gs.length) gs x.go := by
    unfold allV
    split
    · rfl
    · exact vis_or (fun p => hasN (x.fin.take i) p) (fun p => decide (p = x.fin[i])) hd hrow hlen h1 h24 (gOk_iff.1 hok).2.1 gs.length _ _ (by omega) (by omega) (by omega)
  rw [hall]
  have hd2 := hd x.go
  cases e1 : hasN (x.fin.take i) x.go
  · simp only [Bool.false_or, decide_eq_true_eq, Bool.false_eq_true, if_false]
    split <;> split <;> omega
  · have e2 : ¬ x.go = x.fin[i] := fun e => hd2 ⟨e1, by simp [e]⟩
    simp only [Bool.true_or, if_true]
    split <;> omega
theorem caS_all {x : Au} {gs : List Rl} : caS x gs x.fin.length = allV (visK (fun p => hasN x.fin p) x.nx gs gs.length) gs x.go + (if hasN x.fin x.go = true then 1 else 0) := by
  unfold caS
  rw [List.take_length]
theorem all_bd {nx : List (List Int)} {st : Int} {gs : List Rl} (wa : Int → Bool) (h : nx.all (rowOk st) = true) (hl : (nx.length : Int) = st) (h1 : 1 ≤ st) (h24 : st ≤ 24) (hok : gOk gs = true) {s : Int} (hs : 0 ≤ s ∧ s < 24) :
    0 ≤ allV (visK wa nx gs gs.length) gs s ∧ allV (visK wa nx gs gs.length) gs s ≤ 1000000000000000 := by
  unfold allV
  split
  · omega
  · have hfit := (gOk_iff.1 hok).2.1
    have h2 := vis_fir wa h hl h1 h24 hfit gs.length (gs.length - 1) s.toNat (by omega) (by omega) (by omega)
    have h3 := (fnd_bd wa h hl h1 h24 hfit gs.length (gs.length - 1) s.toNat 0 (by omega) (by omega) (by omega)).1
    have h4 := small_at (gOk_iff.1 hok).2.2 (gs.length - 1) (by omega)
    omega
end Go.Proofs.Ytaffachjopjbgaa
namespace Go.Proofs.Ytaffachjopjbgaa
open Go.RowKit
open Wd
set_option linter.unusedVariables false
/-- the first visits of all rules, as wide as there are states -/
def firN (wa : Int → Bool) (nx : List (List Int)) (gs : List Rl) (N k : Nat) : List (List Int) := (firK wa nx gs k).map (·.take N)
theorem firN_len (wa : Int → Bool) (nx : List (List Int)) (gs : List Rl) (N k : Nat) : (firN wa nx gs N k).length = k := by unfold firN; rw [List.length_map, firK_len]
theorem firR_len (wa : Int → Bool) (ln : List Int) (ms vs : List (List Int)) (x : Rl) (m : List Int) : (firR wa ln ms vs x m).length = 24 := by simp [firR]
theorem firK_row (wa : Int → Bool) (nx : List (List Int)) (gs : List Rl) : ∀ k j, j < k → ((firK wa nx gs k).getD j []).length = 24
  | 0, j, h => by omega
  | k + 1, j, h => by
    by_cases e : j = k
    · rw [firK, getD_snoc_eq _ _ _ _ (by rw [firK_len]; exact e), firR_len]
    · rw [firK, getD_snoc_lt _ _ _ _ (by rw [firK_len]; omega)]
      exact firK_row wa nx gs k j (by omega)
theorem firN_get {wa : Int → Bool} {nx : List (List Int)} {gs : List Rl} {N k j s : Nat} (h : j < k) (hs : s < N) (hN : N ≤ 24) : ∃ h1 : j < (firN wa nx gs N k).length, ∃ h2 : s < (firN wa nx gs N k)[j].length, (firN wa nx gs N k)[j].length = N ∧ (firN wa nx gs N k)[j][s] = at2 (firK wa nx gs k) j s := by
  have hj : j < (firK wa nx gs k).length := by rw [firK_len]; exact h
  have hr := firK_row wa nx gs k j h
  have he : (firK wa nx gs k).getD j [] = (firK wa nx gs k)[j] := by rw [List.getD_eq_getElem?_getD, List.getElem?_eq_getElem hj]; rfl
  rw [he] at hr
  have hl : ((firK wa nx gs k)[j].take N).length = N := by rw [List.length_take, hr]; omega
  refine ⟨by rw [firN_len]; exact h, by unfold firN; rw [List.getElem_map, hl]; exact hs, by unfold firN; rw [List.getElem_map, hl], ?_⟩
  unfold at2
  rw [he, List.getD_eq_getElem?_getD, List.getElem?_eq_getElem (by omega), Option.getD_some]
  simp only [firN, List.getElem_map, List.getElem_take]
theorem mapsN_at {nx : List (List Int)} {gs : List Rl} {N k j s : Nat} (h : j < k) (hs : s < N) (hr : ((mapsK nx gs k).getD j []).length = 24) (hN : N ≤ 24) : ∃ h1 : j < (mapsN nx gs N k).length, ∃ h2 : s < (mapsN nx gs N k)[j].length, (mapsN nx gs N k)[j].length = N ∧ (mapsN nx gs N k)[j][s] = at2 (mapsK nx gs k) j s := by
  have hj : j < (mapsK nx gs k).length := by rw [mapsK_len]; exact h
  have he : (mapsK nx gs k).getD j [] = (mapsK nx gs k)[j] := by rw [List.getD_eq_getElem?_getD, List.getElem?_eq_getElem hj]; rfl
  rw [he] at hr
  have hl : ((mapsK nx gs k)[j].take N).length = N := by rw [List.length_take, hr]; omega
  refine ⟨by rw [mapsN_len]; exact h, by unfold mapsN; rw [List.getElem_map, hl]; exact hs, by unfold mapsN; rw [List.getElem_map, hl], ?_⟩
  unfold at2
  rw [he, List.getD_eq_getElem?_getD, List.getElem?_eq_getElem (by omega), Option.getD_some]
  simp only [mapsN, List.getElem_map, List.getElem_take]
/-- the cells of a table's entry -/
theorem ll_get {w : World} {v : Value} {Z : List (List Int)} (h : IsLL w v Z) {j s : Nat} (hj : j < Z.length) (hs : s < Z[j].length) : ∃ a x c c2, v = .slice (some a) Z.length c ∧ w.cell? (a.add j) = some (.slice (some x) Z[j].length c2) ∧ w.cell? (x.add s) = some (.int .i64 Z[j][s]) := by
  obtain ⟨A, c, rfl, h0 | ⟨a, rfl, hc⟩⟩ := h
  · rw [h0] at hj; simp at hj
  · obtain ⟨u, h1, h2⟩ := hc j hj
    obtain ⟨A2, c2, rfl, h0 | ⟨x, rfl, hx⟩⟩ := h2
    · rw [h0] at hs; simp at hs
    · exact ⟨a, x, c, c2, rfl, h1, hx s hs⟩
/-- between two states of a rule: besides, the copy of the rule -/
def FvIn (w : World) (y : Value) (U : List Value) (Z : List (List Int)) (B : Nat) (row : List Int) (Kp : Nat) (x : Rl) (s : Nat) (tv : Value) (wr : World) : Prop :=
  InS w y U Z B row s tv wr ∧ wr.heap[Kp]? = some (.cells #[.string x.L, .int .i64 x.l, .int .i64 x.r] 127 (0, 0))
theorem FvIn.drewN {w wr : World} {y tv : Value} {U : List Value} {Z : List (List Int)} {B Kp s : Nat} {row : List Int} {x : Rl} (h : FvIn w y U Z B row Kp x s tv wr) (m : Nat) : FvIn w y U Z B row Kp x s tv (wr.drewN m) :=
  ⟨h.1.kept (below_drewN (Below.refl _ _) m), h.2⟩
theorem FvIn.append {w wr w5 : World} {y tv tv' : Value} {U : List Value} {Z : List (List Int)} {B Kp s : Nat} {row : List Int} {x : Rl} {o : Obj} {z : Int} (h : FvIn w y U Z B row Kp x s tv wr) (hwB : w.heap.size ≤ B)
    (hU : ∀ u ∈ U, ∀ q, u.ownBlock = some q → q < B) (hy : ∀ q, y.ownBlock = some q → q < B) (hs : s < row.length) (hK : B = Kp + 1) (hz : row[s] = z)
    (hown : w5.ownsRow B 2 1 tv' (s + 1) (iv (row.take s) ++ [.int .i64 z])) (hg : (wr.alloc o).grownBy w5 tv.ownBlock) : FvIn w y U Z B row Kp x (s + 1) tv' w5 := by
  subst hz
  have hlt : Kp < wr.heap.size := by have := h.1.2.2.2; omega
  refine ⟨InS.append h.1 hwB hU hy hs hown hg, ?_⟩
  rw [hg.block Kp (by simp; omega) (fun e => by have := (h.1.2.1.lt Kp e.symm).1; omega), ((Below.refl _ wr).alloc (Nat.le_refl _) o).block Kp hlt]
  exact h.2
theorem rule3_cells {w : World} {R : Nat} {t : TypeId} {a b c : Value} (h : w.heap[R]? = some (.cells #[a, b, c] t (0, 0))) :
    w.cell? ⟨R, 0, none⟩ = some a ∧ w.cell? ⟨R, 1, none⟩ = some b ∧ w.cell? ⟨R, 2, none⟩ = some c := by
  have key : ∀ o, w.cell? ⟨R, o, none⟩ = (#[a, b, c] : Array Value)[o]? := fun o => by simp [World.cell?, h]
  exact ⟨by rw [key]; rfl, by rw [key]; rfl, by rw [key]; rfl⟩
set_option maxRecDepth 100000 in
set_option maxHeartbeats 12800000 in
theorem l04First_any (nv : Value) (nx : List (List Int)) (st t : Int) (pg lo : Nat) (lv : Value) (gs : List Rl) (w : World) (h1 : 1 ≤ st) (h24 : st ≤ 24) (hrow : nx.all (rowOk st) = true) (hlen : (nx.length : Int) = st) (hN : IsLL w nv nx) (hok : gOk gs = true) (hg : GP w pg gs) (hl : OwnsI w lo lv (lens gs)) :
    Calls Try.prog 82 #[nv, .pointer (some ⟨pg, 0, none⟩), lv, .int .i64 t] w fun e w' => ∃ y, e = .returned y ∧ IsLL w' y (firN (fun q => decide (q = t)) nx gs nx.length gs.length) ∧ Below w.heap.size w w' := by
  obtain ⟨i0, hi, hz0, hz1, hz2⟩ := info_parts Try.info_ints
  obtain ⟨j0, hj, hy0, hy1, hy2⟩ := info_parts Try.info_int64
  have hfit := (gOk_iff.1 hok).2.1
  have hn := gOk_len hok
  have HMA := Lib.hid (l04Maps_any nv nx st pg gs w h1 h24 hrow hlen hN hfit hn hg)
  have HGP := Lib.hid hg
  have HLV := Lib.hid (IsL.of_own hl)
  have HSM := Lib.hid (fun j (hj : j < gs.length) => small_at (gOk_iff.1 hok).2.2 j hj)
  obtain ⟨gv, hgv, Av, cv, rfl, hrc⟩ := hg
  obtain ⟨A, c, rfl, _⟩ := hN
  obtain ⟨Al, cl, rfl⟩ := own_slice hl
  have HRC := Lib.hid hrc
  have HGV := Lib.hid hgv
  have HROW := Lib.hid hrow
  have HLEN := Lib.hid hlen
  have HFIT := Lib.hid hfit
  obtain ⟨N, hNe⟩ : ∃ N, N = nx.length := ⟨_, rfl⟩
  obtain ⟨n, hne⟩ : ∃ n, n = gs.length := ⟨_, rfl⟩
  have hNst : (N : Int) = st := by omega
  have hN24 : N ≤ 24 := by omega
  rw [← hNe, ← hne] at HMA ⊢
  rw [← hne] at hn hgv
  rw [lens_len, ← hne] at HLV ⊢
  have HN := Lib.hid hNe
  have HNE := Lib.hid hne
  have HNST := Lib.hid hNst
  obtain ⟨wa, hwa⟩ : ∃ wa : Int → Bool, wa = fun q => decide (q = t) := ⟨_, rfl⟩
  rw [← hwa]
  have HWA := Lib.hid hwa
  clear hrc hrow hlen hfit hNe hne hNst hok hl hwa
  go_enter Try.func82, Try.ntmps82
  go_wp2_with fail
  refine HMA.out.mono ?_
  rintro e w1 ⟨ym, Um, rfl, hm1, hB1⟩
  have HB1 := Lib.hid hB1
  have HM1 := Lib.hid hm1.isLL
  have HGV1 := Lib.hid ((hB1.cell (lt_of_cell hgv)).trans hgv)
  obtain ⟨Am, cm, hym⟩ := own_slice hm1.outer
  rw [hm1.len, mapsN_len] at hym
  subst hym
  have HS := Lib.hid (MSt.start w1 _ rfl)
  clear hB1 hm1 HMA
  go_wp2_with fail
  go_loopw [10, 11] (fun y i wr => ∃ k : Nat, k ≤ n ∧ i = .int .i64 k ∧ MSt w1 (firN wa nx gs N k) y wr) (fun _ i _ => n - (intOf i).toNat)
  case atStart => exact ⟨0, Nat.zero_le _, rfl, HS.out⟩
  case round =>
    obtain ⟨k, hk, rfl, hst⟩ := hrel
    obtain ⟨wo, rfl⟩ : ∃ wo : World, wo = wr := ⟨_, rfl⟩
    obtain ⟨U, hm, hB⟩ := hst
    have HM := Lib.hid (And.intro hm hB)
    have hlenU := hm.len
    rw [firN_len] at hlenU
    obtain ⟨Ay, cy, hAy⟩ := own_slice hm.outer
    rw [hlenU] at hAy
    subst hAy
    have HLU := Lib.hid hlenU
    have hgo := (hB.cell (lt_of_cell HGV1.out)).trans HGV1.out
    clear hgv hlenU
    by_cases hkn : k < n
    · have hkg : k < gs.length := by rw [← HNE.out]; exact hkn
      rcases HRC.out with hn0 | ⟨g, rfl, hg, hc⟩
      · rw [hn0] at hkg; simp at hkg
      obtain ⟨a0, a1, a2⟩ := rules_cells hc hkg
      have hBw := HB1.out.trans (hB.mono HB1.out.size)
      rw [← hBw.cell (p := ⟨g, k * 3, none⟩) hg] at a0
      rw [← hBw.cell (p := ⟨g, k * 3 + 1, none⟩) hg] at a1
      rw [← hBw.cell (p := ⟨g, k * 3 + 2, none⟩) hg] at a2
      obtain ⟨row, hrw⟩ : ∃ row, row = firR wa (lens gs) (mapsK nx gs k) (firK wa nx gs k) gs[k] ((mapsK nx gs (k + 1)).getD k []) := ⟨_, rfl⟩
      have hnx : firN wa nx gs N (k + 1) = firN wa nx gs N k ++ [row.take N] := by
        unfold firN
        rw [firK, List.map_append, List.getD_eq_getElem?_getD (l := gs), List.getElem?_eq_getElem hkg, hrw]
        rfl
      have hr24 : row.length = 24 := by rw [hrw, firR_len]
      have hrow : ∀ q (hq : q < 24), row[q]'(by omega) = at2 (firK wa nx gs (k + 1)) k q := fun q hq => by
        unfold at2
        rw [firK, getD_snoc_eq _ _ _ _ (firK_len wa nx gs k).symm, List.getD_eq_getElem?_getD (l := gs), List.getElem?_eq_getElem hkg, Option.getD_some, ← hrw, List.getD_eq_getElem?_getD, List.getElem?_eq_getElem (by omega)]
        rfl
      have HNX := Lib.hid hnx
      have HROWV := Lib.hid hrow
      generalize hx : gs[k] = x at *
      have hx' : gs[k] = x := hx
      have HXE := Lib.hid hx'
      have hfk := fits_at HFIT.out k hkg
      rw [hx'] at hfk
      have HFK := Lib.hid hfk
      obtain ⟨L, l, r⟩ := x
      simp only at a0 a1 a2
      have hbk := (Below.refl _ wo).alloc (Nat.le_refl _) (.cells #[.string L, .int .i64 l, .int .i64 r] 127)
      have hKn := heap_alloc_new wo (.cells #[.string L, .int .i64 l, .int .i64 r] 127)
      have hB' : (wo.alloc (.cells #[.string L, .int .i64 l, .int .i64 r] 127)).heap.size = wo.heap.size + 1 := by simp
      obtain ⟨wk, hwk⟩ : ∃ wk, wk = wo.alloc (.cells #[.string L, .int .i64 l, .int .i64 r] 127) := ⟨_, rfl⟩
      have HWK := Lib.hid hwk
      rw [← hwk] at hbk hKn hB'
      have HSTB : Hid (FvIn w1 (.slice Ay k cy) U (firN wa nx gs N k) wk.heap.size row wo.heap.size ⟨L, l, r⟩ 0 (.slice (some ⟨wk.heap.size, 0, none⟩) 0 0) (wk.alloc (.cells #[] 2))) := Lib.hid
        ⟨⟨(hm.kept hbk).kept ((Below.refl _ wk).alloc (Nat.le_refl _) _), World.ownsRow_lit (base := wk.heap.size) (e := 2) (size := 1) wk #[] 0 (Nat.le_refl _) (by decide) rfl, (hB.trans (hbk.mono hB.size)).alloc (Nat.le_trans hB.size hbk.size) _, by simp⟩, by
          rw [((Below.refl _ wk).alloc (Nat.le_refl _) (.cells #[] 2)).block wo.heap.size (by omega)]
          exact hKn⟩
      have HUB := Lib.hid (fun (u : Value) hu q (hq : u.ownBlock = some q) => show q < wk.heap.size from by have := (hm.rows.ge u hu q hq).2; omega)
      have HYB := Lib.hid (fun q (hq : (Value.slice Ay k cy).ownBlock = some q) => show q < wk.heap.size from by have := (hm.outer.lt q hq).2; omega)
      have HWB : Hid (w1.heap.size ≤ wk.heap.size) := Lib.hid (Nat.le_trans hB.size hbk.size)
      obtain ⟨B, hBe⟩ : ∃ B, B = wk.heap.size := ⟨_, rfl⟩
      obtain ⟨Kp, hKp⟩ : ∃ Kp, Kp = wo.heap.size := ⟨_, rfl⟩
      rw [← hBe, ← hKp] at HSTB
      rw [← hBe] at HUB HYB HWB hB'
      rw [← hKp] at hB'
      have HKB := Lib.hid hB'
      clear hm hB hbk hKn hc hBw hrow hfk hx hx' hnx hrw
      go_wp2_with fail
      rw [hwk] at HSTB
      rw [← hKp]
      rw [← hB']
      clear hBe hgo a0 a1 a2 hwk hB' hKp
      go_loopw [13, 14] (fun tv i wr => ∃ s : Nat, s ≤ N ∧ i = .int .i64 s ∧ FvIn w1 (.slice Ay k cy) U (firN wa nx gs N k) B row Kp ⟨L, l, r⟩ s tv wr) (fun _ i _ => N - (intOf i).toNat)
      case atStart => exact ⟨0, Nat.zero_le _, rfl, HSTB.out⟩
      case round =>
        obtain ⟨s, hs, rfl, hst⟩ := hrel
        obtain ⟨wu, rfl⟩ : ∃ wu : World, wu = wr := ⟨_, rfl⟩
        obtain ⟨A3, c3, hA3⟩ := own_slice hst.1.2.1
        by_cases hsN : s < N
        · rw [List.length_take, Nat.min_eq_left (by omega)] at hA3
          subst hA3
          have hs24 : s < 24 := by omega
          obtain ⟨kc0, kc1, kc2⟩ := rule3_cells hst.2
          have hBu := hst.1.2.2.1
          have HMu := HM1.out.kept hBu
          have HFu := hst.1.1.isLL
          have HLu := HLV.out.kept (HB1.out.trans (hBu.mono HB1.out.size))
          have hBB : B ≤ wu.heap.size := hst.1.2.2.2
          have HO : Hid (wu.ownsRow B 2 1 (.slice A3 s c3) s (iv (row.take s))) := Lib.hid (by
            have := hst.1.2.1
            unfold OwnsI at this
            rw [List.length_take, Nat.min_eq_left (by omega)] at this
            exact this)
          have HST := Lib.hid hst
          have hzr : row[s]'(by omega) = at2 (firK wa nx gs gs.length) k s := by rw [HROWV.out s hs24, ← firK_at wa nx gs k s gs.length hkg]
          have hmr := (mapsK_ok HROW.out HLEN.out h1 h24 HFIT.out n (by rw [← HNE.out]; omega) k hkn).1
          have k0 : (0 : Int) ≤ (k : Int) := by omega
          have k1 : (k : Int) < (n : Int) := by omega
          have s0 : (0 : Int) ≤ (s : Int) := by omega
          have s1 : (s : Int) < (N : Int) := by omega
          clear hst hBu
          by_cases h0 : L.size = 0
          · have hp := (ok_pair h0).1 HFK.out
            have he := empty_arr h0
            simp only at hp he
            have hxe := HXE.out
            clear h0
            subst he
            obtain ⟨a, rfl⟩ : ∃ a : Nat, l = a := ⟨l.toNat, by omega⟩
            obtain ⟨b, rfl⟩ : ∃ b : Nat, r = b := ⟨r.toNat, by omega⟩
            have ha : a < k := by omega
            have hb : b < k := by omega
            have hfp := fir_pair wa nx hkg (by rw [hxe]; rfl) (show gs[k].l = (a : Int) by rw [hxe]) (show gs[k].r = (b : Int) by rw [hxe]) ha hb hs24
            rw [hfp] at hzr
            have hma := (mapsK_ok HROW.out HLEN.out h1 h24 HFIT.out gs.length (Nat.le_refl _) a (by omega))
            have hqb := map_lt HROW.out HLEN.out h1 h24 HFIT.out (k := a) (s := s) (by omega) hs24
            have hq0 : 0 ≤ at2 (mapsK nx gs gs.length) a s ∧ at2 (mapsK nx gs gs.length) a s < (N : Int) := by
              unfold at2
              rw [List.getD_eq_getElem?_getD (i := s), List.getElem?_eq_getElem (by rw [hma.1]; omega), Option.getD_some]
              have := hma.2 _ (List.getElem_mem (show s < ((mapsK nx gs gs.length).getD a []).length by rw [hma.1]; omega))
              have := HNST.out
              omega
            have bda := fir_bd wa HROW.out HLEN.out h1 h24 HFIT.out (a + 1) a s (by omega) (by omega) hs24
            have bdb := fir_bd wa HROW.out HLEN.out h1 h24 HFIT.out (b + 1) b (at2 (mapsK nx gs gs.length) a s).toNat (by omega) (by omega) hqb
            have la := HSM.out a (by omega)
            have lb := HSM.out b (by omega)
            have lp := lens_pos (gs := gs) (k := a) (by omega) (fun j hj _ => fits_at HFIT.out j hj)
            obtain ⟨q, hq⟩ : ∃ q : Nat, at2 (mapsK nx gs gs.length) a s = q := ⟨(at2 (mapsK nx gs gs.length) a s).toNat, by omega⟩
            rw [hq, Int.toNat_natCast] at hzr bdb
            have hqN : q < N := by omega
            obtain ⟨m1, m2, m3, m4⟩ := mapsN_at (nx := nx) (gs := gs) (N := N) (k := n) (j := a) (s := s) (by omega) hsN (mapsK_ok HROW.out HLEN.out h1 h24 HFIT.out n (by rw [← HNE.out]; omega) a (by omega)).1 hN24
            replace m4 := m4.trans (mapsK_at nx gs a s (show a < n by omega) (show a < gs.length by omega))
            rw [hq] at m4
            obtain ⟨am, xm, cm1, cm2, hvm, g0, g1⟩ := ll_get HMu m1 m2
            rw [m3] at g0
            rw [m4] at g1
            obtain ⟨o1, o2, o3, o4⟩ := firN_get (wa := wa) (nx := nx) (gs := gs) (N := N) (k := k) (j := a) (s := s) ha hsN hN24
            rw [firK_at wa nx gs a s k ha, ← firK_at wa nx gs a s gs.length (by omega)] at o4
            obtain ⟨ay, xa, cy1, cy2, hvy, e0, e1⟩ := ll_get HFu o1 o2
            rw [o3] at e0
            rw [o4] at e1
            obtain ⟨r1, r2, r3, r4⟩ := firN_get (wa := wa) (nx := nx) (gs := gs) (N := N) (k := k) (j := b) (s := q) hb hqN hN24
            rw [firK_at wa nx gs b q k hb, ← firK_at wa nx gs b q gs.length (by omega)] at r4
            obtain ⟨ay2, xb, cy3, cy4, hvy2, f0, f1⟩ := ll_get HFu r1 r2
            rw [r3] at f0
            rw [r4] at f1
            obtain ⟨Al2, cl2, hvl, hl0 | ⟨xl, hAl, hlc⟩⟩ := HLu
            · have := lens_len gs; rw [hl0] at this; simp at this; omega
            have l0 := hlc a (by rw [lens_len]; omega)
            have hle : (lens gs)[a]'(by rw [lens_len]; omega) = (lens gs).getD a 0 := by rw [List.getD_eq_getElem?_getD, List.getElem?_eq_getElem (by rw [lens_len]; omega)]; rfl
            rw [hle] at l0
            injection hvm with hvm hx1 hx2
            clear hx1 hx2
            injection hvy with hvy hx1 hx2
            clear hx1 hx2
            injection hvy2 with hvy2 hx1 hx2
            clear hx1 hx2
            injection hvl with hvl hx1 hx2
            clear hx1 hx2
            subst hvm
            rw [hvy] at hvy2
            injection hvy2 with hvy2
            subst hvy2
            subst hvy
            rw [hAl] at hvl
            subst hvl
            generalize at2 (firK wa nx gs gs.length) a s = p at *
            generalize at2 (firK wa nx gs gs.length) b q = m at *
            generalize (lens gs).getD a 0 = la' at *
            generalize (lens gs).getD b 0 = lb' at *
            have a0' : (0 : Int) ≤ (a : Int) := by omega
            have a1' : (a : Int) < (k : Int) := by omega
            have a2' : (a : Int) < (n : Int) := by omega
            have b0' : (0 : Int) ≤ (b : Int) := by omega
            have b1' : (b : Int) < (k : Int) := by omega
            have q0' : (0 : Int) ≤ (q : Int) := by omega
            have q1' : (q : Int) < (N : Int) := by omega
            have hws : IntKind.i64.wrap (la' + m) = la' + m := IntWalk.i64_in _ (by omega)
            have HLL := Lib.hid l0
            clear hp hxe hfp hma hqb hq0 hq m1 m2 m3 m4 o1 o2 o3 o4 r1 r2 r3 r4 hle hlc HMu HFu hmr lp bda la lb
            go_upto_region 16 with fail
            go_quiet ((fail))
            have HST := Lib.hid (FvIn.drewN HST.out nq)
            have HO : Hid ((wu.drewN nq).ownsRow B 2 1 (.slice A3 s c3) s (iv (row.take s))) := Lib.hid HO.out
            have kc1 : (wu.drewN nq).cell? ⟨Kp, 1, none⟩ = some (.int .i64 (a : Int)) := kc1
            have l0 : (wu.drewN nq).cell? (xl.add a) = some (.int .i64 la') := HLL.out
            have hBB : B ≤ (wu.drewN nq).heap.size := hBB
            clear kc0 kc2 g0 g1 e0 e1 f0 f1 HLL
            generalize wu.drewN nq = wv at *
            by_cases hp0 : p < 0
            · have hd1 : decide (p < 0) = true := decide_eq_true hp0
              by_cases hm0 : 0 ≤ m
              · have hd2 : decide (0 ≤ m) = true := decide_eq_true hm0
                rw [if_pos ⟨hp0, hm0⟩] at hzr
                have HZ := Lib.hid hzr
                clear hzr hp0 hm0
                go_wp2_with (first | (at_builtin; refine wpList_append_own _ rfl _ _ 22 rfl B 2 j0 (.int .i64 0) 1 8 Try.underlying22 hj hy0 hy1 hy2 rfl (by decide) _ _ _ rfl (World.ownsRow.alloc HO.out _) ⟨wv.heap.size, 0, none⟩ 1 1 [.int .i64 (la' + m)] rfl rfl (one_new _ _ _) (one_int _ _) (by unfold maxLen; omega) (by omega) (by simp; omega) ?_))
                intro v' w5 hown' hgr _
                have HN5 := Lib.hid (FvIn.append HST.out HWB.out HUB.out HYB.out (by omega) HKB.out HZ.out hown' hgr)
                clear hown' hgr
                go_wp2_with fail
                go_roundw
                all_goals first | exact ⟨s + 1, by omega, by go_num, HN5.out⟩ | ((repeat apply Exists.intro); exact ⟨⟨s + 1, by omega, by go_num, HN5.out⟩, rfl⟩) | (simp [intOf]; done) | (simp [intOf]; omega) | omega
              · have hd2 : decide (0 ≤ m) = false := decide_eq_false hm0
                rw [if_neg (fun h => hm0 h.2)] at hzr
                have HZ := Lib.hid hzr
                clear hzr hp0 hm0
                go_wp2_with (first | (at_builtin; refine wpList_append_own _ rfl _ _ 22 rfl B 2 j0 (.int .i64 0) 1 8 Try.underlying22 hj hy0 hy1 hy2 rfl (by decide) _ _ _ rfl (World.ownsRow.alloc HO.out _) ⟨wv.heap.size, 0, none⟩ 1 1 [.int .i64 p] rfl rfl (one_new _ _ _) (one_int _ _) (by unfold maxLen; omega) (by omega) (by simp; omega) ?_))
                intro v' w5 hown' hgr _
                have HN5 := Lib.hid (FvIn.append HST.out HWB.out HUB.out HYB.out (by omega) HKB.out HZ.out hown' hgr)
                clear hown' hgr
                go_wp2_with fail
                go_roundw
                all_goals first | exact ⟨s + 1, by omega, by go_num, HN5.out⟩ | ((repeat apply Exists.intro); exact ⟨⟨s + 1, by omega, by go_num, HN5.out⟩, rfl⟩) | (simp [intOf]; done) | (simp [intOf]; omega) | omega
            · have hd1 : decide (p < 0) = false := decide_eq_false hp0
              rw [if_neg (fun h => hp0 h.1)] at hzr
              have HZ := Lib.hid hzr
              clear hzr hp0
              go_wp2_with (first | (at_builtin; refine wpList_append_own _ rfl _ _ 22 rfl B 2 j0 (.int .i64 0) 1 8 Try.underlying22 hj hy0 hy1 hy2 rfl (by decide) _ _ _ rfl (World.ownsRow.alloc HO.out _) ⟨wv.heap.size, 0, none⟩ 1 1 [.int .i64 p] rfl rfl (one_new _ _ _) (one_int _ _) (by unfold maxLen; omega) (by omega) (by simp; omega) ?_))
              intro v' w5 hown' hgr _
              have HN5 := Lib.hid (FvIn.append HST.out HWB.out HUB.out HYB.out (by omega) HKB.out HZ.out hown' hgr)
              clear hown' hgr
              go_wp2_with fail
              go_roundw
              all_goals first | exact ⟨s + 1, by omega, by go_num, HN5.out⟩ | ((repeat apply Exists.intro); exact ⟨⟨s + 1, by omega, by go_num, HN5.out⟩, rfl⟩) | (simp [intOf]; done) | (simp [intOf]; omega) | omega
          · obtain ⟨b, hL, _, _, _⟩ := letter_byte h0 HFK.out
            simp only at hL
            have hfl := fir_letter wa nx hkg (show gs[k].L.size ≠ 0 by rw [HXE.out]; exact h0) hs24
            rw [hfl] at hzr
            obtain ⟨m1, m2, m3, m4⟩ := mapsN_at (nx := nx) (gs := gs) (N := N) (k := n) (j := k) (s := s) hkn hsN hmr hN24
            obtain ⟨am, xm, cm1, cm2, hvm, g0, g1⟩ := ll_get HMu m1 m2
            rw [m3] at g0
            rw [m4.trans (mapsK_at nx gs k s hkn hkg)] at g1
            injection hvm with hvm hx1 hx2
            clear hx1 hx2
            subst hvm
            have hne := full_list h0
            rw [hL] at hne
            subst hL
            rw [HWA.out] at hzr
            simp only [decide_eq_true_eq] at hzr
            clear h0 hfl m1 m2 m3 m4 hne
            generalize at2 (mapsK nx gs gs.length) k s = q at *
            clear HMu HFu HLu hmr
            by_cases hqt : q = t
            · have hd1 : (q == t) = true := by simp [hqt]
              rw [if_pos hqt] at hzr
              have HZ := Lib.hid hzr
              subst hqt
              clear hzr
              go_wp2_with (first | (at_builtin; refine wpList_append_own _ rfl _ _ 22 rfl B 2 j0 (.int .i64 0) 1 8 Try.underlying22 hj hy0 hy1 hy2 rfl (by decide) _ _ _ rfl (World.ownsRow.alloc HO.out _) ⟨wu.heap.size, 0, none⟩ 1 1 [.int .i64 1] rfl rfl (one_new _ _ _) (one_int _ _) (by unfold maxLen; omega) (by omega) (by simp; omega) ?_))
              intro v' w5 hown' hgr _
              have HN5 := Lib.hid (FvIn.append HST.out HWB.out HUB.out HYB.out (by omega) HKB.out HZ.out hown' hgr)
              clear hown' hgr
              go_wp2_with fail
              go_roundw
              all_goals first | exact ⟨s + 1, by omega, by go_num, HN5.out⟩ | ((repeat apply Exists.intro); exact ⟨⟨s + 1, by omega, by go_num, HN5.out⟩, rfl⟩) | (simp [intOf]; done) | (simp [intOf]; omega) | omega
            · have hd1 : (q == t) = false := by simp [hqt]
              rw [if_neg hqt] at hzr
              have HZ := Lib.hid hzr
              clear hzr
              go_wp2_with (first | (at_builtin; refine wpList_append_own _ rfl _ _ 22 rfl B 2 j0 (.int .i64 0) 1 8 Try.underlying22 hj hy0 hy1 hy2 rfl (by decide) _ _ _ rfl (World.ownsRow.alloc HO.out _) ⟨wu.heap.size, 0, none⟩ 1 1 [.int .i64 (-1)] rfl rfl (one_new _ _ _) (one_int _ _) (by unfold maxLen; omega) (by omega) (by simp; omega) ?_))
              intro v' w5 hown' hgr _
              have HN5 := Lib.hid (FvIn.append HST.out HWB.out HUB.out HYB.out (by omega) HKB.out HZ.out hown' hgr)
              clear hown' hgr
              go_wp2_with fail
              go_roundw
              all_goals first | exact ⟨s + 1, by omega, by go_num, HN5.out⟩ | ((repeat apply Exists.intro); exact ⟨⟨s + 1, by omega, by go_num, HN5.out⟩, rfl⟩) | (simp [intOf]; done) | (simp [intOf]; omega) | omega
        · obtain rfl : s = N := by omega
          rw [List.length_take, Nat.min_eq_left (by omega)] at hA3
          subst hA3
          have hws : w1.heap.size ≤ wu.heap.size := hst.1.2.2.1.size
          have HIS := Lib.hid hst.1
          have HFR : Hid (∀ q ∈ U, q.ownBlock = none ∨ q.ownBlock ≠ (Value.slice A3 s c3).ownBlock) := Lib.hid (fun q hq => by
            cases e : q.ownBlock with
            | none => exact .inl rfl
            | some g => exact .inr fun e' => by have h1 := HUB.out q hq g e; have h2 := (hst.1.2.1.lt g e'.symm).1; omega)
          have HOU : Hid (∀ o, (wu.alloc o).ownsRow w1.heap.size 22 1 (.slice Ay k cy) k U) := Lib.hid (fun o => by
            have := hst.1.1.outer
            rw [HLU.out] at this
            exact this.alloc o)
          clear hst
          go_wp2_with (first | (at_builtin; refine wpList_append_own _ rfl _ _ 23 rfl w1.heap.size 22 i0 (.slice none 0 0) 1 24 Try.underlying23 hi hz0 hz1 hz2 rfl (by decide) _ _ _ rfl (HOU.out _) ⟨wu.heap.size, 0, none⟩ 1 1 [.slice A3 s c3] rfl rfl (one_new _ _ _) (one_slice _ _ _) (by unfold maxLen; omega) (by omega) (by simp; omega) ?_))
          intro y' w6 hown hg6 _
          have HST6 : Hid (MSt w1 (firN wa nx gs s (k + 1)) y' w6) := Lib.hid (by
            rw [HNX.out]
            refine ⟨U ++ [.slice A3 s c3], HIS.out.1.snoc (own_lower HIS.out.2.1 HWB.out) HFR.out (by rw [HLU.out]; exact hown) hg6, ?_⟩
            exact (HIS.out.2.2.1.alloc hws _).grown hg6 (by simp; omega) (fun q hq => (HIS.out.1.outer.lt q hq).1))
          clear hown hg6
          go_wp2_with fail
          go_roundw
          all_goals first | exact ⟨k + 1, by omega, by go_num, HST6.out⟩ | ((repeat apply Exists.intro); exact ⟨⟨k + 1, by omega, by go_num, HST6.out⟩, rfl⟩) | (simp [intOf]; done) | (simp [intOf]; omega) | omega
    · obtain rfl : k = n := by omega
      have HLL := Lib.hid hm.isLL
      clear hm hB
      go_wp2_with fail
      go_ret
      exact ⟨_, rfl, HLL.out, HB1.out.trans (HM.out.2.mono HB1.out.size)⟩
end Go.Proofs.Ytaffachjopjbgaa
namespace Go.Proofs.Ytaffachjopjbgaa
open Go.RowKit
open Wd
set_option linter.unusedVariables false
/-- behind some rules: nothing is met yet, or what is met -/
def VJ (nx : List (List Int)) (gs : List Rl) (N go n k : Nat) (u : Nat → Nat → Int) (o : Nat → Int) : Prop :=
  (k = n ∧ u = (fun _ _ => 0) ∧ o = (fun _ => 0)) ∨ (k < n ∧ VcI nx gs N go k N u o)
set_option maxRecDepth 100000 in
set_option maxHeartbeats 25600000 in
theorem l04Visits_any (nv : Value) (nx : List (List Int)) (st : Int) (go pg : Nat) (gs : List Rl) (w : World) (h1 : 1 ≤ st) (h24 : st ≤ 24) (hrow : nx.all (rowOk st) = true) (hlen : (nx.length : Int) = st) (hN : IsLL w nv nx) (hok : gOk gs = true) (hg : GP w pg gs) (hgo : go < nx.length) :
    Calls Try.prog 98 #[nv, .pointer (some ⟨pg, 0, none⟩), .int .i64 (go : Int)] w fun e w' => ∃ y, e = .returned y ∧ OwnsI w' w.heap.size y (vcL nx gs nx.length go) ∧ Below w.heap.size w w' := by
  obtain ⟨i0, hi, hz0, hz1, hz2⟩ := info_parts Try.info_ints
  obtain ⟨j0, hj, hy0, hy1, hy2⟩ := info_parts Try.info_int64
  have hfit := (gOk_iff.1 hok).2.1
  have hn := gOk_len hok
  have hsm := fun j (hj : j < gs.length) => small_at (gOk_iff.1 hok).2.2 j hj
  have HMA := Lib.hid (l04Maps_any nv nx st pg gs w h1 h24 hrow hlen hN hfit hn hg)
  obtain ⟨gv, hgv, Av, cv, rfl, hrc⟩ := hg
  obtain ⟨A, c, rfl, _⟩ := hN
  have HRC := Lib.hid hrc
  have HGV := Lib.hid hgv
  have HROW := Lib.hid hrow
  have HLEN := Lib.hid hlen
  have HFIT := Lib.hid hfit
  have HSM := Lib.hid hsm
  have HMAP := Lib.hid (fun k t (hk : k < gs.length) (ht : t < 24) => (show 0 ≤ at2 (mapsK nx gs gs.length) k t ∧ at2 (mapsK nx gs gs.length) k t < st from by
    have hma := mapsK_ok hrow hlen h1 h24 hfit gs.length (Nat.le_refl _) k hk
    unfold at2
    rw [List.getD_eq_getElem?_getD (i := t), List.getElem?_eq_getElem (by rw [hma.1]; omega), Option.getD_some]
    exact hma.2 _ (List.getElem_mem (show t < ((mapsK nx gs gs.length).getD k []).length by rw [hma.1]; omega))))
  obtain ⟨N, hNe⟩ : ∃ N, N = nx.length := ⟨_, rfl⟩
  obtain ⟨n, hne⟩ : ∃ n, n = gs.length := ⟨_, rfl⟩
  have hNst : (N : Int) = st := by omega
  have hN24 : N ≤ 24 := by omega
  have hN0 : 0 < N := by omega
  rw [← hNe, ← hne] at HMA
  rw [← hNe]
  rw [← hne] at hn hgv
  rw [← hNe] at hgo
  have HN := Lib.hid hNe
  have HNE := Lib.hid hne
  have HNST := Lib.hid hNst
  have HGO := Lib.hid hgo
  clear hrc hrow hlen hfit hNe hne hNst hok hsm
  go_enter Try.func98, Try.ntmps98
  go_wp2_with fail
  refine HMA.out.mono ?_
  rintro e w1 ⟨ym, Um, rfl, hm1, hB1⟩
  have HB1 := Lib.hid hB1
  have HM1 := Lib.hid hm1.isLL
  have HGV1 := Lib.hid ((hB1.cell (lt_of_cell hgv)).trans hgv)
  obtain ⟨Am, cm, hym⟩ := own_slice hm1.outer
  rw [hm1.len, mapsN_len] at hym
  subst hym
  clear hB1 hm1 HMA hgv
  go_wp2_with (refine wpList_make_full _ rfl _ _ 22 rfl w1.heap.size 2 j0 (.int .i64 0) 1 Try.underlying22 hj hy0 hy1 .i64 .i64 _ _ N rfl rfl rfl rfl (by rw [hy2]; omega) (by unfold maxLen; omega) (Nat.le_refl _) ?_)
  intro w2 hown hgr
  have hown : w2.ownsRow w1.heap.size 2 1 (.slice (some ⟨w1.heap.size, 0, none⟩) N N) N (iv (rowF (fun _ => 0) N)) := by rw [rowF_zero, ← made_i64, ← Nat.mul_one N]; simpa using hown
  have HOUT := Lib.hid hown
  have HB2 := Lib.hid (below_of_grown hgr)
  have HOL : Hid (w1.heap.size < w2.heap.size) := Lib.hid (hown.lt _ rfl).2
  have HSTB := Lib.hid (MSt.start w2 _ rfl)
  clear hown hgr
  go_wp2_with fail
  go_loopw [9, 10] (fun y i wr => ∃ k : Nat, k ≤ n ∧ i = .int .i64 k ∧ MSt w2 (rowsF (fun _ _ => 0) k N) y wr) (fun _ i _ => n - (intOf i).toNat)
  case atStart => exact ⟨0, Nat.zero_le _, rfl, HSTB.out⟩
  case round =>
    obtain ⟨k, hk, rfl, U, hm, hB⟩ := hrel
    obtain ⟨wo, rfl⟩ : ∃ wo : World, wo = wr := ⟨_, rfl⟩
    have hB12 := HB2.out.trans (hB.mono HB2.out.size)
    have hgo' := (hB12.cell (lt_of_cell HGV1.out)).trans HGV1.out
    have hlU : U.length = k := by rw [hm.len, rowsF_len]
    obtain ⟨Ay, cy, hAy⟩ := own_slice hm.outer
    rw [hlU] at hAy
    subst hAy
    by_cases hkn : k < n
    · have HM := Lib.hid (And.intro hm hB)
      have HLU := Lib.hid hlU
      have HNX : Hid (rowsF (fun _ _ => (0 : Int)) (k + 1) N = rowsF (fun _ _ => 0) k N ++ [rowF (fun _ => 0) N]) := Lib.hid (rowsF_snoc _ _ _)
      have hws : w2.heap.size ≤ wo.heap.size := hB.size
      clear hm hB hlU hB12
      go_wp2_with (first | (refine wpList_make_full _ rfl _ _ 22 rfl wo.heap.size 2 j0 (.int .i64 0) 1 Try.underlying22 hj hy0 hy1 .i64 .i64 _ _ N rfl rfl rfl rfl (by rw [hy2]; omega) (by unfold maxLen; omega) (Nat.le_refl _) ?_))
      intro w5 hown hgr
      have hown : w5.ownsRow wo.heap.size 2 1 (.slice (some ⟨wo.heap.size, 0, none⟩) N N) N (iv (rowF (fun _ => 0) N)) := by rw [rowF_zero, ← made_i64, ← Nat.mul_one N]; simpa using hown
      have HU5 : Hid (OwnsI w5 wo.heap.size (.slice (some ⟨wo.heap.size, 0, none⟩) N N) (rowF (fun _ => 0) N)) := Lib.hid (by unfold OwnsI; rw [rowF_len]; exact hown)
      have HB5 := Lib.hid (below_of_grown hgr)
      have hs5 : wo.heap.size ≤ w5.heap.size := (below_of_grown hgr).size
      have HOU : Hid (∀ o, (w5.alloc o).ownsRow w2.heap.size 22 1 (.slice Ay k cy) k U) := Lib.hid (fun o => by
        have := (HM.out.1.kept HB5.out).outer
        rw [HLU.out] at this
        exact this.alloc o)
      clear hown hgr
      go_wp2_with (first | (at_builtin; refine wpList_append_own _ rfl _ _ 23 rfl w2.heap.size 22 i0 (.slice none 0 0) 1 24 Try.underlying23 hi hz0 hz1 hz2 rfl (by decide) _ _ _ rfl (HOU.out _) ⟨w5.heap.size, 0, none⟩ 1 1 [.slice (some ⟨wo.heap.size, 0, none⟩) N N] rfl rfl (one_new _ _ _) (one_slice _ _ _) (by unfold maxLen; omega) (by omega) (by simp; omega) ?_))
      intro y' w6 hown' hg6 _
      have HST6 : Hid (MSt w2 (rowsF (fun _ _ => 0) (k + 1) N) y' w6) := Lib.hid (by
        rw [HNX.out]
        exact MSt.append HM.out HB5.out HU5.out (by rw [HLU.out]; exact hown') hg6)
      clear hown' hg6
      go_wp2_with fail
      go_roundw
      all_goals first | exact ⟨k + 1, by omega, by go_num, HST6.out⟩ | ((repeat apply Exists.intro); exact ⟨⟨k + 1, by omega, by go_num, HST6.out⟩, rfl⟩) | (simp [intOf]; done) | (simp [intOf]; omega) | omega
    · obtain rfl : k = n := by omega
      have hUB := fun (u : Value) hu q (hq : u.ownBlock = some q) => (hm.rows.ge u hu q hq)
      have HUB := Lib.hid (fun (u : Value) hu q (hq : u.ownBlock = some q) => (hm.rows.ge u hu q hq).2)
      have HYB := Lib.hid (fun q (hq : (Value.slice Ay k cy).ownBlock = some q) => (hm.outer.lt q hq).2)
      have HVM : Hid (VM w1 w1.heap.size w2.heap.size (.slice Ay k cy) U k N (fun _ _ => 0) (fun _ => 0) wo) := Lib.hid ⟨hm, own_below HOUT.out hB (Nat.le_refl _), HOL.out, hB12⟩
      have HVMS := Lib.hid hB12.size
      obtain ⟨BB, hBB⟩ : ∃ BB, BB = wo.heap.size := ⟨_, rfl⟩
      rw [← hBB] at HUB HYB HVMS
      have HBB := Lib.hid hBB
      have HVST : Hid (∃ m : Nat, m ≤ k ∧ (.int .i64 ((k : Int) - 1) : Value) = .int .i64 ((m : Int) - 1) ∧ ∃ u o, VM w1 w1.heap.size w2.heap.size (.slice Ay k cy) U k N u o wo ∧ VJ nx gs N go k m u o ∧ BB ≤ wo.heap.size) := Lib.hid ⟨k, Nat.le_refl _, rfl, _, _, HVM.out, .inl ⟨rfl, rfl, rfl⟩, by omega⟩
      have hwk : IntKind.i64.wrap ((k : Int) - 1) = (k : Int) - 1 := by rw [IntKind.wrap_i64]; omega
      clear hm hB hUB hlU hBB
      go_wp2_with fail
      clear hgo' hB12
      go_loopw [11] (fun v wr => ∃ m : Nat, m ≤ k ∧ v = .int .i64 ((m : Int) - 1) ∧ ∃ u o, VM w1 w1.heap.size w2.heap.size (.slice Ay k cy) U k N u o wr ∧ VJ nx gs N go k m u o ∧ BB ≤ wr.heap.size) (fun v _ => (intOf v + 1).toNat)
      case atStart => exact HVST.out
      case round =>
        obtain ⟨m, hmk, rfl, u, o, hvm, hvj, hbb⟩ := hrel
        obtain ⟨wo, rfl⟩ : ∃ wo : World, wo = wr := ⟨_, rfl⟩
        have HV := Lib.hid hvm
        have hgo' := (hvm.below.cell (lt_of_cell HGV1.out)).trans HGV1.out
        have HBBW := Lib.hid hbb
        by_cases hm0 : 0 < m
        · obtain ⟨j, rfl⟩ : ∃ j, m = j + 1 := ⟨m - 1, by omega⟩
          have hjj : ((j + 1 : Nat) : Int) - 1 = (j : Int) := by omega
          rw [hjj]
          have hjg : j < gs.length := by rw [← HNE.out]; omega
          have hjk : j < k := by omega
          have hk0 : 0 < k := by omega
          have j0' : (0 : Int) ≤ (j : Int) := by omega
          have j1' : (j : Int) < (k : Int) := by omega
          have hwj : IntKind.i64.wrap ((j : Int) - 1) = (j : Int) - 1 := by rw [IntKind.wrap_i64]; omega
          rcases HRC.out with hn0 | ⟨g, rfl, hgl, hc⟩
          · rw [hn0] at hjg; simp at hjg
          obtain ⟨a0, a1, a2⟩ := rules_cells hc hjg
          obtain ⟨gy, cy2, hy, hgy1, hgy2, hgyc⟩ := hvm.outer hk0
          obtain ⟨gj, cj, hUj, hgj1, hgj2, hgjc, hgjf, hgjs⟩ := hvm.row hN0 hjk
          have e0 := hgyc j _ hUj
          injection hy with hy1' hy2' hy3'
          subst hy1' hy3'
          clear hy2'
          have HHG := Lib.hid (fun W (hb : Below w1.heap.size w1 W) => And.intro ((hb.cell (p := ⟨g, j * 3, none⟩) (by have := HB1.out.size; simp only; omega)).trans ((HB1.out.cell (p := ⟨g, j * 3, none⟩) hgl).trans a0)) (And.intro ((hb.cell (p := ⟨g, j * 3 + 1, none⟩) (by have := HB1.out.size; simp only; omega)).trans ((HB1.out.cell (p := ⟨g, j * 3 + 1, none⟩) hgl).trans a1)) ((hb.cell (p := ⟨g, j * 3 + 2, none⟩) (by have := HB1.out.size; simp only; omega)).trans ((HB1.out.cell (p := ⟨g, j * 3 + 2, none⟩) hgl).trans a2))))
          clear hc a0 a1 a2 hvm
          go_upto_if 54 with fail
          go_cut [11] (fun s11 wx => s11 = .int .i64 (j : Int) ∧ ∃ u5 o5, VM w1 w1.heap.size w2.heap.size (.slice (some ⟨gy, 0, none⟩) k cy) U k N u5 o5 wx ∧ VcI nx gs N go j 0 u5 o5 ∧ BB ≤ wx.heap.size)
          case first =>
            by_cases hlast : j + 1 = k
            · have hwk1 : ((j : Int) == (k : Int) - 1) = true := by simp; omega
              obtain ⟨_, hu0, ho0⟩ : j + 1 = k ∧ u = (fun _ _ => 0) ∧ o = (fun _ => 0) := by
                rcases hvj with h | h
                · exact h
                · omega
              have HVC : Hid (VcI nx gs N go j 0 (upd2 u j go 1) o) := Lib.hid (by
                have := VcI.start (nx := nx) (gs := gs) (N := N) (go := go) HGO.out
                rw [show gs.length - 1 = j from by rw [← HNE.out]; omega] at this
                rw [hu0, ho0]
                exact this)
              have e1 := hgjc go HGO.out
              have e2 := hgjf go
              have hw1 : IntKind.i64.wrap (u j go + 1) = u j go + 1 := by rw [hu0]; rfl
              have HVM5 : Hid (VM w1 w1.heap.size w2.heap.size (.slice (some ⟨gy, 0, none⟩) k cy) U k N (upd2 u j go 1) o (wo.setCell ⟨gj, go, none⟩ (.int .i64 (u j go + 1)))) := Lib.hid (hgjs go 1 HGO.out)
              have hbb5 : Hid (BB ≤ (wo.setCell ⟨gj, go, none⟩ (.int .i64 (u j go + 1))).heap.size) := Lib.hid (by simp; exact hbb)
              have g0' : (0 : Int) ≤ (go : Int) := by omega
              have g1' : (go : Int) < (N : Int) := by have := HGO.out; omega
              clear hvj hu0 ho0 hgjs hgjc hgjf hgyc
              generalize u j go = uj at *
              go_wp2_with fail
              go_meet
              first | exact ⟨rfl, _, _, HVM5.out, HVC.out, hbb5.out⟩ | exact ⟨_, _, HVM5.out, HVC.out, hbb5.out⟩
            · have hwk1 : ((j : Int) == (k : Int) - 1) = false := by simp; omega
              have HVC : Hid (VcI nx gs N go j 0 u o) := Lib.hid (by
                rcases hvj with h | h
                · omega
                · exact VcI.down h.2)
              have hbb5 : Hid (BB ≤ wo.heap.size) := Lib.hid hbb
              clear hvj hgjs hgjc hgjf hgyc
              go_wp2_with fail
              go_meet
              first | exact ⟨rfl, _, _, HV.out, HVC.out, hbb5.out⟩ | exact ⟨_, _, HV.out, HVC.out, hbb5.out⟩
          case rest =>
            obtain ⟨rfl, u5, o5, hvm5, hvc5, hbb5⟩ := hcut
            obtain ⟨w5, rfl⟩ : ∃ w5 : World, w5 = wc := ⟨_, rfl⟩
            have HVM5 := Lib.hid hvm5
            have HVC := Lib.hid hvc5
            clear hvm5 hvc5 hvj hgjs hgjc hgjf hgyc e0 hgo' HV HBBW hbb
            obtain ⟨b0, b1, b2⟩ := HHG.out w5 HVM5.out.below
            have hgo5 := (HVM5.out.below.cell (lt_of_cell HGV1.out)).trans HGV1.out
            have HFK := Lib.hid (fits_at HFIT.out j hjg)
            have HXE : Hid (gs.getD j ⟨ByteArray.empty, 0, 0⟩ = gs[j]) := Lib.hid (getD_rl hjg)
            generalize gs[j] = x at *
            obtain ⟨RL, rl, rr⟩ := x
            simp only at b0 b1 b2
            have hbk := (Below.refl _ w5).alloc (Nat.le_refl _) (.cells #[.string RL, .int .i64 rl, .int .i64 rr] 127)
            have HKP : Hid ((w5.alloc (.cells #[.string RL, .int .i64 rl, .int .i64 rr] 127)).heap[w5.heap.size]? = some (.cells #[.string RL, .int .i64 rl, .int .i64 rr] 127 (0, 0))) := Lib.hid (heap_alloc_new w5 (.cells #[.string RL, .int .i64 rl, .int .i64 rr] 127))
            have HV7 := Lib.hid (HVM5.out.kept (Nat.le_refl _) hbk)
            have HK7 : Hid (BB ≤ w5.heap.size) := Lib.hid hbb5
            have HS7 : Hid (BB ≤ (w5.alloc (.cells #[.string RL, .int .i64 rl, .int .i64 rr] 127)).heap.size) := Lib.hid (by simp; omega)
            clear hbk
            obtain ⟨Kp, hKp⟩ : ∃ Kp, Kp = w5.heap.size := ⟨_, rfl⟩
            rw [← hKp] at HKP HK7
            go_wp2_with fail
            rw [← hKp]
            clear b0 b1 b2 hgo5 hKp
            go_loopw [13] (fun v wr => ∃ t : Nat, t ≤ N ∧ v = .int .i64 t ∧ ∃ u o, VM w1 w1.heap.size w2.heap.size (.slice (some ⟨gy, 0, none⟩) k cy) U k N u o wr ∧ VcI nx gs N go j t u o ∧ wr.heap[Kp]? = some (.cells #[.string RL, .int .i64 rl, .int .i64 rr] 127 (0, 0)) ∧ BB ≤ wr.heap.size) (fun v _ => N - (intOf v).toNat)
            case atStart => exact ⟨0, Nat.zero_le _, rfl, _, _, HV7.out, HVC.out, HKP.out, HS7.out⟩
            case round =>
              obtain ⟨t, ht, rfl, u, o, hvm, hvc, hkp, hbb⟩ := hrel
              obtain ⟨wu, rfl⟩ : ∃ wu : World, wu = wr := ⟨_, rfl⟩
              by_cases htN : t < N
              · obtain ⟨gy', cy', hy, hgy1, hgy2, hgyc⟩ := hvm.outer hk0
                obtain ⟨gj, cj, hUj, hgj1, hgj2, hgjc, hgjf, hgjs⟩ := hvm.row hN0 hjk
                have e0 := hgyc j _ hUj
                have e1 := hgjc t htN
                injection hy with hy1' hy2' hy3'
                injection hy1' with hy1'
                injection hy1' with hy1'
                subst hy1' hy3'
                clear hy2'
                obtain ⟨kc0, kc1, kc2⟩ := rule3_cells hkp
                have HBU := Lib.hid hvm.below
                have hMU := HM1.out.kept hvm.below
                have HVU := Lib.hid hvm
                have HKU := Lib.hid hkp
                have HSU := Lib.hid hbb
                have t0 : (0 : Int) ≤ (t : Int) := by omega
                have t1 : (t : Int) < (N : Int) := by omega
                have hKB : ∀ (v : Value) (q : Nat), v ∈ U → v.ownBlock = some q → q ≠ Kp := fun v q hv hq => by have h8 := HUB.out v hv q hq; have h9 := HK7.out; omega
                have hnn := hvc.1 j t
                by_cases h0 : RL.size = 0
                · have hp := (ok_pair h0).1 HFK.out
                  simp only at hp
                  have he := empty_arr h0
                  obtain ⟨a, ha⟩ : ∃ a : Nat, rl = a := ⟨rl.toNat, by omega⟩
                  obtain ⟨b, hb⟩ : ∃ b : Nat, rr = b := ⟨rr.toNat, by omega⟩
                  subst ha hb
                  have haj : a < j := by omega
                  have hbj : b < j := by omega
                  have hqm := HMAP.out a t (by omega) (by omega)
                  obtain ⟨q, hq⟩ : ∃ q : Nat, at2 (mapsK nx gs gs.length) a t = q := ⟨(at2 (mapsK nx gs gs.length) a t).toNat, by omega⟩
                  have hqa : qAt nx gs a t = q := by unfold qAt; rw [hq]; rfl
                  have hqN : q < N := by have := HNST.out; omega
                  have hnext := VcI.pair (a := a) (b := b) hvc hjg htN (by rw [hqa]; exact hqN) (by rw [HXE.out]; exact h0) (by rw [HXE.out]) (by rw [HXE.out]) haj hbj
                  rw [hqa] at hnext
                  by_cases hz : u j t = 0
                  · rw [hz] at e1
                    have hNX : Hid (∃ t' : Nat, t' ≤ N ∧ (.int .i64 ((t : Int) + 1) : Value) = .int .i64 t' ∧ ∃ u o, VM w1 w1.heap.size w2.heap.size (.slice (some ⟨gy, 0, none⟩) k cy) U k N u o wu ∧ VcI nx gs N go j t' u o ∧ wu.heap[Kp]? = some (.cells #[.string RL, .int .i64 (a : Int), .int .i64 (b : Int)] 127 (0, 0)) ∧ BB ≤ wu.heap.size) := Lib.hid ⟨t + 1, by omega, by simp, u, o, hvm, by rw [hz, upd2_zero, upd2_zero] at hnext; exact hnext, hkp, hbb⟩
                    clear hvm hvc hkp hbb hnext hgjs hgjc hgjf hgyc hMU hz hq hqa hqm hp
                    go_wp2_with fail
                    go_roundw
                    all_goals first | exact hNX.out | ((repeat apply Exists.intro); exact ⟨hNX.out, rfl⟩) | (simp [intOf]; done) | (simp [intOf]; omega) | omega
                  · -- the two stores
                    obtain ⟨m1, m2, m3, m4⟩ := mapsN_at (nx := nx) (gs := gs) (N := N) (k := k) (j := a) (s := t) (by omega) htN (mapsK_ok HROW.out HLEN.out h1 h24 HFIT.out k (by rw [← HNE.out]; omega) a (by omega)).1 hN24
                    replace m4 := m4.trans (mapsK_at nx gs a t (show a < k by omega) (show a < gs.length by omega))
                    rw [hq] at m4
                    obtain ⟨am, xm, cm1, cm2, hvm', g0, g1⟩ := ll_get hMU m1 m2
                    rw [m3] at g0
                    rw [m4] at g1
                    injection hvm' with hvm' hx1 hx2
                    clear hx1 hx2
                    subst hvm'
                    have lam : (am.add a).block < w1.heap.size := by
                      obtain ⟨a', x', c1', c2', hv9, g9, g8⟩ := ll_get HM1.out m1 m2
                      injection hv9 with hv9
                      injection hv9 with hv9
                      have h8 : (am.add a).block < w1.heap.size := by rw [hv9]; exact lt_of_cell g9
                      exact h8
                    have lxm : (xm.add t).block < w1.heap.size := by
                      obtain ⟨a', x', c1', c2', hv9, g9, g8⟩ := ll_get HM1.out m1 m2
                      injection hv9 with hv9
                      injection hv9 with hv9
                      subst hv9
                      rw [m3] at g9
                      have h9 := (HBU.out.cell (lt_of_cell g9)).trans g9
                      rw [g0] at h9
                      injection h9 with h9
                      injection h9 with h9
                      injection h9 with h9
                      have h8 : (xm.add t).block < w1.heap.size := by rw [h9]; exact lt_of_cell g8
                      exact h8
                    obtain ⟨ga, ca, hUa, hga1, hga2, hgac, hgaf, hgas⟩ := hvm.row hN0 (show a < k by omega)
                    have f0 := hgyc a _ hUa
                    have f1 := hgac t htN
                    have f2 := hgaf t
                    have hVM1 := hgas t (u j t) htN
                    have hVM1d : VM w1 w1.heap.size w2.heap.size (.slice (some ⟨gy, 0, none⟩) k cy) U k N (upd2 u a t (u j t)) o (wu.setCell ⟨ga, t, none⟩ (.int .i64 (u a t + u j t))).drew := hVM1.kept (Nat.le_refl _) (below_drewN (Below.refl _ _) 1)
                    obtain ⟨gb, cb, hUb, hgb1, hgb2, hgbc, hgbf, hgbs⟩ := hVM1d.row hN0 (show b < k by omega)
                    have hu1 := upd2_ne u (a := a) (t := t) (j := b) (s := q) (u j t)
                    obtain ⟨gy'', cy'', hy, hgy1', hgy2', hgyc'⟩ := hVM1.outer hk0
                    injection hy with hy1' hy2' hy3'
                    injection hy1' with hy1'
                    injection hy1' with hy1'
                    subst hy1' hy3'
                    clear hy2'
                    have bd := VcI.bound hnext HFIT.out hjg htN
                    have bq := VcI.bound hnext HFIT.out hjg hqN
                    have hsm := HSM.out (gs.length - 1) (by omega)
                    have nn1 := hnext.1 a t
                    have nn2 := hnext.1 b q
                    have bd1 := bd.2.1 a haj
                    have bq1 := bq.2.1 b hbj
                    have hua := hvc.1 a t
                    have hub : 0 ≤ upd2 u a t (u j t) b q := by
                      unfold upd2
                      have := hvc.1 b q
                      split <;> omega
                    have le1 : u a t + u j t ≤ upd2 (upd2 u a t (u j t)) b q (u j t) a t := by
                      unfold upd2
                      split <;> (try split) <;> (try simp) <;> omega
                    have le2 : upd2 (upd2 u a t (u j t)) b q (u j t) b q = upd2 u a t (u j t) b q + u j t := upd2_same _ _ _ _
                    have hw1 : IntKind.i64.wrap (u a t + u j t) = u a t + u j t := by rw [IntKind.wrap_i64]; omega
                    have hw2 : IntKind.i64.wrap (upd2 u a t (u j t) b q + u j t) = upd2 u a t (u j t) b q + u j t := by rw [IntKind.wrap_i64]; omega
                    have mU : ∀ {i : Nat} {v : Value}, U[i]? = some v → v ∈ U := fun h => List.mem_of_getElem? h
                    have ka : ga ≠ Kp := hKB _ ga (mU hUa) rfl
                    have kb : gb ≠ Kp := hKB _ gb (mU hUb) rfl
                    have hkp1 : (wu.setCell ⟨ga, t, none⟩ (.int .i64 (u a t + u j t))).heap[Kp]? = some (.cells #[.string RL, .int .i64 (a : Int), .int .i64 (b : Int)] 127 (0, 0)) := (Below.heap_setCell wu ⟨ga, t, none⟩ _ Kp (fun e => ka e.symm)).trans hkp
                    obtain ⟨kd0, kd1, kd2⟩ := rule3_cells hkp1
                    have d0 := hgyc' b _ hUb
                    have d1 : (wu.setCell ⟨ga, t, none⟩ (.int .i64 (u a t + u j t))).cell? ⟨gb, q, none⟩ = some (.int .i64 (upd2 u a t (u j t) b q)) := hgbc q hqN
                    have d2 : (wu.setCell ⟨ga, t, none⟩ (.int .i64 (u a t + u j t))).drew.frozen? ⟨gb, q, none⟩ = false := hgbf q
                    have d5 : (wu.setCell ⟨ga, t, none⟩ (.int .i64 (u a t + u j t))).frozen? ⟨gb, q, none⟩ = false := hgbf q
                    have d3 := (World.cell?_of_block (a := am.add a) (Below.heap_setCell wu ⟨ga, t, none⟩ (.int .i64 (u a t + u j t)) (am.add a).block (show (am.add a).block ≠ ga by have := HOL.out; omega))).trans g0
                    have d4 := (World.cell?_of_block (a := xm.add t) (Below.heap_setCell wu ⟨ga, t, none⟩ (.int .i64 (u a t + u j t)) (xm.add t).block (show (xm.add t).block ≠ ga by have := HOL.out; omega))).trans g1
                    have hVM2 := hgbs q (u j t) hqN
                    have hkp2 : (((wu.setCell ⟨ga, t, none⟩ (.int .i64 (u a t + u j t))).drew).setCell ⟨gb, q, none⟩ (.int .i64 (upd2 u a t (u j t) b q + u j t))).heap[Kp]? = some (.cells #[.string RL, .int .i64 (a : Int), .int .i64 (b : Int)] 127 (0, 0)) := (Below.heap_setCell _ ⟨gb, q, none⟩ _ Kp (fun e => kb e.symm)).trans hkp1
                    have hNX : Hid (∃ t' : Nat, t' ≤ N ∧ (.int .i64 ((t : Int) + 1) : Value) = .int .i64 t' ∧ ∃ u' o', VM w1 w1.heap.size w2.heap.size (.slice (some ⟨gy, 0, none⟩) k cy) U k N u' o' ((((wu.setCell ⟨ga, t, none⟩ (.int .i64 (u a t + u j t))).drew).setCell ⟨gb, q, none⟩ (.int .i64 (upd2 u a t (u j t) b q + u j t)))) ∧ VcI nx gs N go j t' u' o' ∧ ((((wu.setCell ⟨ga, t, none⟩ (.int .i64 (u a t + u j t))).drew).setCell ⟨gb, q, none⟩ (.int .i64 (upd2 u a t (u j t) b q + u j t)))).heap[Kp]? = some (.cells #[.string RL, .int .i64 (a : Int), .int .i64 (b : Int)] 127 (0, 0)) ∧ BB ≤ ((((wu.setCell ⟨ga, t, none⟩ (.int .i64 (u a t + u j t))).drew).setCell ⟨gb, q, none⟩ (.int .i64 (upd2 u a t (u j t) b q + u j t)))).heap.size) := Lib.hid ⟨t + 1, by omega, by simp, _, _, hVM2, hnext, hkp2, by simp; exact hbb⟩
                    have hnz : (u j t == 0) = false := by simp [hz]
                    have a0' : (0 : Int) ≤ (a : Int) := by omega
                    have a1' : (a : Int) < (k : Int) := by omega
                    have b0' : (0 : Int) ≤ (b : Int) := by omega
                    have b1' : (b : Int) < (k : Int) := by omega
                    have q0' : (0 : Int) ≤ (q : Int) := by omega
                    have q1' : (q : Int) < (N : Int) := by omega
                    subst he
                    clear hgyc hgjc hgjf hgjs hgac hgaf hgas hgbc hgbf hgbs hgyc' hVM1 hVM1d hVM2 hnext hvm hvc hkp hkp1 hkp2 hu1 bd bq bd1 bq1 hsm nn1 nn2 hua hub le1 le2 m1 m2 m3 m4 hMU hq hqa hqm hp h0 mU lam lxm hKB hbb hnn hz
                    generalize upd2 u a t (u j t) b q = ub at *
                    generalize u a t = ua at *
                    generalize u j t = uj at *
                    go_wp2_with fail
                    go_upto_region 22 with fail
                    generalize wu.setCell ⟨ga, t, none⟩ (.int .i64 (ua + uj)) = wv at *
                    clear e0 e1 f0 f1 f2 g0 g1 kc0 kc1 kc2 hw1
                    go_still_tail 18, (by kernel_rfl)
                    change wpList _ _ _ _ _ wv.drew
                    go_wp2_with fail
                    go_roundw
                    all_goals first | exact hNX.out | ((repeat apply Exists.intro); exact ⟨hNX.out, rfl⟩) | (simp [intOf]; done) | (simp [intOf]; omega) | omega
                · have hqm := HMAP.out j t hjg (by omega)
                  obtain ⟨q, hq⟩ : ∃ q : Nat, at2 (mapsK nx gs gs.length) j t = q := ⟨(at2 (mapsK nx gs gs.length) j t).toNat, by omega⟩
                  have hqa : qAt nx gs j t = q := by unfold qAt; rw [hq]; rfl
                  have hqN : q < N := by have := HNST.out; omega
                  have hnext := VcI.letter hvc hjg htN (by rw [hqa]; exact hqN) (by rw [HXE.out]; exact h0)
                  rw [hqa] at hnext
                  by_cases hz : u j t = 0
                  · rw [hz] at e1
                    have hNX : Hid (∃ t' : Nat, t' ≤ N ∧ (.int .i64 ((t : Int) + 1) : Value) = .int .i64 t' ∧ ∃ u o, VM w1 w1.heap.size w2.heap.size (.slice (some ⟨gy, 0, none⟩) k cy) U k N u o wu ∧ VcI nx gs N go j t' u o ∧ wu.heap[Kp]? = some (.cells #[.string RL, .int .i64 rl, .int .i64 rr] 127 (0, 0)) ∧ BB ≤ wu.heap.size) := Lib.hid ⟨t + 1, by omega, by simp, u, o, hvm, by rw [hz, upd1_zero] at hnext; exact hnext, hkp, hbb⟩
                    clear hvm hvc hkp hbb hnext hgjs hgjc hgjf hgyc hMU hz hq hqa hqm h0
                    go_wp2_with fail
                    go_roundw
                    all_goals first | exact hNX.out | ((repeat apply Exists.intro); exact ⟨hNX.out, rfl⟩) | (simp [intOf]; done) | (simp [intOf]; omega) | omega
                  · obtain ⟨m1, m2, m3, m4⟩ := mapsN_at (nx := nx) (gs := gs) (N := N) (k := k) (j := j) (s := t) hjk htN (mapsK_ok HROW.out HLEN.out h1 h24 HFIT.out k (by rw [← HNE.out]; omega) j hjk).1 hN24
                    replace m4 := m4.trans (mapsK_at nx gs j t (show j < k by omega) (show j < gs.length by omega))
                    rw [hq] at m4
                    obtain ⟨am, xm, cm1, cm2, hvm', g0, g1⟩ := ll_get hMU m1 m2
                    rw [m3] at g0
                    rw [m4] at g1
                    injection hvm' with hvm' hx1 hx2
                    clear hx1 hx2
                    subst hvm'
                    obtain ⟨hoc, hof, hos⟩ := hvm.sum
                    have f1 := hoc q hqN
                    have f2 := hof q
                    have hVM1 := hos q (u j t) hqN
                    have bq := (VcI.bound hnext HFIT.out hjg hqN).1
                    have hsm := HSM.out (gs.length - 1) (by omega)
                    have hoq := hvc.2.1 q
                    have le1 : upd1 o q (u j t) q = o q + u j t := upd1_same _ _ _
                    have hw1 : IntKind.i64.wrap (o q + u j t) = o q + u j t := by rw [IntKind.wrap_i64]; omega
                    have kO : w1.heap.size ≠ Kp := by have h8 := HK7.out; have h9 := HVMS.out; have h7 := HOL.out; have h6 := hgj1; have h5 := HUB.out _ (List.mem_of_getElem? hUj) gj rfl; omega
                    have hkp1 : (wu.setCell ⟨w1.heap.size, q, none⟩ (.int .i64 (o q + u j t))).heap[Kp]? = some (.cells #[.string RL, .int .i64 rl, .int .i64 rr] 127 (0, 0)) := (Below.heap_setCell wu ⟨w1.heap.size, q, none⟩ _ Kp (fun e => kO e.symm)).trans hkp
                    have hNX : Hid (∃ t' : Nat, t' ≤ N ∧ (.int .i64 ((t : Int) + 1) : Value) = .int .i64 t' ∧ ∃ u' o', VM w1 w1.heap.size w2.heap.size (.slice (some ⟨gy, 0, none⟩) k cy) U k N u' o' (wu.setCell ⟨w1.heap.size, q, none⟩ (.int .i64 (o q + u j t))) ∧ VcI nx gs N go j t' u' o' ∧ (wu.setCell ⟨w1.heap.size, q, none⟩ (.int .i64 (o q + u j t))).heap[Kp]? = some (.cells #[.string RL, .int .i64 rl, .int .i64 rr] 127 (0, 0)) ∧ BB ≤ (wu.setCell ⟨w1.heap.size, q, none⟩ (.int .i64 (o q + u j t))).heap.size) := Lib.hid ⟨t + 1, by omega, by simp, _, _, hVM1, hnext, hkp1, by simp; exact hbb⟩
                    have hnz : (u j t == 0) = false := by simp [hz]
                    have hne' := full_list h0
                    have q0' : (0 : Int) ≤ (q : Int) := by omega
                    have q1' : (q : Int) < (N : Int) := by omega
                    clear hgyc hgjc hgjf hgjs hVM1 hnext hvm hvc hkp hkp1 bq hsm hoq le1 m1 m2 m3 m4 hMU hq hqa hqm h0 hKB hbb hnn hz hoc hof hos
                    generalize o q = oq at *
                    generalize u j t = uj at *
                    go_wp2_with fail
                    go_roundw
                    all_goals first | exact hNX.out | ((repeat apply Exists.intro); exact ⟨hNX.out, rfl⟩) | (simp [intOf]; done) | (simp [intOf]; omega) | omega
              · obtain rfl : t = N := by omega
                have HNXT : Hid (∃ m : Nat, m ≤ k ∧ (.int .i64 ((j : Int) - 1) : Value) = .int .i64 ((m : Int) - 1) ∧ ∃ u o, VM w1 w1.heap.size w2.heap.size (.slice (some ⟨gy, 0, none⟩) k cy) U k t u o wu ∧ VJ nx gs t go k m u o ∧ BB ≤ wu.heap.size) := Lib.hid ⟨j, by omega, rfl, u, o, hvm, .inr ⟨hjk, hvc⟩, hbb⟩
                clear hvm hvc hkp hbb
                go_wp2_with fail
                go_roundw
                all_goals first | exact HNXT.out | ((repeat apply Exists.intro); exact ⟨HNXT.out, rfl⟩) | (simp [intOf]; done) | (simp [intOf]; omega) | omega
        · obtain rfl : m = 0 := by omega
          have HO9 : Hid (OwnsI wo w.heap.size (.slice (some ⟨w1.heap.size, 0, none⟩) N N) (vcL nx gs N go)) := Lib.hid (by
            have h9 := own_lower hvm.out HB1.out.size
            unfold OwnsI
            rcases hvj with ⟨e1, e2, e3⟩ | ⟨e1, e2⟩
            · have hz : gs.length = 0 := by rw [← HNE.out]; omega
              rw [← vcL_zero hz, rowF_len]
              rw [e3] at h9
              exact h9
            · have e3 := vcL_done e2 (by rw [← HNE.out]; omega) HFIT.out hN24 (fun k' t' hk' ht' => (HMAP.out k' t' hk' (by omega)).1)
              rw [← e3, rowF_len]
              exact h9)
          have HB9 := Lib.hid (HB1.out.trans (hvm.below.mono HB1.out.size))
          clear hvm hvj hgo' hbb
          go_wp2_with fail
          go_ret
          exact ⟨_, rfl, HO9.out, HB9.out⟩
end Go.Proofs.Ytaffachjopjbgaa
namespace Go.Proofs.Ytaffachjopjbgaa
open Go.RowKit
open Wd
set_option linter.unusedVariables false
theorem aOk_goC {x : Au} (h : aOk x = true) : 0 ≤ x.go ∧ x.go < x.st := by
  unfold aOk at h
  simp only [Bool.and_eq_true, decide_eq_true_iff] at h
  have := h.1.1.2
  omega
theorem fin_bdC {x : Au} (h : aOk x = true) {i : Nat} (hi : i < x.fin.length) : 0 ≤ x.fin[i] ∧ x.fin[i] < x.st := by
  unfold aOk at h
  simp only [Bool.and_eq_true] at h
  have hr := h.1.2
  unfold risesL at hr
  rw [decide_eq_true_iff] at hr
  have := (hr i hi).1
  rw [List.getD_eq_getElem?_getD, List.getElem?_eq_getElem hi, Option.getD_some] at this
  omega
set_option maxRecDepth 100000 in
set_option maxHeartbeats 12800000 in
theorem specCountAccepted (av : Value) (x : Au) (gv : Value) (gs : List Rl) (w : World) (hf : FewA x) (hx : IsAu w av x) (hfr : FewR gs) (hr : Rules w gv gs) :
    Calls Try.prog 27 #[av, .agg #[gv]] w fun e w' => e = .returned (.tuple #[.int .i64 (caA x gs).1, .int .i64 (caA x gs).2]) ∧ Below w.heap.size w w' := by
  obtain ⟨st, go, fin, nx⟩ := x
  obtain ⟨f, n, rfl, hF, hN⟩ := hx
  simp only at hF hN
  have hb : Below w.heap.size w ((w.alloc (.cells #[.int .i64 st, .int .i64 go, f, n] 33)).alloc (.cells #[gv] 37)) := ((Below.refl _ w).alloc (Nat.le_refl _) _).alloc (by simp) _
  have hP : B4 ((w.alloc (.cells #[.int .i64 st, .int .i64 go, f, n] 33)).alloc (.cells #[gv] 37)) w.heap.size (.int .i64 st) (.int .i64 go) f n 33 := (B4.new w _ _ _ _ _).alloc _
  have hG : GP ((w.alloc (.cells #[.int .i64 st, .int .i64 go, f, n] 33)).alloc (.cells #[gv] 37)) (w.heap.size + 1) gs := by
    have := rules_gpT (hr.kept ((Below.refl _ w).alloc (Nat.le_refl _) (.cells #[.int .i64 st, .int .i64 go, f, n] 33))) 37
    rwa [show (w.alloc (.cells #[.int .i64 st, .int .i64 go, f, n] 33)).heap.size = w.heap.size + 1 from by simp] at this
  have HC := Lib.hid (l04Ok_any w.heap.size f n ⟨st, go, fin, nx⟩ _ hP (hF.kept hb) (hN.kept hb) hf)
  have HG := Lib.hid (fun W h => l02Ok_any (w.heap.size + 1) gs W hfr h)
  have HGP := Lib.hid hG
  have HB := Lib.hid hb
  have HP := Lib.hid hP
  have hff := hf.fin
  have HF := Lib.hid (fun W (hW : Below w.heap.size w W) => hF.kept hW)
  have HN := Lib.hid (fun W (hW : Below w.heap.size w W) => hN.kept hW)
  obtain ⟨Af, cf, rfl⟩ := hF.shape
  obtain ⟨An, cn, rfl, hNx⟩ := hN
  obtain ⟨Ag, cg, rfl, hRx⟩ := hr
  clear hb hP hG hF hNx hRx
  unfold caA
  cases ha : aOk ⟨st, go, fin, nx⟩
  · rw [ha] at HC
    rw [if_neg (by simp)]
    clear ha
    go_enter Try.func27, Try.ntmps27
    go_wp2_with fail
    refine HC.out.mono ?_
    rintro e w3 ⟨rfl, hD⟩
    have HB3 := Lib.hid (HB.out.trans (hD.below _))
    clear hD
    go_wp2_with fail
    go_ret2
    exact ⟨rfl, HB3.out⟩
  · rw [ha] at HC
    obtain ⟨⟨h1, h24⟩, hrow, hlen⟩ := aOk_parts ha
    have hgo := aOk_goC ha
    simp only at h1 h24 hrow hlen hgo
    cases hok : gOk gs
    · rw [if_neg (by simp)]
      have HG2 : Hid (∀ W, GP W (w.heap.size + 1) gs → Calls Try.prog 79 #[.pointer (some ⟨w.heap.size + 1, 0, none⟩)] W fun e w' => e = .returned (.bool false) ∧ Below W.heap.size W w') := Lib.hid (fun W h => by have := HG.out W h; rwa [hok] at this)
      clear ha hok hrow hlen hgo
      go_enter Try.func27, Try.ntmps27
      go_wp2_with fail
      refine HC.out.mono ?_
      rintro e w3 ⟨rfl, hD⟩
      have HB3 := Lib.hid (HB.out.trans (hD.below _))
      have HG3 := Lib.hid (HGP.out.kept (hD.below _))
      clear hD
      go_wp2_with fail
      refine (HG2.out _ HG3.out).mono ?_
      rintro e w4 ⟨rfl, hB4⟩
      have HB4 := Lib.hid (HB3.out.trans (hB4.mono HB3.out.size))
      clear hB4
      go_wp2_with fail
      go_ret2
      exact ⟨rfl, HB4.out⟩
    · rw [if_pos ⟨rfl, rfl⟩]
      have HG2 : Hid (∀ W, GP W (w.heap.size + 1) gs → Calls Try.prog 79 #[.pointer (some ⟨w.heap.size + 1, 0, none⟩)] W fun e w' => e = .returned (.bool true) ∧ Below W.heap.size W w') := Lib.hid (fun W h => by have := HG.out W h; rwa [hok] at this)
      obtain ⟨gg, hgg⟩ : ∃ n : Nat, go = n := ⟨go.toNat, by omega⟩
      have hgN : gg < nx.length := by omega
      have HVC := Lib.hid (fun W (hb : Below w.heap.size w W) hg => l04Visits_any _ nx st gg (w.heap.size + 1) gs W h1 h24 hrow hlen (HN.out W hb) hok hg hgN)
      have HZE := Lib.hid (caS_zero ha hok)
      have HNX := Lib.hid (fun i (hi : i < fin.length) => caS_next ha hok (i := i) hi)
      have HFB := Lib.hid (fun i (hi : i < fin.length) => fin_bdC ha hi)
      have HAB := Lib.hid (fun wa => all_bd wa hrow hlen h1 h24 hok (s := go) (by omega))
      have HALL := Lib.hid (caS_all (x := ⟨st, go, fin, nx⟩) (gs := gs))
      have HLN : Hid ((nx.length : Int) = st) := Lib.hid hlen
      have HGG := Lib.hid hgg
      have HSB : Hid (∀ i, 0 ≤ caS ⟨st, go, fin, nx⟩ gs i ∧ caS ⟨st, go, fin, nx⟩ gs i ≤ 1000000000000001) := Lib.hid (fun i => by
        unfold caS
        have := all_bd (fun p => hasN (fin.take i) p) hrow hlen h1 h24 hok (s := go) (by omega)
        simp only at this ⊢
        split <;> omega)
      obtain ⟨ans, hans⟩ : ∃ ans : Int × Int, ans = (allV (visK (fun p => hasN fin p) nx gs gs.length) gs go + (if hasN fin go = true then 1 else 0), 0) := ⟨_, rfl⟩
      rw [← hans]
      have HA : Hid (ans = (caS ⟨st, go, fin, nx⟩ gs fin.length, 0)) := Lib.hid (by rw [hans, caS_all])
      obtain ⟨cS, hcS⟩ : ∃ cS : Nat → Int, cS = caS ⟨st, go, fin, nx⟩ gs := ⟨_, rfl⟩
      simp only at HNX
      rw [← hcS] at HZE HNX HSB HA
      clear ha hok hrow hlen hans hcS HALL hgo
      subst hgg
      go_enter Try.func27, Try.ntmps27
      go_wp2_with fail
      refine HC.out.mono ?_
      rintro e w3 ⟨rfl, hD⟩
      have HB3 := Lib.hid (HB.out.trans (hD.below _))
      have HG3 := Lib.hid (HGP.out.kept (hD.below _))
      have HP3 := Lib.hid (HP.out.kept (hD.below _))
      clear hD
      go_wp2_with fail
      refine (HG2.out _ HG3.out).mono ?_
      rintro e w4 ⟨rfl, hB4⟩
      have HB4 := Lib.hid (HB3.out.trans (hB4.mono HB3.out.size))
      have HG4 := Lib.hid (HG3.out.kept hB4)
      have HP4 := Lib.hid (HP3.out.kept hB4)
      obtain ⟨⟨p0, p1, p2, p3⟩, _⟩ := blk4_cells HP4.out
      clear hB4
      go_wp2_with fail
      refine (HVC.out _ HB4.out HG4.out).mono ?_
      rintro e w8 ⟨y, rfl, hoy, hB8⟩
      have HB8 := Lib.hid (HB4.out.trans (hB8.mono HB4.out.size))
      have HP8 := Lib.hid (HP4.out.kept hB8)
      obtain ⟨Ay, cy, rfl⟩ := own_slice hoy
      have hvl : (vcL nx gs nx.length gg).length = nx.length := by unfold vcL; exact rowF_len _ _
      rw [hvl]
      have HVY : Hid (∀ k, k < nx.length → ∃ q : Addr, Ay = some q ∧ w8.cell? (q.add k) = some (.int .i64 (allV (visK (fun p => decide (p = (k : Int))) nx gs gs.length) gs (gg : Int)))) := Lib.hid (fun k hk => by
        have h9 := hoy
        unfold OwnsI at h9
        rw [hvl] at h9
        obtain ⟨g9, hA9, _, _⟩ := own_addr h9 (by omega)
        subst hA9
        refine ⟨_, rfl, ?_⟩
        have h8 := h9.cellAt k (by omega)
        rw [add_zero', h8]
        unfold iv vcL
        rw [List.getElem?_map, rowF_get hk]
        rfl)
      have HF8 := Lib.hid (HF.out w8 HB8.out)
      have HPC := Lib.hid (blk4_cells HP8.out).1
      clear hB8 hoy hvl p0 p1 p2 p3 HC HG HG2 HGP HB HP HN HVC HG3 HG4 HP3 HP4 HB3 HB4 HP8
      go_wp2_with fail
      obtain ⟨F, hFe⟩ : ∃ F, F = fin.length := ⟨_, rfl⟩
      rw [← hFe] at HPC HA hff ⊢
      have HFE := Lib.hid hFe
      clear hFe
      go_loopw [7, 8] (fun n i wr => ∃ k : Nat, k ≤ F ∧ i = .int .i64 k ∧ n = .int .i64 (cS k) ∧ ∃ q, wr = w8.drewN q) (fun _ i _ => F - (intOf i).toNat)
      case atStart => exact ⟨0, Nat.zero_le _, rfl, by rw [HZE.out], 0, rfl⟩
      case round =>
        obtain ⟨k, hk, rfl, rfl, q, hq⟩ := hrel
        obtain ⟨wo, rfl⟩ : ∃ wo : World, wo = wr := ⟨_, rfl⟩
        have HQ := Lib.hid hq
        clear hq
        obtain ⟨p0, p1, p2, p3⟩ := HPC.out
        have p1 : wo.cell? ⟨w.heap.size, 1, none⟩ = some (.int .i64 (gg : Int)) := by rw [HQ.out]; exact p1
        have p2 : wo.cell? ⟨w.heap.size, 2, none⟩ = some (.slice Af F cf) := by rw [HQ.out]; exact p2
        clear p0 p3
        by_cases hkF : k < F
        · have hkg : k < fin.length := by rw [← HFE.out]; exact hkF
          have hfb := HFB.out k hkg
          obtain ⟨fq, hfq⟩ : ∃ fq : Nat, fin[k] = fq := ⟨fin[k].toNat, by omega⟩
          have hfN : fq < nx.length := by have := HLN.out; omega
          obtain ⟨qa, hqa, hqc⟩ := HVY.out fq hfN
          subst hqa
          have hqc : wo.cell? (qa.add fq) = some (.int .i64 (allV (visK (fun p => decide (p = (fq : Int))) nx gs gs.length) gs (gg : Int))) := by rw [HQ.out]; exact hqc
          obtain ⟨A2, c2, hv2, h0 | ⟨xf, hx, hc⟩⟩ := HF8.out
          · rw [h0] at hkg; simp at hkg
          injection hv2 with hv2 hv3 hv4
          subst hv2
          subst hx
          have f0 : wo.cell? (xf.add k) = some (.int .i64 fin[k]) := by rw [HQ.out]; exact hc k hkg
          have hnx := HNX.out k hkg
          have hsb := HSB.out k
          have hab := HAB.out (fun p => decide (p = (fq : Int)))
          rw [hfq] at f0 hnx
          have hw1 : IntKind.i64.wrap (cS k + allV (visK (fun p => decide (p = (fq : Int))) nx gs gs.length) gs (gg : Int)) = cS k + allV (visK (fun p => decide (p = (fq : Int))) nx gs gs.length) gs (gg : Int) := by rw [IntKind.wrap_i64]; omega
          have hw2 : IntKind.i64.wrap (cS k + allV (visK (fun p => decide (p = (fq : Int))) nx gs gs.length) gs (gg : Int) + 1) = cS k + allV (visK (fun p => decide (p = (fq : Int))) nx gs gs.length) gs (gg : Int) + 1 := by rw [IntKind.wrap_i64]; omega
          have k0 : (0 : Int) ≤ (k : Int) := by omega
          have k1 : (k : Int) < (F : Int) := by omega
          have q0 : (0 : Int) ≤ (fq : Int) := by omega
          have q1 : (fq : Int) < (nx.length : Int) := by omega
          by_cases he : (fq : Int) = (gg : Int)
          · rw [if_pos he] at hnx
            have hd : ((fq : Int) == (gg : Int)) = true := by simp [he]
            have HNE := Lib.hid hnx
            clear hnx hsb hab hfb hc hv3 hv4 hfq he
            generalize allV (visK (fun p => decide (p = (fq : Int))) nx gs gs.length) gs (gg : Int) = V at *
            generalize cS k = ck at *
            go_upto_region 9 with fail
            go_quiet (fail)
            go_wp2_with fail
            go_roundw
            all_goals first | exact ⟨k + 1, by omega, by go_num, by rw [HNE.out], _, by rw [HQ.out]; exact World.drewN_drewN _ _ _⟩ | ((repeat apply Exists.intro); exact ⟨⟨k + 1, by omega, by go_num, by rw [HNE.out], _, by rw [HQ.out]; exact World.drewN_drewN _ _ _⟩, rfl⟩) | (simp [intOf]; done) | (simp [intOf]; omega) | omega
          · rw [if_neg he, Int.add_zero] at hnx
            have hd : ((fq : Int) == (gg : Int)) = false := by simpa using he
            have HNE := Lib.hid hnx
            clear hnx hsb hab hfb hc hv3 hv4 hfq he
            generalize allV (visK (fun p => decide (p = (fq : Int))) nx gs gs.length) gs (gg : Int) = V at *
            generalize cS k = ck at *
            go_upto_region 9 with fail
            go_quiet (fail)
            go_wp2_with fail
            go_roundw
            all_goals first | exact ⟨k + 1, by omega, by go_num, by rw [HNE.out], _, by rw [HQ.out]; exact World.drewN_drewN _ _ _⟩ | ((repeat apply Exists.intro); exact ⟨⟨k + 1, by omega, by go_num, by rw [HNE.out], _, by rw [HQ.out]; exact World.drewN_drewN _ _ _⟩, rfl⟩) | (simp [intOf]; done) | (simp [intOf]; omega) | omega
        · obtain rfl : k = F := by omega
          go_wp2_with fail
          go_ret2
          exact ⟨by rw [HA.out]; rfl, by rw [HQ.out]; exact below_drewN HB8.out _⟩
end Go.Proofs.Ytaffachjopjbgaa
namespace Go.Proofs.Ytaffachjopjbgaa
open Go.RowKit
open Wd
set_option linter.unusedVariables false
theorem visR_len (wa : Int → Bool) (ms vs : List (List Int)) (x : Rl) (m : List Int) : (visR wa ms vs x m).length = 24 := by simp [visR]
theorem visK_wide (wa : Int → Bool) (nx : List (List Int)) (gs : List Rl) : ∀ k, wide (visK wa nx gs k)
  | 0 => by intro r hr; cases hr
  | k + 1 => by
    intro r hr
    rw [visK] at hr
    rcases List.mem_append.1 hr with hr | hr
    · exact visK_wide wa nx gs k r hr
    · rw [List.mem_singleton] at hr
      rw [hr, visR_len]
/-- a row of which the first s cells are written -/
def rowS (row : List Int) (s : Nat) : List Int := row.take s ++ List.replicate (24 - s) 0
theorem rowS_len {row : List Int} {s : Nat} (h : row.length = 24) (hs : s ≤ 24) : (rowS row s).length = 24 := by
  unfold rowS; rw [List.length_append, List.length_take, List.length_replicate, h]; omega
theorem rowS_all {row : List Int} (h : row.length = 24) : rowS row 24 = row := by
  unfold rowS; rw [List.take_of_length_le (by omega)]; simp
theorem rowS_set {row : List Int} {s : Nat} (h : row.length = 24) (hs : s < 24) : (rowS row s).set s (row[s]'(by omega)) = rowS row (s + 1) := by
  unfold rowS
  apply List.ext_getElem?
  intro i
  rw [List.getElem?_set]
  have hl : (row.take s).length = s := by rw [List.length_take]; omega
  have hl2 : (row.take (s + 1)).length = s + 1 := by rw [List.length_take]; omega
  by_cases hi : s = i
  · subst hi
    rw [if_pos rfl, if_pos (by rw [List.length_append, hl, List.length_replicate]; omega), List.getElem?_append_left (by omega), List.getElem?_take, if_pos (by omega), List.getElem?_eq_getElem]
  · rw [if_neg hi]
    by_cases hlt : i < s
    · rw [List.getElem?_append_left (by omega), List.getElem?_append_left (by omega), List.getElem?_take, List.getElem?_take, if_pos hlt, if_pos (by omega)]
    · rw [List.getElem?_append_right (by omega), List.getElem?_append_right (by omega), hl, hl2, List.getElem?_replicate, List.getElem?_replicate]
      by_cases h24 : i < 24
      · rw [if_pos (by omega), if_pos (by omega)]
      · rw [if_neg (by omega), if_neg (by omega)]
/-- the whole table, flat: the rows before, the row under way, zeros -/
def flS (ms : List (List Int)) (row : List Int) (s n : Nat) : List Int := flK (ms ++ [rowS row s]) n
theorem flS_zero {ms : List (List Int)} {row : List Int} {n : Nat} (hn : ms.length < n) : flS ms row 0 n = flK ms n := by
  unfold flS flK rowS
  have e : (n - ms.length) * 24 = 24 + (n - (ms.length + 1)) * 24 := by omega
  rw [List.flatten_append, List.length_append]
  simp only [List.take_zero, List.nil_append, List.flatten_cons, List.flatten_nil, List.append_nil, List.length_cons, List.length_nil, Nat.sub_zero, Nat.zero_add]
  rw [e, ← List.replicate_append_replicate, List.append_assoc]
theorem flS_all {ms : List (List Int)} {row : List Int} {n : Nat} (hr : row.length = 24) : flS ms row 24 n = flK (ms ++ [row]) n := by
  unfold flS; rw [rowS_all hr]
theorem flS_set {ms : List (List Int)} {row : List Int} {s n : Nat} (hw : wide ms) (hr : row.length = 24) (hs : s < 24) : (flS ms row s n).set (ms.length * 24 + s) (row[s]'(by omega)) = flS ms row (s + 1) n := by
  unfold flS flK
  rw [List.flatten_append, List.flatten_append]
  simp only [List.flatten_cons, List.flatten_nil, List.append_nil, List.length_append, List.length_cons, List.length_nil]
  have hl := flat_len ms hw
  rw [List.append_assoc, List.append_assoc, List.set_append_right _ _ (by omega), hl, Nat.add_sub_cancel_left, List.set_append_left _ _ (by rw [rowS_len hr (by omega)]; exact hs), rowS_set hr hs]
/-- a cell of an earlier row -/
theorem flS_get {ms : List (List Int)} {row : List Int} {s n j i : Nat} (hw : wide ms) (hj : j < ms.length) (hi : i < 24) : (flS ms row s n)[j * 24 + i]? = some (at2 ms j i) := by
  have hl := flat_len ms hw
  unfold flS flK
  rw [List.flatten_append, List.append_assoc, List.getElem?_append_left (by omega)]
  exact flat_get ms hw j i hj hi
theorem flS_len {ms : List (List Int)} {row : List Int} {s n : Nat} (hw : wide ms) (hr : row.length = 24) (hs : s ≤ 24) (hn : ms.length < n) : (flS ms row s n).length = n * 24 := by
  unfold flS
  refine flK_len _ n (fun r hr2 => ?_) (by rw [List.length_append]; simp; omega)
  rcases List.mem_append.1 hr2 with h | h
  · exact hw r h
  · rw [List.mem_singleton] at h; rw [h, rowS_len hr hs]
theorem take_set_drop {α : Type} (l : List α) (o : Nat) (v : α) (h : o < l.length) : l.take o ++ [v] ++ l.drop (o + 1) = l.set o v := by
  rw [List.set_eq_take_append_cons_drop, if_pos h, List.append_assoc]
  rfl
theorem iv_set (l : List Int) (o : Nat) (z : Int) : (iv l).set o (.int .i64 z) = iv (l.set o z) := by unfold iv; rw [List.map_set]
/-- the row while one more cell is written -/
theorem flS_store {w : World} {M n e s : Nat} {ms : List (List Int)} {row : List Int} (h : w.ownsRow M e 24 (.slice (some ⟨M, 0, none⟩) n n) n (iv (flS ms row s n))) (hw : wide ms) (hr : row.length = 24) (hs : s < 24) (hn : ms.length < n) :
    (w.setCell ⟨M, ms.length * 24 + s, none⟩ (.int .i64 (row[s]'(by omega)))).ownsRow M e 24 (.slice (some ⟨M, 0, none⟩) n n) n (iv (flS ms row (s + 1) n)) := by
  have hl := flS_len (s := s) (n := n) hw hr (by omega) hn
  have h1 := own_setCells [.int .i64 (row[s]'(by omega))] (ms.length * 24 + s) w _ h (by rw [iv_len, hl]; simp; omega)
  simp only [List.length_cons, List.length_nil, Nat.zero_add] at h1
  rw [take_set_drop _ _ _ (by rw [iv_len, hl]; omega), iv_set, flS_set hw hr hs] at h1
  exact h1
end Go.Proofs.Ytaffachjopjbgaa
namespace Go.Proofs.Ytaffachjopjbgaa
open Go.RowKit
open Wd
set_option linter.unusedVariables false

set_option maxHeartbeats 800000 in
/-- spec.l02Length of a grammar whose rules are right -/
theorem l02Length_any (p : Nat) (gs : List Rl) (w : World) (hf : FewR gs) (h : GP w p gs) (hok : (fits gs && small gs) = true) :
    Calls Try.prog 100 #[.pointer (some ⟨p, 0, none⟩)] w fun e w' => e = .returned (.int .i64 (wordLen gs)) ∧ Below w.heap.size w w' := by
  have HC := Lib.hid (sizes_any p gs w hf h)
  have hn := hf.len
  clear h hf
  have HK := Lib.hid hok
  clear hok
  go_enter Try.func100, Try.ntmps100
  go_wp2_with fail
  refine HC.out.mono ?_
  rintro e w' ⟨x, rfl, ho, hB⟩
  rw [HK.out]
  have ho := ho HK.out
  by_cases h0 : gs.length = 0
  · have hz := wordLen_zero h0
    have hl : (lens gs).length = 0 := by rw [lens_len]; exact h0
    obtain ⟨A, c, rfl⟩ := own_slice ho
    rw [hl]
    have HZ := Lib.hid hz
    clear ho h0 hz hl
    go_wp2
    go_ret
    exact ⟨ret_int HZ.out.symm, hB⟩
  · obtain ⟨m, hm⟩ : ∃ m, gs.length = m + 1 := ⟨gs.length - 1, by omega⟩
    have hl : (lens gs).length = m + 1 := by rw [lens_len]; exact hm
    rcases ho.shape with ⟨_, h'⟩ | ⟨g, cap, rfl, _⟩
    · rw [h'] at hl; simp at hl
    have hc := ho.cell m (by omega)
    have hw : wordLen gs = (lens gs)[m] := by
      unfold wordLen
      rw [hm, Nat.add_sub_cancel, List.getD_eq_getElem?_getD, List.getElem?_eq_getElem (by omega), Option.getD_some]
    rw [← hw] at hc
    rw [hl]
    have hm' : m ≤ 1048576 := by omega
    clear ho h0 hw hl hm hn
    go_wp2
    go_ret
    exact ⟨rfl, hB⟩
end Go.Proofs.Ytaffachjopjbgaa
namespace Go.Proofs.Ytaffachjopjbgaa
open Go.RowKit
open Wd
set_option linter.unusedVariables false
theorem tm_lp (v : Value) (w : World) : (Instr.typeAssert (.iface 211 v) 194 198 true).run Try.prog w = .ok (.tuple #[.agg #[.string ⟨#[]⟩, .int .i64 0, .int .i64 0], .bool false]) w := by kernel_rfl
abbrev findV (Wb Qb : Nat) : Value := .func (.func 157) #[] #[.pointer (some ⟨Wb, 0, none⟩), .pointer (some ⟨Qb, 0, none⟩)]
structure SInv (Wb Qb : Nat) (gv lv mv vv : Value) (st0 : Int) (lo : Nat) (nx vs : List (List Int)) (gs : List Rl) (w : World) : Prop where
  b : B5 w Wb gv lv mv (.int .i64 st0) vv 116
  q : w.cell? ⟨Qb, 0, none⟩ = some (findV Wb Qb)
  r : Rules w gv gs
  l : IsL w lv (lens gs)
  m : IsMs w lo mv (mapsK nx gs gs.length)
  v : IsMs w lo vv vs
theorem SInv.kept {Wb Qb : Nat} {gv lv mv vv : Value} {st0 : Int} {lo : Nat} {nx vs : List (List Int)} {gs : List Rl} {w w' : World} (h : SInv Wb Qb gv lv mv vv st0 lo nx vs gs w) (hb : Below w.heap.size w w') : SInv Wb Qb gv lv mv vv st0 lo nx vs gs w' :=
  ⟨h.b.kept hb, (hb.cell (lt_of_cell h.q)).trans h.q, h.r.kept hb, h.l.kept hb, h.m.kept hb, h.v.kept hb⟩
theorem rule3_cellsV {w : World} {R : Nat} {t : TypeId} {a b c : Value} (h : w.heap[R]? = some (.cells #[a, b, c] t (0, 0))) :
    w.cell? ⟨R, 0, none⟩ = some a ∧ w.cell? ⟨R, 1, none⟩ = some b ∧ w.cell? ⟨R, 2, none⟩ = some c := by
  have key : ∀ o, w.cell? ⟨R, o, none⟩ = (#[a, b, c] : Array Value)[o]? := fun o => by simp [World.cell?, h]
  exact ⟨by rw [key]; rfl, by rw [key]; rfl, by rw [key]; rfl⟩
/-- the contract of the closure -/
def FindC (Wb Qb : Nat) (gv lv mv vv : Value) (st0 : Int) (lo : Nat) (nx vs : List (List Int)) (gs : List Rl) (k : Nat) (s c z : Int) : Prop :=
  ∀ W, SInv Wb Qb gv lv mv vv st0 lo nx vs gs W → Calls Try.prog 157 #[.int .i64 k, .int .i64 s, .int .i64 c, .pointer (some ⟨Wb, 0, none⟩), .pointer (some ⟨Qb, 0, none⟩)] W fun e w' => e = .returned (.int .i64 z) ∧ Below W.heap.size W w'
set_option maxRecDepth 100000 in
set_option maxHeartbeats 3200000 in
theorem find_letter (Wb Qb : Nat) (gv lv mv vv : Value) (st0 : Int) (lo : Nat) (nx vs : List (List Int)) (gs : List Rl) (k : Nat) (s c : Int) (hk : k < gs.length) (h0 : gs[k].L.size ≠ 0) : FindC Wb Qb gv lv mv vv st0 lo nx vs gs k s c 1 := by
  intro w hI
  obtain ⟨hB5, hq, hr, hl, hm, hv⟩ := hI
  obtain ⟨p0, p1, p2, p3, p4⟩ := b5_cells hB5
  obtain ⟨A1, c1, rfl, hr⟩ := hr
  rcases hr with hr | ⟨g, rfl, hg, hcc⟩
  · rw [hr] at hk; simp at hk
  obtain ⟨a0, a1, a2⟩ := rules_cells hcc hk
  have HK := Lib.hid (fun W => kind_letter gs[k] h0 W)
  have HT := tm_lp
  have k0 : (0 : Int) ≤ (k : Int) := by omega
  have k1 : (k : Int) < (gs.length : Int) := by omega
  generalize gs[k] = R at *
  clear hB5 hq hl hm hv hcc p1 p2 p3 p4 h0
  go_enter Try.func157, Try.ntmps157
  go_wp2_with fail
  refine (HK.out _).mono ?_
  rintro e w7 ⟨rfl, hB7⟩
  have HB7 := Lib.hid hB7
  clear hB7 a0 a1 a2 p0
  go_wp2_with fail
  go_ret
  exact ⟨rfl, HB7.out.alloc HB7.out.size _⟩
set_option maxRecDepth 100000 in
set_option maxHeartbeats 6400000 in
theorem find_pair (Wb Qb : Nat) (gv lv mv vv : Value) (st0 : Int) (lo : Nat) (nx vs : List (List Int)) (gs : List Rl) (k a b t q : Nat) (c z1 z2 : Int) (hk : k < gs.length) (h0 : gs[k].L.size = 0) (ha : gs[k].l = a) (hb : gs[k].r = b) (hak : a < k) (hbk : b < k) (ht : t < 24) (hvl : vs.length = gs.length) (hq24 : at2 (mapsK nx gs gs.length) a t = (q : Int))
    (hc0 : 0 ≤ c) (hcb : c ≤ 1000000000000000) (hv0 : 0 ≤ at2 vs a t) (hv1 : at2 vs a t ≤ 1000000000000000) (la1 : (lens gs).getD a 0 ≤ 1000000000000000) (la0 : 0 ≤ (lens gs).getD a 0) (hz2 : at2 vs a t ≤ c → 0 ≤ z2 ∧ z2 ≤ 1000000000000000)
    (hA : c < at2 vs a t → FindC Wb Qb gv lv mv vv st0 lo nx vs gs a t c z1) (hB : at2 vs a t ≤ c → FindC Wb Qb gv lv mv vv st0 lo nx vs gs b q (c - at2 vs a t) z2) :
    FindC Wb Qb gv lv mv vv st0 lo nx vs gs k t c (if c < at2 vs a t then z1 else (lens gs).getD a 0 + z2) := by
  intro w hI
  have HI := Lib.hid hI
  obtain ⟨hB5, hqq, hr, hl, hm, hv⟩ := hI
  have HB5 := Lib.hid hB5
  obtain ⟨p0, p1, p2, p3, p4⟩ := b5_cells hB5
  obtain ⟨A1, c1, rfl, hr⟩ := hr
  rcases hr with hr | ⟨g, rfl, hg, hcc⟩
  · rw [hr] at hk; simp at hk
  obtain ⟨a0, a1, a2⟩ := rules_cells hcc hk
  have hlen := lens_len gs
  have hml := mapsK_len nx gs gs.length
  obtain ⟨A2, c2, rfl, h2⟩ := hl
  rcases h2 with h2 | ⟨g2, rfl, h2⟩
  · rw [h2] at hlen; simp at hlen; omega
  obtain ⟨A3, c3, rfl, h3⟩ := hm
  rcases h3 with h3 | ⟨g3, rfl, _, h3⟩
  · rw [h3] at hml; simp at hml; omega
  obtain ⟨A4, c4, rfl, h4⟩ := hv
  rcases h4 with h4 | ⟨g4, rfl, _, h4⟩
  · rw [h4] at hvl; simp at hvl; omega
  have ca := h2 a (by omega)
  rw [show (lens gs)[a]'(by omega) = (lens gs).getD a 0 from by rw [List.getD_eq_getElem?_getD, List.getElem?_eq_getElem (by omega)]; rfl] at ca
  have cm := h3 a t (by omega) ht
  have cv := h4 a t (by omega) ht
  rw [show ((mapsK nx gs gs.length).getD a []).getD t 0 = at2 (mapsK nx gs gs.length) a t from rfl, hq24] at cm
  rw [show (vs.getD a []).getD t 0 = at2 vs a t from rfl] at cv
  have HK := Lib.hid (fun W => kind_pair gs[k] h0 W)
  have HT := tm_pp
  rw [empty_arr h0] at a0
  rw [ha] at a1
  rw [hb] at a2
  have hag : agg3 gs[k] = .agg #[.string ⟨#[]⟩, .int .i64 (a : Int), .int .i64 (b : Int)] := by
    unfold agg3
    rw [empty_arr h0, ha, hb]
  rw [hag] at HK
  obtain ⟨Z, hZ⟩ : ∃ Z, Z = (if c < at2 vs a t then z1 else (lens gs).getD a 0 + z2) := ⟨_, rfl⟩
  rw [← hZ]
  have HZ := Lib.hid hZ
  clear hZ
  have HA := Lib.hid hA
  have HBc := Lib.hid hB
  have k0 : (0 : Int) ≤ (k : Int) := by omega
  have k1 : (k : Int) < (gs.length : Int) := by omega
  have a0' : (0 : Int) ≤ (a : Int) := by omega
  have a1' : (a : Int) < (gs.length : Int) := by omega
  have t0 : (0 : Int) ≤ (t : Int) := by omega
  have t1 : (t : Int) < 24 := by omega
  have hsub : IntKind.i64.wrap (c - at2 vs a t) = c - at2 vs a t := IntWalk.i64_in _ (by omega)
  have hsum : at2 vs a t ≤ c → IntKind.i64.wrap ((lens gs).getD a 0 + z2) = (lens gs).getD a 0 + z2 := fun h => IntWalk.i64_in _ (by have := hz2 h; omega)
  have HSUM := Lib.hid hsum
  have a2' : (a : Int) < ((lens gs).length : Int) := by omega
  have a3' : (a : Int) < ((mapsK nx gs gs.length).length : Int) := by omega
  have a4' : (a : Int) < (vs.length : Int) := by omega
  have lqq := lt_of_cell hqq
  have lb := hB5.lt
  have lca := lt_of_cell ca
  have lcm := lt_of_cell cm
  have HCA := Lib.hid ca
  clear h0 ha hb hag hcc h2 h3 h4 hA hB hz2 la1 la0 hv1 hv0 hc0 hcb hsum hB5 hvl hlen hml
  go_enter Try.func157, Try.ntmps157
  go_wp2_with fail
  refine (HK.out _).mono ?_
  rintro e w7 ⟨rfl, hB7⟩
  have hbk := hB7.alloc hB7.size (.cells #[.string ⟨#[]⟩, .int .i64 (a : Int), .int .i64 (b : Int)] 198)
  have kcs := heap_alloc_new w7 (.cells #[.string ⟨#[]⟩, .int .i64 (a : Int), .int .i64 (b : Int)] 198)
  have hKl : w7.heap.size < (w7.alloc (.cells #[.string ⟨#[]⟩, .int .i64 (a : Int), .int .i64 (b : Int)] 198)).heap.size := by simp
  clear hB7 a0 a1 a2 p0 p1 p2 p3 p4
  go_upto_region 4 with fail
  obtain ⟨Kp, hKp⟩ : ∃ Kp, Kp = w7.heap.size := ⟨_, rfl⟩
  rw [← hKp] at kcs hKl ⊢
  generalize w7.alloc (.cells #[.string ⟨#[]⟩, .int .i64 (a : Int), .int .i64 (b : Int)] 198) = wk at *
  have HBK := Lib.hid hbk
  have HIK := Lib.hid (HI.out.kept hbk)
  have HH := Lib.hid (fun W (h : Below wk.heap.size wk W) => And.intro (b5_cells ((HB5.out.kept hbk).kept h)) (And.intro (rule3_cellsV ((h.block Kp hKl).trans kcs)) (And.intro ((h.cell (lt_of_cell ((hbk.cell lqq).trans hqq))).trans ((hbk.cell lqq).trans hqq)) (And.intro ((h.cell (lt_of_cell ((hbk.cell lca).trans ca))).trans ((hbk.cell lca).trans ca)) (And.intro ((h.cell (lt_of_cell ((hbk.cell lcm).trans cm))).trans ((hbk.cell lcm).trans cm)) ((h.cell (lt_of_cell ((hbk.cell (lt_of_cell cv)).trans cv))).trans ((hbk.cell (lt_of_cell cv)).trans cv)))))))
  clear hKp kcs hbk hqq ca cm cv lqq lb lca lcm hg
  obtain ⟨⟨p0, p1, p2, p3, p4⟩, ⟨r0, r1, r2⟩, qv, cl, cm, cv⟩ := HH.out wk (Below.refl _ _)
  generalize at2 vs a t = V at *
  generalize (lens gs).getD a 0 = la at *
  by_cases hcV : c < V
  · have HE : Hid (Z = z1) := Lib.hid (by rw [HZ.out, if_pos hcV])
    have hd : decide (c < V) = true := decide_eq_true hcV
    have HA2 := Lib.hid (HA.out hcV)
    clear hcV HA HBc
    have qv := qv
    go_wp2_with fail
    refine (HA2.out _ HIK.out).mono ?_
    rintro e w9 ⟨rfl, hB9⟩
    have HB9 := Lib.hid (HBK.out.trans (hB9.mono HBK.out.size))
    clear hB9
    go_wp2_with fail
    go_ret
    exact ⟨by rw [HE.out]; rfl, HB9.out⟩
  · have HE : Hid (Z = la + z2) := Lib.hid (by rw [HZ.out, if_neg hcV])
    have hd : decide (c < V) = false := decide_eq_false hcV
    have HB2 := Lib.hid (HBc.out (by omega))
    have hsum := HSUM.out (by omega)
    have HB3 := Lib.hid (fun m => HB2.out (wk.drewN m) (HIK.out.kept (below_drewN (Below.refl _ wk) m)))
    clear hcV HA HBc HB2
    have qv := qv
    go_upto_region 7 with fail
    have HC := Lib.hid (And.intro p1 (And.intro p2 (And.intro r1 (And.intro r2 (And.intro qv (And.intro cl cm))))))
    have HH2 := Lib.hid (fun W (h : Below wk.heap.size wk W) => And.intro (HH.out W h).1.2.1 (And.intro (HH.out W h).1.2.2.1 (And.intro (HH.out W h).2.1.2.1 (And.intro (HH.out W h).2.1.2.2 (And.intro (HH.out W h).2.2.1 (And.intro (HH.out W h).2.2.2.1 (HH.out W h).2.2.2.2.1))))))
    go_region_held3 (fun w' => w'.cell? ⟨Wb, 1, none⟩ = some (.slice (some g2) (lens gs).length c2) ∧ w'.cell? ⟨Wb, 2, none⟩ = some (.slice (some ⟨g3, 0, none⟩) (mapsK nx gs gs.length).length c3) ∧ w'.cell? ⟨Kp, 1, none⟩ = some (.int .i64 (a : Int)) ∧ w'.cell? ⟨Kp, 2, none⟩ = some (.int .i64 (b : Int)) ∧ w'.cell? ⟨Qb, 0, none⟩ = some (findV Wb Qb) ∧ w'.cell? (g2.add a) = some (.int .i64 la) ∧ w'.cell? ⟨g3, a * 24 + t, none⟩ = some (.int .i64 (q : Int)))
      (first | (with_reducible exact HC.out) | (with_reducible exact HC9.out) | exact HC.out | exact HC9.out | go_keep)
      (first
        | (go_at_call_of 157 (Value.int .i64 (b : Int))
           refine (HB3.out _).mono ?_
           rintro e w9 ⟨rfl, hB9⟩
           have hB9 : Below wk.heap.size wk w9 := below_undrew hB9
           have HC9 := Lib.hid (HH2.out w9 hB9)
           have HB9 := Lib.hid (HBK.out.trans (hB9.mono HBK.out.size))
           clear hB9))
    all_goals
      go_wp2_with fail
      go_ret
      exact ⟨by rw [HE.out]; rfl, HB9.out⟩
theorem find_any (Wb Qb : Nat) (gv lv mv vv : Value) (st0 : Int) (lo : Nat) (wa : Int → Bool) (nx : List (List Int)) (gs : List Rl) (st : Int) (h1 : 1 ≤ st) (h24 : st ≤ 24) (hrow : nx.all (rowOk st) = true) (hlen : (nx.length : Int) = st) (hok : gOk gs = true) : ∀ m k s (c : Int), k < m → k < gs.length → s < 24 → 0 ≤ c → c < at2 (visK wa nx gs gs.length) k s →
    FindC Wb Qb gv lv mv vv st0 lo nx (visK wa nx gs gs.length) gs k (s : Nat) c (fndF wa nx gs (k + 1) k s c)
  | 0, k, s, c, hm, _, _, _, _ => by omega
  | m + 1, k, s, c, hm, hk, hs, hc0, hc => by
    have hfit := (gOk_iff.1 hok).2.1
    rcases rule_cases hfit hk with hz | ⟨hz, a, b, ha, hb, hak, hbk⟩
    · rw [fnd_letter wa nx hk hz]
      exact find_letter Wb Qb gv lv mv vv st0 lo nx _ gs k s c hk hz
    · have hmb := map_lt hrow hlen h1 h24 hfit (show a < gs.length by omega) hs
      have va := vis_fir wa hrow hlen h1 h24 hfit (a + 1) a s (by omega) (by omega) hs
      have ba := fnd_bd wa hrow hlen h1 h24 hfit (a + 1) a s c (by omega) (by omega) hs
      have bb := fnd_bd wa hrow hlen h1 h24 hfit (b + 1) b (at2 (mapsK nx gs gs.length) a s).toNat (c - at2 (visK wa nx gs gs.length) a s) (by omega) (by omega) hmb
      have bk := fnd_bd wa hrow hlen h1 h24 hfit (k + 1) k s c (by omega) hk hs
      have sa := small_at (gOk_iff.1 hok).2.2 a (by omega)
      have sb := small_at (gOk_iff.1 hok).2.2 b (by omega)
      have sk := small_at (gOk_iff.1 hok).2.2 k hk
      have la := lens_pos (gs := gs) (k := a) (by omega) (fun j hj _ => fits_at hfit j hj)
      have hma := (mapsK_ok hrow hlen h1 h24 hfit gs.length (Nat.le_refl _) a (by omega))
      have hq0 : 0 ≤ at2 (mapsK nx gs gs.length) a s := by
        unfold at2
        rw [List.getD_eq_getElem?_getD (i := s), List.getElem?_eq_getElem (by rw [hma.1]; omega), Option.getD_some]
        exact (hma.2 _ (List.getElem_mem _)).1
      have hvp := vis_pair wa nx hk hz ha hb hak hbk hs
      have hcb : c ≤ 1000000000000000 := by have := bk.1; omega
      rw [hvp] at hc
      rw [fnd_pair wa nx hk hz ha hb, fnd_stable wa nx hfit k (a + 1) a s c (by omega) (by omega) (by omega), fnd_stable wa nx hfit k (b + 1) b _ _ (by omega) (by omega) (by omega)]
      obtain ⟨q, hq⟩ : ∃ q : Nat, at2 (mapsK nx gs gs.length) a s = q := ⟨(at2 (mapsK nx gs gs.length) a s).toNat, by omega⟩
      rw [hq, Int.toNat_natCast] at hc hmb bb ⊢
      exact find_pair Wb Qb gv lv mv vv st0 lo nx _ gs k a b s q c _ _ hk hz ha hb hak hbk hs (visK_len wa nx gs _) hq hc0 hcb va.1 (by omega) sa (by omega)
        (fun h => by have := bb.2 (by omega) (by omega); omega)
        (fun h => find_any Wb Qb gv lv mv vv st0 lo wa nx gs st h1 h24 hrow hlen hok m a s c (by omega) (by omega) hs hc0 h)
        (fun h => find_any Wb Qb gv lv mv vv st0 lo wa nx gs st h1 h24 hrow hlen hok m b q (c - at2 (visK wa nx gs gs.length) a s) (by omega) (by omega) hmb (by omega) (by omega))
set_option maxRecDepth 100000 in
set_option maxHeartbeats 3200000 in
theorem visit_any (sv gv : Value) (gs : List Rl) (wa : Int → Bool) (nx : List (List Int)) (st s c : Int) (lo : Nat) (w : World) (h1 : 1 ≤ st) (h24 : st ≤ 24) (hrow : nx.all (rowOk st) = true) (hlen : (nx.length : Int) = st) (hok : gOk gs = true) (hr : Rules w gv gs) (hW : IsS w lo sv gv gs nx (visK wa nx gs gs.length) s) (hs : 0 ≤ s ∧ s < 24) (hg0 : 0 < gs.length) (hc0 : 0 ≤ c) (hc : c < allV (visK wa nx gs gs.length) gs s) :
    Calls Try.prog 91 #[sv, .int .i64 c] w fun e w' => e = .returned (.int .i64 (fndF wa nx gs gs.length (gs.length - 1) s.toNat c)) ∧ Below w.heap.size w w' := by
  have hmf : ∀ (fn : Fn) (first cap : Array Value) (w : World), (Instr.makeFunc fn first cap).run Try.prog w = .ok (.func fn first cap) w := fun _ _ _ _ => rfl
  obtain ⟨lv, mv, vv, rfl, h2, h3, h4⟩ := hW
  have hn400 := gOk_len hok
  have hfit := (gOk_iff.1 hok).2.1
  have hb : Below w.heap.size w ((w.alloc (.cells #[gv, lv, mv, .int .i64 s, vv] 116)).alloc (.cells #[findV w.heap.size (w.heap.size + 1)] 202)) := ((Below.refl _ w).alloc (Nat.le_refl _) _).alloc (by simp) _
  have hP : B5 ((w.alloc (.cells #[gv, lv, mv, .int .i64 s, vv] 116)).alloc (.cells #[findV w.heap.size (w.heap.size + 1)] 202)) w.heap.size gv lv mv (.int .i64 s) vv 116 := B5.kept (heap_alloc_new w _) ((Below.refl _ _).alloc (Nat.le_refl _) _)
  have hQ := heap_alloc_new (w.alloc (.cells #[gv, lv, mv, .int .i64 s, vv] 116)) (.cells #[findV w.heap.size (w.heap.size + 1)] 202)
  rw [show (w.alloc (.cells #[gv, lv, mv, .int .i64 s, vv] 116)).heap.size = w.heap.size + 1 from by simp] at hQ
  have hq := cell_of_row _ _ 0 _ _ _ hQ
  have hk : ((gs.length : Int) - 1) = ((gs.length - 1 : Nat) : Int) := by omega
  have hst : ((s.toNat : Nat) : Int) = s := by omega
  have HLD : Hid (∀ W, Below ((w.alloc (.cells #[gv, lv, mv, .int .i64 s, vv] 116)).alloc (.cells #[findV w.heap.size (w.heap.size + 1)] 202)).heap.size ((w.alloc (.cells #[gv, lv, mv, .int .i64 s, vv] 116)).alloc (.cells #[findV w.heap.size (w.heap.size + 1)] 202)) W → Calls Try.prog 157 #[.int .i64 ((gs.length : Int) - 1), .int .i64 s, .int .i64 c, .pointer (some ⟨w.heap.size, 0, none⟩), .pointer (some ⟨w.heap.size + 1, 0, none⟩)] W fun e w' => e = .returned (.int .i64 (fndF wa nx gs gs.length (gs.length - 1) s.toNat c)) ∧ Below W.heap.size W w') := Lib.hid (fun W hW => by
    unfold allV at hc
    rw [if_neg (by omega)] at hc
    have := find_any w.heap.size (w.heap.size + 1) gv lv mv vv s lo wa nx gs st h1 h24 hrow hlen hok gs.length (gs.length - 1) s.toNat c (by omega) (by omega) (by omega) hc0 hc W ⟨hP.kept hW, (hW.cell (lt_of_cell hq)).trans hq, (hr.kept hb).kept hW, ((IsL.of_own h2).kept hb).kept hW, (h3.kept hb).kept hW, (h4.kept hb).kept hW⟩
    rw [hk]
    rw [hst, show gs.length - 1 + 1 = gs.length by omega] at this
    exact this)
  have HB := Lib.hid hb
  obtain ⟨p0, p1, p2, p3, p4⟩ := b5_cells hP
  obtain ⟨Ag, cg, rfl, hRx⟩ := hr
  obtain ⟨A2, c2, rfl⟩ := own_slice h2
  obtain ⟨A3, c3, rfl, h3x⟩ := h3
  obtain ⟨A4, c4, rfl, h4x⟩ := h4
  have HLO := Lib.hid (fun W => lastOf_any Ag gs.length cg hn400 W)
  generalize fndF wa nx gs gs.length (gs.length - 1) s.toNat c = z at *
  clear hok hs hrow hlen hn400 hfit hRx h3x h4x h2 hP hQ hc hc0 hg0 hk hst
  go_enter Try.func91, Try.ntmps91
  go_upto_region 3 with fail
  have hq : ((w.alloc (.cells #[.slice Ag gs.length cg, .slice A2 (lens gs).length c2, .slice A3 (mapsK nx gs gs.length).length c3, .int .i64 s, .slice A4 (visK wa nx gs gs.length).length c4] 116)).alloc (.cells #[findV w.heap.size (w.heap.size + 1)] 202)).cell? ⟨w.heap.size + 1, 0, none⟩ = some (findV w.heap.size (w.heap.size + 1)) := hq
  generalize (w.alloc (.cells #[.slice Ag gs.length cg, .slice A2 (lens gs).length c2, .slice A3 (mapsK nx gs gs.length).length c3, .int .i64 s, .slice A4 (visK wa nx gs gs.length).length c4] 116)).alloc (.cells #[findV w.heap.size (w.heap.size + 1)] 202) = w2 at *
  have HLE := Lib.hid (fun m => HLD.out (w2.drewN m) (below_drewN (Below.refl _ w2) m))
  clear hb HLD
  have HQ := Lib.hid hq
  have HS := Lib.hid (And.intro hq (And.intro p0 p3))
  have HP0 := Lib.hid p0
  have HP3 := Lib.hid p3
  go_region_held3 (fun w' => w'.cell? ⟨w.heap.size + 1, 0, none⟩ = some (findV w.heap.size (w.heap.size + 1)) ∧ w'.cell? ⟨w.heap.size, 0, none⟩ = some (.slice Ag gs.length cg) ∧ w'.cell? ⟨w.heap.size, 3, none⟩ = some (.int .i64 s))
    (first | (with_reducible exact HS.out) | (with_reducible exact HS9.out) | exact HS.out | exact HS9.out)
    (first
      | (go_at_call 135
         refine (HLO.out _).mono ?_
         rintro e w8 ⟨rfl, rfl⟩)
      | (go_at_call 157
         refine (HLE.out _).mono ?_
         rintro e w9 ⟨rfl, hB9⟩
         have hB9 : Below w2.heap.size w2 w9 := below_undrew hB9
         have HS9 := Lib.hid (And.intro ((hB9.cell (lt_of_cell HQ.out)).trans HQ.out) (And.intro ((hB9.cell (lt_of_cell HP0.out)).trans HP0.out) ((hB9.cell (lt_of_cell HP3.out)).trans HP3.out)))
         have HB9 := Lib.hid (HB.out.trans (hB9.mono HB.out.size))
         clear hB9))
  all_goals
    go_wp2_with fail
    go_ret
    exact ⟨rfl, HB9.out⟩
end Go.Proofs.Ytaffachjopjbgaa
namespace Go.Proofs.Ytaffachjopjbgaa
open Go.RowKit
open Wd
set_option linter.unusedVariables false
theorem Try.info_tally : (Try.prog.info? 201).map (fun i => (i.zero, i.size, i.bytes)) = some (some (.agg (iv (List.replicate 24 0)).toArray), 24, 192) := by kernel_rfl
theorem set_apart (w : World) (M o o' : Nat) (v : Value) (h : o' ≠ o) : (w.setCell ⟨M, o, none⟩ v).cell? ⟨M, o', none⟩ = w.cell? ⟨M, o', none⟩ := by
  unfold World.setCell World.cell?
  simp only [Array.getElem?_modify, if_true]
  cases hh : w.heap[M]? with
  | none => rfl
  | some x =>
    cases x <;> simp [Ne.symm h]
theorem rowS_skip {row : List Int} {s : Nat} (h : row.length = 24) (hs : s < 24) (hz : row[s]'(by omega) = 0) : rowS row (s + 1) = rowS row s := by
  rw [← rowS_set h hs, hz]
  apply List.ext_getElem?
  intro i
  rw [List.getElem?_set]
  by_cases hi : s = i
  · subst hi
    rw [if_pos rfl, if_pos (by rw [rowS_len h (by omega)]; exact hs)]
    unfold rowS
    rw [List.getElem?_append_right (by rw [List.length_take]; omega), List.getElem?_replicate, if_pos (by rw [List.length_take]; omega)]
  · rw [if_neg hi]
theorem b5_all {w : World} {R : Nat} {t : TypeId} {a b c d e a' b' c' d' e' : Value} (h : B5 w R a b c d e t) : B5 (((((w.setCell ⟨R, 0, none⟩ a').setCell ⟨R, 1, none⟩ b').setCell ⟨R, 2, none⟩ c').setCell ⟨R, 3, none⟩ d').setCell ⟨R, 4, none⟩ e') R a' b' c' d' e' t := by
  unfold B5 at h ⊢
  simp [World.setCell, Array.getElem?_modify, h]
theorem b5_frozen {w : World} {R o : Nat} {t : TypeId} {a b c d e : Value} (h : B5 w R a b c d e t) : w.frozen? ⟨R, o, none⟩ = false := by unfold B5 at h; simp [World.frozen?, h]
/-- between two rules -/
def SfRel (wa : Int → Bool) (nx : List (List Int)) (gs : List Rl) (w : World) (M n : Nat) (i : Value) (wr : World) : Prop :=
  ∃ k : Nat, k ≤ n ∧ i = .int .i64 k ∧ wr.ownsRow M 201 24 (.slice (some ⟨M, 0, none⟩) n n) n (iv (flK (visK wa nx gs k) n)) ∧ Below M w wr
set_option maxRecDepth 100000 in
set_option maxHeartbeats 12800000 in
theorem searchFor_any (wv gv : Value) (gs : List Rl) (nx : List (List Int)) (st go : Int) (lo P : Nat) (wa : Int → Bool) (w : World) (h1 : 1 ≤ st) (h24 : st ≤ 24) (hrow : nx.all (rowOk st) = true) (hlen : (nx.length : Int) = st) (hok : gOk gs = true) (hr : Rules w gv gs) (hW : IsW w lo wv gv gs nx go) (hwd : ∀ (W : World) (z : Int), Below w.heap.size w W → Calls Try.prog 161 #[.int .i64 z, .pointer (some ⟨P, 0, none⟩)] W fun e w' => e = .returned (.bool (wa z)) ∧ w' = W) :
    Calls Try.prog 88 #[wv, .func (.func 161) #[] #[.pointer (some ⟨P, 0, none⟩)]] w fun e w' => ∃ sv, e = .returned sv ∧ IsS w' 0 sv gv gs nx (visK wa nx gs gs.length) go ∧ Below w.heap.size w w' := by
  obtain ⟨i0, hi, hz0, hz1, hz2⟩ := info_parts Try.info_tally
  obtain ⟨lv, mv, rfl, h2, h3⟩ := hW
  have hn400 := gOk_len hok
  have hfit := (gOk_iff.1 hok).2.1
  have H2 := Lib.hid h2
  have H3 := Lib.hid h3
  have HR := Lib.hid hr
  have HP := Lib.hid hwd
  have HROW := Lib.hid hrow
  have HLEN := Lib.hid hlen
  have HFIT := Lib.hid hfit
  have HSM := Lib.hid (fun j (hj : j < gs.length) => small_at (gOk_iff.1 hok).2.2 j hj)
  obtain ⟨Ag, cg, rfl, hrx⟩ := hr
  obtain ⟨A2, c2, rfl⟩ := own_slice h2
  obtain ⟨A3, c3, rfl, h3x⟩ := h3
  have hb : Below w.heap.size w ((w.alloc (.cells #[.slice Ag gs.length cg, .slice A2 (lens gs).length c2, .slice A3 (mapsK nx gs gs.length).length c3, .int .i64 go] 110)).alloc (.cells #[.slice none 0 0, .slice none 0 0, .slice none 0 0, .int .i64 0, .slice none 0 0] 116)) := ((Below.refl _ w).alloc (Nat.le_refl _) _).alloc (by simp) _
  have hWb : B4 ((w.alloc (.cells #[.slice Ag gs.length cg, .slice A2 (lens gs).length c2, .slice A3 (mapsK nx gs gs.length).length c3, .int .i64 go] 110)).alloc (.cells #[.slice none 0 0, .slice none 0 0, .slice none 0 0, .int .i64 0, .slice none 0 0] 116)) w.heap.size (.slice Ag gs.length cg) (.slice A2 (lens gs).length c2) (.slice A3 (mapsK nx gs gs.length).length c3) (.int .i64 go) 110 := (B4.new w _ _ _ _ _).alloc _
  have HB := Lib.hid hb
  have HWB := Lib.hid hWb
  have hSb : B5 ((w.alloc (.cells #[.slice Ag gs.length cg, .slice A2 (lens gs).length c2, .slice A3 (mapsK nx gs gs.length).length c3, .int .i64 go] 110)).alloc (.cells #[.slice none 0 0, .slice none 0 0, .slice none 0 0, .int .i64 0, .slice none 0 0] 116)) (w.heap.size + 1) (.slice none 0 0) (.slice none 0 0) (.slice none 0 0) (.int .i64 0) (.slice none 0 0) 116 := by
    have := heap_alloc_new (w.alloc (.cells #[.slice Ag gs.length cg, .slice A2 (lens gs).length c2, .slice A3 (mapsK nx gs gs.length).length c3, .int .i64 go] 110)) (.cells #[.slice none 0 0, .slice none 0 0, .slice none 0 0, .int .i64 0, .slice none 0 0] 116)
    rwa [show (w.alloc (.cells #[.slice Ag gs.length cg, .slice A2 (lens gs).length c2, .slice A3 (mapsK nx gs gs.length).length c3, .int .i64 go] 110)).heap.size = w.heap.size + 1 from by simp] at this
  have HSB := Lib.hid hSb
  clear hSb
  clear hb hWb hrx h3x h2 hrow hlen hfit hok hwd
  go_enter Try.func88, Try.ntmps88
  go_upto_region 1 with fail
  obtain ⟨⟨p0, p1, p2, p3⟩, _⟩ := blk4_cells HWB.out
  have HN0 : Hid (gs.length ≤ 400) := Lib.hid hn400
  obtain ⟨w5, hw5⟩ : ∃ w5, w5 = ((w.alloc (.cells #[.slice Ag gs.length cg, .slice A2 (lens gs).length c2, .slice A3 (mapsK nx gs gs.length).length c3, .int .i64 go] 110)).alloc (.cells #[.slice none 0 0, .slice none 0 0, .slice none 0 0, .int .i64 0, .slice none 0 0] 116)) := ⟨_, rfl⟩
  rw [← hw5] at HB HWB HSB p0 p1 p2 p3 ⊢
  clear hw5
  obtain ⟨n, hne⟩ : ∃ n, n = gs.length := ⟨_, rfl⟩
  rw [← hne] at p0 hn400
  have HN := Lib.hid hne
  clear hne
  go_wp2_with (refine wpList_make_full _ rfl _ _ 114 rfl w5.heap.size 201 i0 (.agg (iv (List.replicate 24 0)).toArray) 24 Try.underlying114 hi hz0 hz1 .i64 .i64 _ _ n rfl rfl rfl rfl (by rw [hz2]; omega) (by unfold maxLen; omega) (Nat.le_refl _) ?_)
  intro w6 hown hgr
  have hown : w6.ownsRow w5.heap.size 201 24 (.slice (some ⟨w5.heap.size, 0, none⟩) n n) n (iv (flK [] n)) := by rw [← made_map]; exact hown
  have hB6 := below_of_grown hgr
  obtain ⟨M, hM⟩ : ∃ M, M = w5.heap.size := ⟨_, rfl⟩
  rw [← hM] at hown hB6 ⊢
  have HST : Hid (SfRel wa nx gs w5 M n (.int .i64 0) w6) := Lib.hid ⟨0, Nat.zero_le _, rfl, hown, hB6⟩
  have HME := Lib.hid hM
  have HWB5 := Lib.hid (fun W (hb : Below w5.heap.size w5 W) => HWB.out.kept hb)
  obtain ⟨⟨y0, y1, y2, y3⟩, _⟩ := blk4_cells (HWB5.out w6 (by rw [← hM]; exact hB6))
  rw [← HN.out] at y0
  clear hown hgr hB6 hM p0 p1 p2 p3
  go_wp2_with fail
  clear y0 y1 y2 y3
  go_loopw [20] (fun i wr => SfRel wa nx gs w5 M n i wr) (fun i _ => n - (intOf i).toNat)
  case atStart => exact HST.out
  case round =>
    obtain ⟨k, hk, rfl, hown, hB⟩ := hrel
    obtain ⟨wo, rfl⟩ : ∃ wo : World, wo = wr := ⟨_, rfl⟩
    have hB' : Below w5.heap.size w5 wo := by rw [← HME.out]; exact hB
    have hBw := HB.out.trans (hB'.mono HB.out.size)
    obtain ⟨⟨p0, p1, p2, p3⟩, _⟩ := blk4_cells (HWB5.out wo hB')
    rw [← HN.out] at p0
    by_cases hkn : k < n
    · have hkg : k < gs.length := by rw [← HN.out]; exact hkn
      obtain ⟨Ay, cy, hvy, hcy⟩ := HR.out.kept hBw
      injection hvy with hvA _ hvc
      subst hvA hvc
      rcases hcy with hn0 | ⟨g, rfl, hg, hc⟩
      · rw [hn0] at hkg; simp at hkg
      obtain ⟨a0, a1, a2⟩ := rules_cells hc hkg
      have k0 : (0 : Int) ≤ (k : Int) := by omega
      have k1 : (k : Int) < (n : Int) := by omega
      have hM : M < wo.heap.size := (hown.lt M rfl).2
      have HOW := Lib.hid hown
      have HBO := Lib.hid hB
      clear hown hB hB' hBw hc hg
      obtain ⟨A3', c3', hv3, h3z | ⟨g3, hA3, _, h3c⟩⟩ := H3.out
      · have := mapsK_len nx gs gs.length; rw [h3z] at this; simp at this; omega
      injection hv3 with hv3 hv4 hv5
      clear hv4 hv5
      rw [← hv3] at hA3
      subst hA3
      have hmk := mapsK_ok HROW.out HLEN.out h1 h24 HFIT.out gs.length (Nat.le_refl _) k hkg
      have HRM := Lib.hid (fun W (hb : Below w.heap.size w W) => show W.rangeAt g3 (k * 24) (iv ((mapsK nx gs gs.length).getD k [])) from by
        intro i v hv
        have hi24 : i < 24 := by have := (List.getElem?_eq_some_iff.1 hv).1; rw [iv_len, hmk.1] at this; exact this
        rw [iv_get _ i (by rw [hmk.1]; omega)] at hv
        injection hv with hv
        subst hv
        have h5 := h3c k i (by rw [mapsK_len]; exact hkg) hi24
        rw [List.getD_eq_getElem?_getD (i := i), List.getElem?_eq_getElem (by rw [hmk.1]; omega)] at h5
        exact (hb.cell (lt_of_cell h5)).trans h5)
      have HMC := Lib.hid (fun W (hb : Below w.heap.size w W) j i (hj : j < gs.length) (hi : i < 24) => show W.cell? ⟨g3, j * 24 + i, none⟩ = some (.int .i64 (at2 (mapsK nx gs gs.length) j i)) from by
        have h5 := h3c j i (by rw [mapsK_len]; exact hj) hi
        exact (hb.cell (lt_of_cell h5)).trans h5)
      obtain ⟨m, hm⟩ : ∃ m, m = (mapsK nx gs gs.length).getD k [] := ⟨_, rfl⟩
      rw [← hm] at HRM hmk
      have HMM := Lib.hid hm
      have HMK := Lib.hid hmk
      have hmz : (Try.prog.info? 197).map (·.size) = some (iv m).length := by rw [size_map, iv_len, hmk.1]
      have HMZ := Lib.hid hmz
      have HBW := Lib.hid (HB.out.trans ((show Below w5.heap.size w5 wo by rw [← HME.out]; exact HBO.out).mono HB.out.size))
      have k2 : (k : Int) < ((mapsK nx gs gs.length).length : Int) := by rw [mapsK_len]; omega
      clear hv3 hm hmk hmz h3c
      obtain ⟨row, hrw⟩ : ∃ row, row = visR wa (mapsK nx gs k) (visK wa nx gs k) gs[k] ((mapsK nx gs (k + 1)).getD k []) := ⟨_, rfl⟩
      have hr24 : row.length = 24 := by rw [hrw, visR_len]
      have HNX : Hid (visK wa nx gs (k + 1) = visK wa nx gs k ++ [row]) := Lib.hid (by rw [visK, List.getD_eq_getElem?_getD (l := gs), List.getElem?_eq_getElem hkg, hrw]; rfl)
      have HRV : Hid (∀ s (hs : s < 24), row[s]'(by omega) = at2 (visK wa nx gs gs.length) k s) := Lib.hid (fun s hs => by
        rw [visK_at wa nx gs k s _ hkg]
        unfold at2
        rw [HNX.out, getD_snoc_eq _ _ _ _ (visK_len wa nx gs k).symm, List.getD_eq_getElem?_getD, List.getElem?_eq_getElem (by omega)]
        rfl)
      have HVW := Lib.hid (visK_wide wa nx gs k)
      have HVL := Lib.hid (visK_len wa nx gs k)
      have HR24 := Lib.hid hr24
      clear hrw
      by_cases h0 : gs[k].L.size = 0
      · have HK := Lib.hid (fun W => kind_pair gs[k] h0 W)
        have HT := tm_pp
        have hp := (ok_pair h0).1 (fits_at HFIT.out k hkg)
        obtain ⟨a, ha⟩ : ∃ a : Nat, gs[k].l = a := ⟨gs[k].l.toNat, by omega⟩
        obtain ⟨b, hb⟩ : ∃ b : Nat, gs[k].r = b := ⟨gs[k].r.toNat, by omega⟩
        have hak : a < k := by omega
        have hbk : b < k := by omega
        have HVP := Lib.hid (fun s (hs : s < 24) => vis_pair wa nx hkg h0 ha hb hak hbk hs)
        have hag : agg3 gs[k] = .agg #[.string ⟨#[]⟩, .int .i64 (a : Int), .int .i64 (b : Int)] := by
          unfold agg3
          rw [empty_arr h0, ha, hb]
        rw [hag] at HK
        rw [empty_arr h0] at a0
        rw [ha] at a1
        rw [hb] at a2
        clear hp hag ha hb h0
        go_wp2_with fail
        refine (HK.out _).mono ?_
        rintro e w7 ⟨rfl, hB7⟩
        have hb7 := ((Below.refl _ wo).alloc (Nat.le_refl _) (.cells #[.string ⟨#[]⟩, .int .i64 (a : Int), .int .i64 (b : Int)] 127)).trans (hB7.mono (by simp))
        have HB7 := Lib.hid hb7
        have q2 := (hb7.cell (lt_of_cell p2)).trans p2
        have HRM7 := Lib.hid (HRM.out w7 (HBW.out.trans (hb7.mono HBW.out.size)))
        clear hB7 hb7 a0 a1 a2 p0 p1 p2 p3
        go_wp2_with (first | (with_reducible refine wpList_load_mid rfl 197 _ rfl g3 (k * 24) rfl (iv m) _ HRM7.out und_map rfl HMZ.out ?_))
        have HOWs : Hid (w7.ownsRow M 201 24 (.slice (some ⟨M, 0, none⟩) n n) n (iv (flS (visK wa nx gs k) row 0 n))) := Lib.hid (by
          rw [flS_zero (by rw [HVL.out]; exact hkn)]
          exact own_below HOW.out HB7.out (Nat.le_refl _))
        have HB57 : Hid (Below M w5 w7) := Lib.hid (HBO.out.trans (HB7.out.mono (by omega)))
        clear q2
        go_loopw [32] (fun i wr => ∃ s : Nat, s ≤ 24 ∧ i = .int .i64 s ∧ wr.ownsRow M 201 24 (.slice (some ⟨M, 0, none⟩) n n) n (iv (flS (visK wa nx gs k) row s n)) ∧ Below M w5 wr) (fun i _ => 24 - (intOf i).toNat)
        case atStart => exact ⟨0, by omega, rfl, HOWs.out, HB57.out⟩
        case round =>
          obtain ⟨s, hs, rfl, hos, hBs⟩ := hrel
          obtain ⟨wu, rfl⟩ : ∃ wu : World, wu = wr := ⟨_, rfl⟩
          by_cases hs24 : s < 24
          · have hBs5 : Below w5.heap.size w5 wu := by rw [← HME.out]; exact hBs
            obtain ⟨⟨p0, p1, p2, p3⟩, _⟩ := blk4_cells (HWB5.out wu hBs5)
            have hBwu := HB.out.trans (hBs5.mono HB.out.size)
            have cq := HMC.out wu hBwu a s (by omega) hs24
            have hqb := map_lt HROW.out HLEN.out h1 h24 HFIT.out (k := a) (s := s) (by omega) hs24
            have hma := (mapsK_ok HROW.out HLEN.out h1 h24 HFIT.out gs.length (Nat.le_refl _) a (by omega))
            have hq0 : 0 ≤ at2 (mapsK nx gs gs.length) a s := by
              unfold at2
              rw [List.getD_eq_getElem?_getD (i := s), List.getElem?_eq_getElem (by rw [hma.1]; omega), Option.getD_some]
              exact (hma.2 _ (List.getElem_mem _)).1
            have hvp := HVP.out s hs24
            have va := vis_fir wa HROW.out HLEN.out h1 h24 HFIT.out (a + 1) a s (by omega) (by omega) hs24
            have vb := vis_fir wa HROW.out HLEN.out h1 h24 HFIT.out (b + 1) b (at2 (mapsK nx gs gs.length) a s).toNat (by omega) (by omega) hqb
            have ba := (fnd_bd wa HROW.out HLEN.out h1 h24 HFIT.out (a + 1) a s 0 (by omega) (by omega) hs24).1
            have bb := (fnd_bd wa HROW.out HLEN.out h1 h24 HFIT.out (b + 1) b (at2 (mapsK nx gs gs.length) a s).toNat 0 (by omega) (by omega) hqb).1
            have sa := HSM.out a (by omega)
            have sb := HSM.out b (by omega)
            obtain ⟨q, hq⟩ : ∃ q : Nat, at2 (mapsK nx gs gs.length) a s = q := ⟨(at2 (mapsK nx gs gs.length) a s).toNat, by omega⟩
            rw [hq, Int.toNat_natCast] at hvp vb bb hqb
            rw [hq] at cq
            have hcell : ∀ j i, j < k → i < 24 → wu.cell? ⟨M, j * 24 + i, none⟩ = some (.int .i64 (at2 (visK wa nx gs gs.length) j i)) := fun j i hj hi => by
              have h5 := flS_get (row := row) (s := s) (n := n) HVW.out (by rw [HVL.out]; exact hj) hi
              have hl5 := flS_len (row := row) (s := s) (n := n) HVW.out hr24 (by omega) (by rw [HVL.out]; exact hkn)
              rw [World.ownsRow.cellAt hos (j * 24 + i) (by omega), iv_get _ _ (by rw [hl5]; omega)]
              rw [List.getElem?_eq_getElem (by rw [hl5]; omega)] at h5
              injection h5 with h5
              rw [h5, visK_at wa nx gs j i k hj, visK_at wa nx gs j i gs.length (by omega)]
            have ca := hcell a s hak hs24
            have cb := hcell b q hbk hqb
            have HSTO := Lib.hid (fun (hv : Nat) => flS_store (w := wu) hos HVW.out hr24 hs24 (by rw [HVL.out]; exact hkn))
            have hzr := HRV.out s hs24
            rw [hvp] at hzr
            have HOSS := Lib.hid hos
            have HBSS := Lib.hid hBs
            clear hos hBs hBs5 hBwu hcell hma hq0 hvp hq
            generalize at2 (visK wa nx gs gs.length) a s = V at *
            generalize at2 (visK wa nx gs gs.length) b q = V2 at *
            have hws : IntKind.i64.wrap (V + V2) = V + V2 := IntWalk.i64_in _ (by omega)
            have hix := index_map m HMK.out.1 s hs24
            unfold mv at hix
            have hMu : M < wu.heap.size := (HOSS.out.lt M rfl).2
            have hbk := (Below.refl _ wu).alloc (Nat.le_refl _) (.cells #[.string ⟨#[]⟩, .int .i64 (a : Int), .int .i64 (b : Int)] 198)
            have kcs := heap_alloc_new wu (.cells #[.string ⟨#[]⟩, .int .i64 (a : Int), .int .i64 (b : Int)] 198)
            obtain ⟨_, r1, r2⟩ := rule3_cellsV kcs
            have P2 := (hbk.cell (lt_of_cell p2)).trans p2
            have CA := (hbk.cell (p := ⟨M, a * 24 + s, none⟩) hMu).trans ca
            have CB := (hbk.cell (p := ⟨M, b * 24 + q, none⟩) hMu).trans cb
            have CQ := (hbk.cell (lt_of_cell cq)).trans cq
            have hgM : g3 < M := by rw [HME.out]; exact Nat.lt_of_lt_of_le (lt_of_cell (HMC.out w (Below.refl _ _) a s (by omega) hs24)) HB.out.size
            have hwM : w.heap.size < M := by rw [HME.out]; exact HWB.out.lt
            go_upto_region 11 with fail
            obtain ⟨Kp, hKp⟩ : ∃ Kp, Kp = wu.heap.size := ⟨_, rfl⟩
            rw [← hKp] at r1 r2 ⊢
            have HOK : Hid ((wu.alloc (.cells #[.string ⟨#[]⟩, .int .i64 (a : Int), .int .i64 (b : Int)] 198)).ownsRow M 201 24 (.slice (some ⟨M, 0, none⟩) n n) n (iv (flS (visK wa nx gs k) row s n))) := Lib.hid (own_below HOSS.out hbk (Nat.le_refl _))
            have HBK : Hid (Below M w5 (wu.alloc (.cells #[.string ⟨#[]⟩, .int .i64 (a : Int), .int .i64 (b : Int)] 198))) := Lib.hid (HBSS.out.trans (hbk.mono (by omega)))
            have hKM : M ≠ Kp := by omega
            have hKM2 : Kp ≠ M := by omega
            have hgM2 : g3 ≠ M := by omega
            have hwM2 : w.heap.size ≠ M := by omega
            clear hbk kcs p0 p1 p2 p3 ca cb cq hKp
            generalize wu.alloc (.cells #[.string ⟨#[]⟩, .int .i64 (a : Int), .int .i64 (b : Int)] 198) = wk at *
            have HNX2 : Hid ((wk.setCell ⟨M, k * 24 + s, none⟩ (.int .i64 (V + V2))).ownsRow M 201 24 (.slice (some ⟨M, 0, none⟩) n n) n (iv (flS (visK wa nx gs k) row (s + 1) n))) := Lib.hid (by
              have := flS_store (w := wk) HOK.out HVW.out hr24 hs24 (by rw [HVL.out]; exact hkn)
              rw [HVL.out, hzr] at this
              exact this)
            have HBX : Hid (Below M w5 (wk.setCell ⟨M, k * 24 + s, none⟩ (.int .i64 (V + V2)))) := Lib.hid (HBK.out.setCell (Nat.le_refl _) _)
            have e1 : a * 24 + s ≠ k * 24 + s := by omega
            have e2 : b * 24 + q ≠ k * 24 + s := by omega
            have hfz : wk.frozen? ⟨M, k * 24 + s, none⟩ = false := HOK.out.frozenAt _
            have hfd : wk.drew.frozen? ⟨M, k * 24 + s, none⟩ = false := hfz
            obtain ⟨old, hct⟩ : ∃ old, wk.cell? ⟨M, k * 24 + s, none⟩ = some old := by
              have hl5 := flS_len (row := row) (s := s) (n := n) HVW.out hr24 (by omega) (by rw [HVL.out]; exact hkn)
              have h9 := World.ownsRow.cellAt HOK.out (k * 24 + s) (by omega)
              rw [iv_get _ _ (by rw [hl5]; omega)] at h9
              exact ⟨_, h9⟩
            have hcd : wk.drew.cell? ⟨M, k * 24 + s, none⟩ = some old := hct
            have a0' : (0 : Int) ≤ (a : Int) := by omega
            have a1' : (a : Int) < (n : Int) := by omega
            have a2' : (a : Int) < ((mapsK nx gs gs.length).length : Int) := by rw [mapsK_len]; omega
            have b0' : (0 : Int) ≤ (b : Int) := by omega
            have b1' : (b : Int) < (n : Int) := by omega
            have q0' : (0 : Int) ≤ (q : Int) := by omega
            have q1' : (q : Int) < 24 := by omega
            have s0' : (0 : Int) ≤ (s : Int) := by omega
            have s1' : (s : Int) < 24 := by omega
            have HS := Lib.hid (And.intro r1 (And.intro r2 (And.intro P2 (And.intro CQ (And.intro CA CB)))))
            have HS2 := Lib.hid (show ((wk.setCell ⟨M, k * 24 + s, none⟩ (.int .i64 (V + V2))).cell? ⟨Kp, 1, none⟩ = some (.int .i64 (a : Int)) ∧ (wk.setCell ⟨M, k * 24 + s, none⟩ (.int .i64 (V + V2))).cell? ⟨Kp, 2, none⟩ = some (.int .i64 (b : Int)) ∧ (wk.setCell ⟨M, k * 24 + s, none⟩ (.int .i64 (V + V2))).cell? ⟨w.heap.size, 2, none⟩ = some (.slice (some ⟨g3, 0, none⟩) (mapsK nx gs gs.length).length c3) ∧ (wk.setCell ⟨M, k * 24 + s, none⟩ (.int .i64 (V + V2))).cell? ⟨g3, a * 24 + s, none⟩ = some (.int .i64 (q : Int)) ∧ (wk.setCell ⟨M, k * 24 + s, none⟩ (.int .i64 (V + V2))).cell? ⟨M, a * 24 + s, none⟩ = some (.int .i64 V) ∧ (wk.setCell ⟨M, k * 24 + s, none⟩ (.int .i64 (V + V2))).cell? ⟨M, b * 24 + q, none⟩ = some (.int .i64 V2)) from
              ⟨(World.cell?_of_block (a := ⟨Kp, 1, none⟩) (Below.heap_setCell wk ⟨M, k * 24 + s, none⟩ _ Kp hKM2)).trans r1, (World.cell?_of_block (a := ⟨Kp, 2, none⟩) (Below.heap_setCell wk ⟨M, k * 24 + s, none⟩ _ Kp hKM2)).trans r2, (World.cell?_of_block (a := ⟨w.heap.size, 2, none⟩) (Below.heap_setCell wk ⟨M, k * 24 + s, none⟩ _ w.heap.size hwM2)).trans P2, (World.cell?_of_block (a := ⟨g3, a * 24 + s, none⟩) (Below.heap_setCell wk ⟨M, k * 24 + s, none⟩ _ g3 hgM2)).trans CQ, (set_apart wk M _ _ _ e1).trans CA, (set_apart wk M _ _ _ e2).trans CB⟩)
            go_region_held3 (fun w' => w'.cell? ⟨Kp, 1, none⟩ = some (.int .i64 (a : Int)) ∧ w'.cell? ⟨Kp, 2, none⟩ = some (.int .i64 (b : Int)) ∧ w'.cell? ⟨w.heap.size, 2, none⟩ = some (.slice (some ⟨g3, 0, none⟩) (mapsK nx gs gs.length).length c3) ∧ w'.cell? ⟨g3, a * 24 + s, none⟩ = some (.int .i64 (q : Int)) ∧ w'.cell? ⟨M, a * 24 + s, none⟩ = some (.int .i64 V) ∧ w'.cell? ⟨M, b * 24 + q, none⟩ = some (.int .i64 V2))
              (first | (with_reducible exact HS.out) | exact HS.out | exact HS2.out)
              (fail)
            all_goals
              go_wp2_with fail
              go_roundw
            case rel => first | exact ⟨s + 1, by omega, by go_num, HNX2.out, HBX.out⟩ | ((repeat apply Exists.intro); exact ⟨⟨s + 1, by omega, by go_num, HNX2.out, HBX.out⟩, rfl⟩) | exact ⟨s + 1, by omega, by go_num, own_drewN HNX2.out 1, below_drewN HBX.out 1⟩ | ((repeat apply Exists.intro); exact ⟨⟨s + 1, by omega, by go_num, own_drewN HNX2.out 1, below_drewN HBX.out 1⟩, rfl⟩)
            case measure => (first | (simp [intOf]; done) | (simp [intOf]; omega))
          · obtain rfl : s = 24 := by omega
            rw [flS_all HR24.out, ← HNX.out] at hos
            have HN9 : Hid (SfRel wa nx gs w5 M n (.int .i64 ((k + 1 : Nat) : Int)) wu) := Lib.hid ⟨k + 1, hkn, rfl, hos, hBs⟩
            clear hos hBs
            go_wp2_with fail
            go_roundw
            case rel => first | exact HN9.out | ((repeat apply Exists.intro); exact ⟨HN9.out, rfl⟩)
            case measure => (first | (simp [intOf]; done) | (simp [intOf]; omega))
      · have HK := Lib.hid (fun W => kind_letter gs[k] h0 W)
        have HT := tm_lp
        have HVT := Lib.hid (fun s (hs : s < 24) => vis_letter wa nx hkg h0 hs)
        generalize gs[k] = R at *
        obtain ⟨L, l, r⟩ := R
        unfold agg3 at HK
        simp only at HK a0 a1 a2
        clear h0
        go_wp2_with fail
        refine (HK.out _).mono ?_
        rintro e w7 ⟨rfl, hB7⟩
        have hb7 := ((Below.refl _ wo).alloc (Nat.le_refl _) (.cells #[.string L, .int .i64 l, .int .i64 r] 127)).trans (hB7.mono (by simp))
        have HB7 := Lib.hid hb7
        have q2 := (hb7.cell (lt_of_cell p2)).trans p2
        have HRM7 := Lib.hid (HRM.out w7 (HBW.out.trans (hb7.mono HBW.out.size)))
        clear hB7 hb7 a0 a1 a2 p0 p1 p2 p3
        go_wp2_with (first | (with_reducible refine wpList_load_mid rfl 197 _ rfl g3 (k * 24) rfl (iv m) _ HRM7.out und_map rfl HMZ.out ?_))
        have HOWs : Hid (w7.ownsRow M 201 24 (.slice (some ⟨M, 0, none⟩) n n) n (iv (flS (visK wa nx gs k) row 0 n))) := Lib.hid (by
          rw [flS_zero (by rw [HVL.out]; exact hkn)]
          exact own_below HOW.out HB7.out (Nat.le_refl _))
        have HB57 : Hid (Below M w5 w7) := Lib.hid (HBO.out.trans (HB7.out.mono (by omega)))
        clear q2
        go_loopw [32] (fun i wr => ∃ s : Nat, s ≤ 24 ∧ i = .int .i64 s ∧ wr.ownsRow M 201 24 (.slice (some ⟨M, 0, none⟩) n n) n (iv (flS (visK wa nx gs k) row s n)) ∧ Below M w5 wr) (fun i _ => 24 - (intOf i).toNat)
        case atStart => exact ⟨0, by omega, rfl, HOWs.out, HB57.out⟩
        case round =>
          obtain ⟨s, hs, rfl, hos, hBs⟩ := hrel
          obtain ⟨wu, rfl⟩ : ∃ wu : World, wu = wr := ⟨_, rfl⟩
          by_cases hs24 : s < 24
          · have hBs5 : Below w5.heap.size w5 wu := by rw [← HME.out]; exact hBs
            have hBwu := HB.out.trans (hBs5.mono HB.out.size)
            have hix := index_map m HMK.out.1 s hs24
            unfold mv at hix
            have hzr := HRV.out s hs24
            rw [HVT.out s hs24] at hzr
            have hmv : m[s]?.getD 0 = at2 (mapsK nx gs gs.length) k s := by
              unfold at2
              rw [← HMM.out, List.getD_eq_getElem?_getD]
            rw [← hmv] at hzr
            have hbk := (Below.refl _ wu).alloc (Nat.le_refl _) (.cells #[.string ⟨#[]⟩, .int .i64 0, .int .i64 0] 198)
            have HOK : Hid ((wu.alloc (.cells #[.string ⟨#[]⟩, .int .i64 0, .int .i64 0] 198)).ownsRow M 201 24 (.slice (some ⟨M, 0, none⟩) n n) n (iv (flS (visK wa nx gs k) row s n))) := Lib.hid (own_below hos hbk (Nat.le_refl _))
            have hMu : M < wu.heap.size := (hos.lt M rfl).2
            have HBK : Hid (Below M w5 (wu.alloc (.cells #[.string ⟨#[]⟩, .int .i64 0, .int .i64 0] 198))) := Lib.hid (hBs.trans (hbk.mono (by omega)))
            have HPK : Hid (∀ z : Int, Calls Try.prog 161 #[.int .i64 z, .pointer (some ⟨P, 0, none⟩)] (wu.alloc (.cells #[.string ⟨#[]⟩, .int .i64 0, .int .i64 0] 198)) fun e w' => e = .returned (.bool (wa z)) ∧ w' = (wu.alloc (.cells #[.string ⟨#[]⟩, .int .i64 0, .int .i64 0] 198))) := Lib.hid (fun z => HP.out _ z (hBwu.trans (hbk.mono hBwu.size)))
            clear hos hBs hBs5 hBwu hbk hmv
            go_upto_region 12 with fail
            generalize wu.alloc (.cells #[.string ⟨#[]⟩, .int .i64 0, .int .i64 0] 198) = wk at *
            have HZR := Lib.hid hzr
            clear hzr
            go_wp2_with fail
            have hzr := HZR.out
            generalize m[s]?.getD 0 = z at *
            have HWD := Lib.hid (HPK.out z)
            by_cases hzt : wa z = true
            · rw [if_pos hzt] at hzr
              rw [hzt] at HWD
              have hfz : wk.frozen? ⟨M, k * 24 + s, none⟩ = false := HOK.out.frozenAt _
              obtain ⟨old, hct⟩ : ∃ old, wk.cell? ⟨M, k * 24 + s, none⟩ = some old := by
                have hl5 := flS_len (row := row) (s := s) (n := n) HVW.out hr24 (by omega) (by rw [HVL.out]; exact hkn)
                have h9 := World.ownsRow.cellAt HOK.out (k * 24 + s) (by omega)
                rw [iv_get _ _ (by rw [hl5]; omega)] at h9
                exact ⟨_, h9⟩
              have HNX2 : Hid ((wk.setCell ⟨M, k * 24 + s, none⟩ (.int .i64 1)).ownsRow M 201 24 (.slice (some ⟨M, 0, none⟩) n n) n (iv (flS (visK wa nx gs k) row (s + 1) n))) := Lib.hid (by
                have := flS_store (w := wk) HOK.out HVW.out hr24 hs24 (by rw [HVL.out]; exact hkn)
                rw [HVL.out, hzr] at this
                exact this)
              have HBX : Hid (Below M w5 (wk.setCell ⟨M, k * 24 + s, none⟩ (.int .i64 1))) := Lib.hid (HBK.out.setCell (Nat.le_refl _) _)
              have s0' : (0 : Int) ≤ (s : Int) := by omega
              have s1' : (s : Int) < 24 := by omega
              clear hzt hzr
              refine HWD.out.mono ?_
              rintro e w9 ⟨rfl, hw9⟩
              obtain rfl := hw9.symm
              go_wp2_with fail
              go_roundw
              case rel => first | exact ⟨s + 1, by omega, by go_num, HNX2.out, HBX.out⟩ | ((repeat apply Exists.intro); exact ⟨⟨s + 1, by omega, by go_num, HNX2.out, HBX.out⟩, rfl⟩)
              case measure => (first | (simp [intOf]; done) | (simp [intOf]; omega))
            · rw [if_neg hzt] at hzr
              rw [Bool.eq_false_iff.2 hzt] at HWD
              have HNX2 : Hid (wk.ownsRow M 201 24 (.slice (some ⟨M, 0, none⟩) n n) n (iv (flS (visK wa nx gs k) row (s + 1) n))) := Lib.hid (by
                have := HOK.out
                unfold flS at this ⊢
                rw [rowS_skip hr24 hs24 hzr]
                exact this)
              clear hzt hzr
              refine HWD.out.mono ?_
              rintro e w9 ⟨rfl, hw9⟩
              obtain rfl := hw9.symm
              go_wp2_with fail
              go_roundw
              case rel => first | exact ⟨s + 1, by omega, by go_num, HNX2.out, HBK.out⟩ | ((repeat apply Exists.intro); exact ⟨⟨s + 1, by omega, by go_num, HNX2.out, HBK.out⟩, rfl⟩)
              case measure => (first | (simp [intOf]; done) | (simp [intOf]; omega))
          · obtain rfl : s = 24 := by omega
            rw [flS_all HR24.out, ← HNX.out] at hos
            have HN9 : Hid (SfRel wa nx gs w5 M n (.int .i64 ((k + 1 : Nat) : Int)) wu) := Lib.hid ⟨k + 1, hkn, rfl, hos, hBs⟩
            clear hos hBs
            go_wp2_with fail
            go_roundw
            case rel => first | exact HN9.out | ((repeat apply Exists.intro); exact ⟨HN9.out, rfl⟩)
            case measure => (first | (simp [intOf]; done) | (simp [intOf]; omega))
    · obtain rfl : k = n := by omega
      have hSB := HSB.out.kept hB'
      have HE := Lib.hid (b5_cells (b5_all (a' := .slice Ag k cg) (b' := .slice A2 (lens gs).length c2) (c' := .slice A3 (mapsK nx gs gs.length).length c3) (d' := .int .i64 go) (e' := .slice (some ⟨M, 0, none⟩) k k) hSB))
      obtain ⟨z0, z1, z2, z3, z4⟩ := b5_cells hSB
      have f0 := b5_frozen (o := 0) hSB
      have f1 := b5_frozen (o := 1) hSB
      have f2 := b5_frozen (o := 2) hSB
      have f3 := b5_frozen (o := 3) hSB
      have f4 := b5_frozen (o := 4) hSB
      have hMR : M ≠ w.heap.size + 1 := by have := HSB.out.lt; rw [HME.out]; omega
      have hR1 : w.heap.size + 1 < wo.heap.size := hSB.lt
      have HSET : Hid (∀ d0 d1 d2 d3 d4, IsS (((((wo.setCell ⟨w.heap.size + 1, 0, none⟩ d0).setCell ⟨w.heap.size + 1, 1, none⟩ d1).setCell ⟨w.heap.size + 1, 2, none⟩ d2).setCell ⟨w.heap.size + 1, 3, none⟩ d3).setCell ⟨w.heap.size + 1, 4, none⟩ d4) 0 (.agg #[.slice Ag k cg, .slice A2 (lens gs).length c2, .slice A3 (mapsK nx gs gs.length).length c3, .int .i64 go, .slice (some ⟨M, 0, none⟩) k k]) (.slice Ag gs.length cg) gs nx (visK wa nx gs gs.length) go ∧ Below w.heap.size w (((((wo.setCell ⟨w.heap.size + 1, 0, none⟩ d0).setCell ⟨w.heap.size + 1, 1, none⟩ d1).setCell ⟨w.heap.size + 1, 2, none⟩ d2).setCell ⟨w.heap.size + 1, 3, none⟩ d3).setCell ⟨w.heap.size + 1, 4, none⟩ d4)) := Lib.hid (fun d0 d1 d2 d3 d4 => by
        have hbF : Below w.heap.size w (((((wo.setCell ⟨w.heap.size + 1, 0, none⟩ d0).setCell ⟨w.heap.size + 1, 1, none⟩ d1).setCell ⟨w.heap.size + 1, 2, none⟩ d2).setCell ⟨w.heap.size + 1, 3, none⟩ d3).setCell ⟨w.heap.size + 1, 4, none⟩ d4) := ((((hBw.setCell (by simp) _).setCell (by simp) _).setCell (by simp) _).setCell (by simp) _).setCell (by simp) _
        have gk : wo.grownBy (((((wo.setCell ⟨w.heap.size + 1, 0, none⟩ d0).setCell ⟨w.heap.size + 1, 1, none⟩ d1).setCell ⟨w.heap.size + 1, 2, none⟩ d2).setCell ⟨w.heap.size + 1, 3, none⟩ d3).setCell ⟨w.heap.size + 1, 4, none⟩ d4) (some (w.heap.size + 1)) := by
          refine ⟨rfl, rfl, rfl, by simp, fun i hi hne => ?_⟩
          have hne' : i ≠ w.heap.size + 1 := fun e => hne (by rw [e])
          rw [Below.heap_setCell _ _ _ _ hne', Below.heap_setCell _ _ _ _ hne', Below.heap_setCell _ _ _ _ hne', Below.heap_setCell _ _ _ _ hne', Below.heap_setCell _ _ _ _ hne']
        have hms := isMs_of_own (World.ownsRow.kept hown gk (.inr (by simp [Value.ownBlock]; exact hMR))) (visK_wide wa nx gs k) (visK_len wa nx gs k)
        have hAk : Value.slice Ag k cg = Value.slice Ag gs.length cg := by rw [HN.out]
        refine ⟨⟨_, _, _, by rw [hAk], own_lower (own_below H2.out hbF (Nat.le_refl _)) (Nat.zero_le _), (H3.out.kept hbF).lower (Nat.zero_le _), ?_⟩, hbF⟩
        rw [← HN.out]
        exact hms.lower (Nat.zero_le _))
      clear hown hB hB' hBw hSB
      go_wp2_with fail
      obtain ⟨y0, y1, y2, y3, y4⟩ := HE.out
      refine bodyPost_ret (v := .agg #[.slice Ag k cg, .slice A2 (lens gs).length c2, .slice A3 (mapsK nx gs gs.length).length c3, .int .i64 go, .slice (some ⟨M, 0, none⟩) k k]) (by simp [results, Try.results88, go_sem, y0, y1, y2, y3, y4]) rfl ⟨_, rfl, (HSET.out _ _ _ _ _).1, (HSET.out _ _ _ _ _).2⟩
end Go.Proofs.Ytaffachjopjbgaa
namespace Go.Proofs.Ytaffachjopjbgaa
open Go.RowKit
open Wd
set_option linter.unusedVariables false
theorem IsS.shapeC {w : World} {lo : Nat} {sv gv : Value} {gs : List Rl} {nx vs : List (List Int)} {go : Int} (h : IsS w lo sv gv gs nx vs go) : ∃ A2 c2 A3 c3 A4 c4, sv = .agg #[gv, .slice A2 (lens gs).length c2, .slice A3 (mapsK nx gs gs.length).length c3, .int .i64 go, .slice A4 vs.length c4] := by
  obtain ⟨lv, mv, vv, rfl, h2, h3, h4⟩ := h
  obtain ⟨A2, c2, rfl⟩ := own_slice h2
  obtain ⟨A3, c3, rfl, h3'⟩ := h3
  obtain ⟨A4, c4, rfl, h4'⟩ := h4
  exact ⟨A2, c2, A3, c3, A4, c4, rfl⟩
set_option maxRecDepth 100000 in
set_option maxHeartbeats 12800000 in
theorem implCountAccepted (av : Value) (x : Au) (gv : Value) (gs : List Rl) (w : World) (hf : FewA x) (hx : IsAu w av x) (hfr : FewR gs) (hr : Rules w gv gs) :
    Calls Try.prog 28 #[av, .agg #[gv]] w fun e w' => e = .returned (.tuple #[.int .i64 (caA x gs).1, .int .i64 (caA x gs).2]) ∧ Below w.heap.size w w' := by
  have HIS := Lib.hid (fun W (hb : Below w.heap.size w W) => hx.kept hb)
  have HRU := Lib.hid (fun W (hb : Below w.heap.size w W) => hr.kept hb)
  obtain ⟨st, go, fin, nx⟩ := x
  obtain ⟨f, n, rfl, hF, hN⟩ := hx
  simp only at hF hN
  have hb : Below w.heap.size w ((w.alloc (.cells #[.int .i64 st, .int .i64 go, f, n] 33)).alloc (.cells #[gv] 37)) := ((Below.refl _ w).alloc (Nat.le_refl _) _).alloc (by simp) _
  have hP : B4 ((w.alloc (.cells #[.int .i64 st, .int .i64 go, f, n] 33)).alloc (.cells #[gv] 37)) w.heap.size (.int .i64 st) (.int .i64 go) f n 33 := (B4.new w _ _ _ _ _).alloc _
  have hg : ((w.alloc (.cells #[.int .i64 st, .int .i64 go, f, n] 33)).alloc (.cells #[gv] 37)).cell? ⟨w.heap.size + 1, 0, none⟩ = some gv := by
    have := cell_new (w.alloc (.cells #[.int .i64 st, .int .i64 go, f, n] 33)) gv 37
    rwa [show (w.alloc (.cells #[.int .i64 st, .int .i64 go, f, n] 33)).heap.size = w.heap.size + 1 from by simp] at this
  have HWO := Lib.hid (walkOfAuto_any _ ⟨st, go, fin, nx⟩ gv gs _ hf (HIS.out _ hb) hfr (HRU.out _ hb))
  have HB := Lib.hid hb
  have HP := Lib.hid hP
  have hff := hf.fin
  have HF := Lib.hid (fun W (hW : Below w.heap.size w W) => hF.kept hW)
  obtain ⟨Af, cf, rfl⟩ := hF.shape
  obtain ⟨An, cn, rfl, hNx⟩ := hN
  obtain ⟨Ag, cg, rfl, hRx⟩ := hr
  obtain ⟨⟨p0, p1, p2, p3⟩, _⟩ := blk4_cells hP
  have HFI : Hid (∀ W, Calls Try.prog 99 #[.agg #[.int .i64 st, .int .i64 go, .slice Af fin.length cf, .slice An nx.length cn]] W fun e w' => ∃ Pf, e = .returned (.func (.func 161) #[] #[.pointer (some ⟨Pf, 0, none⟩)]) ∧ B4 w' Pf (.int .i64 st) (.int .i64 go) (.slice Af fin.length cf) (.slice An nx.length cn) 33 ∧ Below W.heap.size W w') := Lib.hid (fun W => (isFinal_any _ _ _ _ _ _ _ _ _ _ rfl rfl _ _ rfl rfl W).mono (fun e w' ⟨he, hw⟩ => ⟨_, he, by rw [hw]; exact B4.new W _ _ _ _ _, by rw [hw]; exact (Below.refl _ W).alloc (Nat.le_refl _) _⟩))
  clear hb hP hF hNx hRx
  unfold caA
  cases hall : (aOk ⟨st, go, fin, nx⟩ && gOk gs)
  · rw [hall] at HWO
    rw [if_neg (by intro h; rw [h.1, h.2] at hall; cases hall)]
    clear hall
    go_enter Try.func28, Try.ntmps28
    go_wp2_with fail
    refine HWO.out.mono ?_
    rintro e w3 ⟨wv, rfl, _, hz, hB3⟩
    have hz := hz trivial
    subst hz
    have HB3 := Lib.hid (HB.out.trans (hB3.mono HB.out.size))
    unfold zeroW
    clear hB3
    go_wp2_with fail
    go_ret2
    exact ⟨rfl, HB3.out.alloc HB3.out.size _⟩
  · rw [hall] at HWO
    rw [Bool.and_eq_true] at hall
    rw [if_pos hall]
    obtain ⟨⟨h1, h24⟩, hrow, hlen⟩ := aOk_parts hall.1
    have hgo := aOk_goC hall.1
    simp only at h1 h24 hgo
    simp only at hrow hlen
    have HSF := Lib.hid (fun W wv Pf (hb : Below w.heap.size w W) (hW : ∃ lo, IsW W lo wv (.slice Ag gs.length cg) gs nx go) (hP : B4 W Pf (.int .i64 st) (.int .i64 go) (.slice Af fin.length cf) (.slice An nx.length cn) 33) => (by obtain ⟨lo, hW⟩ := hW; exact searchFor_any wv (.slice Ag gs.length cg) gs nx st go lo Pf (fun p => hasN fin p) W h1 h24 hrow hlen hall.2 (HRU.out W hb) hW (fun W' z hb' => final_any z Pf (.int .i64 st) (.int .i64 go) (.slice Af fin.length cf) (.slice An nx.length cn) fin W' hff (hP.kept hb') (HF.out W' (hb.trans (hb'.mono hb.size)))) : Calls Try.prog 88 #[wv, .func (.func 161) #[] #[.pointer (some ⟨Pf, 0, none⟩)]] W fun e w' => ∃ sv, e = .returned sv ∧ IsS w' 0 sv (.slice Ag gs.length cg) gs nx (visK (fun p => hasN fin p) nx gs gs.length) go ∧ Below W.heap.size W w'))
    have HAL := Lib.hid (fun W sv (hb : Below w.heap.size w W) hW => all_any sv (.slice Ag gs.length cg) gs nx (visK (fun p => hasN fin p) nx gs gs.length) go 0 W hall.2 (HRU.out W hb) (visK_len _ _ _ _) hW (by omega))
    have HH := Lib.hid (fun W Pf (hb : Below w.heap.size w W) hP => final_any go Pf (.int .i64 st) (.int .i64 go) (.slice Af fin.length cf) (.slice An nx.length cn) fin W hff hP (HF.out W hb))
    have hab := all_bd (fun p => hasN fin p) hrow hlen h1 h24 hall.2 (s := go) (by omega)
    clear hall hrow hlen hgo
    obtain ⟨V, hV⟩ : ∃ V, V = allV (visK (fun p => hasN fin p) nx gs gs.length) gs go := ⟨_, rfl⟩
    obtain ⟨R, hR⟩ : ∃ R, R = hasN fin go := ⟨_, rfl⟩
    show Calls _ _ _ _ fun e w' => e = .returned (.tuple #[.int .i64 (allV (visK (fun p => hasN fin p) nx gs gs.length) gs go + (if hasN fin go = true then 1 else 0)), .int .i64 0]) ∧ Below w.heap.size w w'
    rw [← hV, ← hR]
    rw [← hV] at HAL hab
    rw [← hR] at HH
    have hw1 : IntKind.i64.wrap (V + 1) = V + 1 := by rw [IntKind.wrap_i64]; omega
    clear hV hR hab
    obtain ⟨Z, hZ⟩ : ∃ Z, Z = V + (if R = true then 1 else 0) := ⟨_, rfl⟩
    rw [← hZ]
    have HZ := Lib.hid hZ
    clear hZ
    go_enter Try.func28, Try.ntmps28
    go_wp2_with fail
    refine HWO.out.mono ?_
    rintro e w3 ⟨wv, rfl, hyes, _, hB3⟩
    have hw3 := hyes trivial
    have HB3 := Lib.hid (HB.out.trans (hB3.mono HB.out.size))
    have HP3 := Lib.hid (HP.out.kept hB3)
    have HW3 := Lib.hid hw3
    obtain ⟨A2, c2, A3, c3, rfl⟩ := hw3.shape
    clear hyes hw3 hB3 p0 p1 p2 p3 hg
    have hb4 := (Below.refl _ w3).alloc (Nat.le_refl _) (.cells #[.slice Ag gs.length cg, .slice A2 (lens gs).length c2, .slice A3 gs.length c3, .int .i64 go] 110)
    have HW4 := Lib.hid (HW3.out.kept hb4)
    have HB4 := Lib.hid (HB3.out.trans (hb4.mono HB3.out.size))
    have HP4 := Lib.hid (HP3.out.kept hb4)
    have HQ4 : Hid (B4 (w3.alloc (.cells #[.slice Ag gs.length cg, .slice A2 (lens gs).length c2, .slice A3 gs.length c3, .int .i64 go] 110)) w3.heap.size _ _ _ _ _) := Lib.hid (B4.new w3 _ _ _ _ _)
    clear hb4
    go_upto_region 4 with fail
    obtain ⟨Qb, hQb⟩ : ∃ Qb, Qb = w3.heap.size := ⟨_, rfl⟩
    rw [← hQb] at HQ4 ⊢
    generalize w3.alloc (.cells #[.slice Ag gs.length cg, .slice A2 (lens gs).length c2, .slice A3 gs.length c3, .int .i64 go] 110) = w4 at *
    clear hQb
    obtain ⟨⟨p0, p1, p2, p3⟩, _⟩ := blk4_cells HP4.out
    obtain ⟨⟨q0, q1, q2, q3⟩, _⟩ := blk4_cells HQ4.out
    have HC4 := Lib.hid (And.intro (And.intro p0 (And.intro p1 (And.intro p2 p3))) (And.intro q0 (And.intro q1 (And.intro q2 q3))))
    go_region_held3 (fun w' => (w'.cell? ⟨w.heap.size, 0, none⟩ = some (.int .i64 st) ∧ w'.cell? ⟨w.heap.size, 1, none⟩ = some (.int .i64 go) ∧ w'.cell? ⟨w.heap.size, 2, none⟩ = some (.slice Af fin.length cf) ∧ w'.cell? ⟨w.heap.size, 3, none⟩ = some (.slice An nx.length cn)) ∧ w'.cell? ⟨Qb, 0, none⟩ = some (.slice Ag gs.length cg) ∧ w'.cell? ⟨Qb, 1, none⟩ = some (.slice A2 (lens gs).length c2) ∧ w'.cell? ⟨Qb, 2, none⟩ = some (.slice A3 gs.length c3) ∧ w'.cell? ⟨Qb, 3, none⟩ = some (.int .i64 go))
      (first | (with_reducible exact HC4.out) | (with_reducible exact HC5.out) | (with_reducible exact HC6.out) | (with_reducible exact HC7.out) | go_keep)
      (first
        | (go_at_call 99
           refine (HFI.out _).mono ?_
           rintro e w5 ⟨Pf, rfl, hpf, hB5⟩
           try have hB5 := below_undrew hB5
           have HPF := Lib.hid hpf
           have HB5 := Lib.hid (HB4.out.trans (hB5.mono HB4.out.size))
           have HW5 := Lib.hid (HW4.out.kept hB5)
           have HP5 := Lib.hid (HP4.out.kept hB5)
           have HQ5 := Lib.hid (HQ4.out.kept hB5)
           have HC5 := Lib.hid (And.intro (blk4_cells HP5.out).1 (blk4_cells HQ5.out).1)
           clear hpf hB5)
        | (go_at_call 88
           refine (HSF.out _ _ _ ?_ ?_ ?_).mono ?_
           (first | exact HB5.out | exact below_drewN HB5.out 1 | exact below_drewN HB5.out _)
           (first | exact ⟨_, HW5.out⟩ | exact ⟨_, HW5.out.kept (below_drewN (Below.refl _ w5) 1)⟩)
           (first | exact HPF.out | exact HPF.out.kept (below_drewN (Below.refl _ w5) 1))
           rintro e w6 ⟨sv, rfl, hS, hB6⟩
           try have hB6 := below_undrew hB6
           have HB6 := Lib.hid (HB5.out.trans (hB6.mono HB5.out.size))
           have HS6 := Lib.hid hS
           obtain ⟨D2, d2, D3, d3, D4, d4, hsv⟩ := hS.shapeC
           subst hsv
           have HP6 := Lib.hid (HP5.out.kept hB6)
           have HQ6 := Lib.hid (HQ5.out.kept hB6)
           have HC6 := Lib.hid (And.intro (blk4_cells HP6.out).1 (blk4_cells HQ6.out).1)
           clear hB6 hS)
        | (go_at_call 90
           refine (HAL.out _ _ ?_ ?_).mono ?_
           (first | exact HB6.out | exact below_drewN HB6.out 1 | exact below_drewN HB6.out _)
           (first | exact HS6.out | exact HS6.out.kept (below_drewN (Below.refl _ w6) 1))
           rintro e w7 ⟨rfl, hB7⟩
           try have hB7 := below_undrew hB7
           have HB7 := Lib.hid (HB6.out.trans (hB7.mono HB6.out.size))
           have HP7 := Lib.hid (HP6.out.kept hB7)
           have HQ7 := Lib.hid (HQ6.out.kept hB7)
           have HC7 := Lib.hid (And.intro (blk4_cells HP7.out).1 (blk4_cells HQ7.out).1)
           clear hB7))
    all_goals
      clear p0 p1 p2 p3 q0 q1 q2 q3
      go_upto_region 5 with fail
      try (generalize w7.drew = w7 at *)
      obtain ⟨⟨p0, p1, p2, p3⟩, _⟩ := blk4_cells HP7.out
      obtain ⟨⟨q0, q1, q2, q3⟩, _⟩ := blk4_cells HQ7.out
      go_region_held3 (fun w' => (w'.cell? ⟨w.heap.size, 0, none⟩ = some (.int .i64 st) ∧ w'.cell? ⟨w.heap.size, 1, none⟩ = some (.int .i64 go) ∧ w'.cell? ⟨w.heap.size, 2, none⟩ = some (.slice Af fin.length cf) ∧ w'.cell? ⟨w.heap.size, 3, none⟩ = some (.slice An nx.length cn)) ∧ w'.cell? ⟨Qb, 0, none⟩ = some (.slice Ag gs.length cg) ∧ w'.cell? ⟨Qb, 1, none⟩ = some (.slice A2 (lens gs).length c2) ∧ w'.cell? ⟨Qb, 2, none⟩ = some (.slice A3 gs.length c3) ∧ w'.cell? ⟨Qb, 3, none⟩ = some (.int .i64 go))
        (first | (with_reducible exact HC7.out) | (with_reducible exact HC8.out) | (with_reducible exact HC9.out) | go_keep)
        (first
          | (go_at_call 99
             refine (HFI.out _).mono ?_
             rintro e w8 ⟨Pf2, rfl, hpf, hB8⟩
             try have hB8 := below_undrew hB8
             have HPF8 := Lib.hid hpf
             have HB8 := Lib.hid (HB7.out.trans (hB8.mono HB7.out.size))
             have HC8 := Lib.hid (And.intro (blk4_cells (HP7.out.kept hB8)).1 (blk4_cells (HQ7.out.kept hB8)).1)
             clear hpf hB8)
          | (go_at_call 161
             refine (HH.out _ _ ?_ ?_).mono ?_
             (first | exact HB8.out | exact below_drewN HB8.out 1 | exact below_drewN HB8.out _)
             (first | exact HPF8.out | exact HPF8.out.kept (below_drewN (Below.refl _ w8) 1))
             rintro e w9 ⟨rfl, rfl⟩
             have HC9 := Lib.hid HC8.out))
      all_goals
        clear p0 p1 p2 p3 q0 q1 q2 q3
        cases hR : R
        · have HE : Hid (Z = V) := Lib.hid (by rw [HZ.out, hR]; simp)
          subst hR
          go_wp2_with fail
          go_ret2
          exact ⟨by rw [HE.out]; rfl, HB8.out⟩
        · have HE : Hid (Z = V + 1) := Lib.hid (by rw [HZ.out, hR]; simp)
          subst hR
          go_wp2_with fail
          go_ret2
          exact ⟨by rw [HE.out]; rfl, HB8.out⟩
end Go.Proofs.Ytaffachjopjbgaa
namespace Go.Proofs.Ytaffachjopjbgaa
open Go.RowKit
open Wd
set_option linter.unusedVariables false
structure GSt (w : World) (X : Nat) (st go : Int) (fin : List Int) (f : Value) (Z : List (List Int)) (n : Value) (wr : World) : Prop where
  out : B4 wr X (.int .i64 st) (.int .i64 go) f n 33
  own : ∃ (U : List Value) (B : Nat), OwnsI wr w.heap.size f fin ∧ (∀ q, f.ownBlock = some q → q < B) ∧ X < B ∧ B ≤ wr.heap.size ∧ OwnM wr B n U Z
  x : w.heap.size ≤ X
  below : Below w.heap.size w wr
theorem GSt.kept {w wr w1 : World} {X : Nat} {st go : Int} {fin : List Int} {f n : Value} {Z : List (List Int)} (h : GSt w X st go fin f Z n wr) (hb : Below wr.heap.size wr w1) : GSt w X st go fin f Z n w1 := by
  obtain ⟨U, B, h1, h2, h3, h4, h5⟩ := h.own
  exact ⟨h.out.kept hb, ⟨U, B, own_below h1 hb (Nat.le_refl _), h2, h3, Nat.le_trans h4 hb.size, h5.kept hb⟩, h.x, h.below.trans (hb.mono h.below.size)⟩
theorem OwnM.setLow {w : World} {lo : Nat} {v : Value} {U : List Value} {Z : List (List Int)} (h : OwnM w lo v U Z) (p : Addr) (u : Value) (hp : p.block < lo) : OwnM (w.setCell p u) lo v U Z :=
  ⟨own_setLow h.outer p u hp, h.rows.len, fun j y zs a b => own_setLow (h.rows.row j y zs a b) p u hp, h.rows.ne⟩
theorem GSt.append {w wr w5 w6 : World} {X : Nat} {st go : Int} {fin : List Int} {f n n' u : Value} {Z : List (List Int)} {z : List Int} {o : Obj} {U : List Value} {B : Nat} (h : GSt w X st go fin f Z n wr)
    (h' : OwnsI wr w.heap.size f fin ∧ (∀ q, f.ownBlock = some q → q < B) ∧ X < B ∧ B ≤ wr.heap.size ∧ OwnM wr B n U Z) (hb : Below wr.heap.size wr w5) (hu : OwnsI w5 wr.heap.size u z)
    (hown : w6.ownsRow B 22 1 n' (U.length + 1) (U ++ [u])) (hg : (w5.alloc o).grownBy w6 n.ownBlock) :
    B4 w6 X (.int .i64 st) (.int .i64 go) f n 33 ∧ GSt w X st go fin f (Z ++ [z]) n' (w6.setCell ⟨X, 3, none⟩ n') := by
  obtain ⟨h1, h2, h3, h4, h5⟩ := h'
  have hs5 := hb.size
  have hrow : ∀ q, n.ownBlock = some q → B ≤ q := fun q hq => (h5.outer.lt q hq).1
  have ho6 : B4 w6 X (.int .i64 st) (.int .i64 go) f n 33 := ((h.out.kept hb).alloc o).grown hg (fun e => by have := hrow X e; omega)
  have hm6 : OwnM w6 B n' (U ++ [u]) (Z ++ [z]) := (h5.kept hb).snoc (own_lower hu h4) (h5.fresh (Nat.le_refl _) hu) hown hg
  have hf6 : OwnsI w6 w.heap.size f fin := World.ownsRow.kept ((own_below h1 hb (Nat.le_refl _)).alloc o) hg (by
    cases e : f.ownBlock with
    | none => exact .inl rfl
    | some q => exact .inr fun e' => by have a := h2 q e; have b := hrow q e'.symm; omega)
  have hs := hg.size
  refine ⟨ho6, blk4_3 ho6, ⟨U ++ [u], B, World.ownsRow.kept hf6 (grownBy_set w6 ⟨X, 3, none⟩ n') (own_b4_ne hf6 ho6 (by decide)), h2, h3, ?_, hm6.setLow _ _ h3⟩, h.x, ?_⟩
  · simp at hs ⊢; omega
  · have hx := h.x
    have hbs := h.below.size
    exact ((((h.below.trans (hb.mono hbs)).alloc (by omega) o).grown hg (by simp; omega) (fun q hq => by have := hrow q hq; omega)).setCell (by simpa using hx) _)
theorem GSt.start {w w7 : World} {X : Nat} {st go : Int} {fin : List Int} {f : Value} {c : Value} {B0 : Nat} (hX : B4 w7 X (.int .i64 st) (.int .i64 go) c (.slice none 0 0) 33) (hx : w.heap.size ≤ X) (hb : Below w.heap.size w w7) (hf : OwnsI w7 B0 f fin) (hB : w.heap.size ≤ B0) :
    GSt w X st go fin f [] (.slice none 0 0) (w7.setCell ⟨X, 2, none⟩ f) :=
  ⟨blk4_2 hX, ⟨[], w7.heap.size, own_lower (World.ownsRow.kept hf (grownBy_set w7 ⟨X, 2, none⟩ f) (own_b4_ne hf hX (by decide))) hB, fun q hq => (hf.lt q hq).2, hX.lt, by simp, ⟨World.ownsRow_nil _ _ _ _, Rws.nil _ _⟩⟩, hx, hb.setCell (by simpa using hx) _⟩
theorem GSt.ownA {w wr : World} {X : Nat} {st go : Int} {fin : List Int} {f n : Value} {Z : List (List Int)} {c0 c1 c2 c3 : Value} {R : Nat} (h : GSt w X st go fin f Z n wr) (hR : B4 wr R c0 c1 c2 c3 33) (d0 d1 d2 d3 : Value) :
    ∃ U, OwnA ((((wr.setCell ⟨R, 0, none⟩ d0).setCell ⟨R, 1, none⟩ d1).setCell ⟨R, 2, none⟩ d2).setCell ⟨R, 3, none⟩ d3) w.heap.size f n U fin Z := by
  obtain ⟨U, B, h1, h2, h3, h4, h5⟩ := h.own
  have gk : wr.grownBy ((((wr.setCell ⟨R, 0, none⟩ d0).setCell ⟨R, 1, none⟩ d1).setCell ⟨R, 2, none⟩ d2).setCell ⟨R, 3, none⟩ d3) (some R) := by
    refine ⟨rfl, rfl, rfl, by simp, fun i hi hne => ?_⟩
    have hne' : i ≠ R := fun e => hne (by rw [e])
    rw [Below.heap_setCell _ _ _ _ hne', Below.heap_setCell _ _ _ _ hne', Below.heap_setCell _ _ _ _ hne', Below.heap_setCell _ _ _ _ hne']
  have hB : w.heap.size ≤ B := by have := h.x; omega
  have hm : OwnM _ B n U Z := ⟨World.ownsRow.kept h5.outer gk (own_b4_ne h5.outer hR (by decide)), h5.rows.len, fun j y zs a b => World.ownsRow.kept (h5.rows.row j y zs a b) gk (own_b4_ne (h5.rows.row j y zs a b) hR (by decide)), h5.rows.ne⟩
  refine ⟨U, World.ownsRow.kept h1 gk (own_b4_ne h1 hR (by decide)), hm.lower hB, fun u hu => ?_⟩
  cases e : f.ownBlock with
  | none => exact .inl rfl
  | some q => exact .inr fun e' => by have a := h2 q e; have b := (h5.rows.ge u hu q e'.symm).1; omega
end Go.Proofs.Ytaffachjopjbgaa
