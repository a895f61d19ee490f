/-
  A search's value; the walks of within (at the whole length) and all.
-/
import Derived.Test.YtaffachjopjbgaaFvM
import Derived.Test.YtaffachjopjbgaaRunE
import Derived.Deep.QuietTactic
import Derived.BigQuiet
namespace Go.Proofs.Ytaffachjopjbgaa
open Go.RowKit
open Wd
set_option linter.unusedVariables false
/-- five cells -/
def B5 (w : World) (b : Nat) (c0 c1 c2 c3 c4 : Value) (t : TypeId) : Prop := w.heap[b]? = some (.cells #[c0, c1, c2, c3, c4] t (0, 0))
theorem B5.kept {w w' : World} {b : Nat} {c0 c1 c2 c3 c4 : Value} {t : TypeId} (h : B5 w b c0 c1 c2 c3 c4 t) (hb : Below w.heap.size w w') : B5 w' b c0 c1 c2 c3 c4 t := (hb.block b (Array.getElem?_eq_some_iff.1 h).1).trans h
theorem B5.lt {w : World} {b : Nat} {c0 c1 c2 c3 c4 : Value} {t : TypeId} (h : B5 w b c0 c1 c2 c3 c4 t) : b < w.heap.size := (Array.getElem?_eq_some_iff.1 h).1
theorem b5_cells {w : World} {R : Nat} {t : TypeId} {a b c d e : Value} (h : B5 w R a b c d e t) :
    w.cell? ⟨R, 0, none⟩ = some a ∧ w.cell? ⟨R, 1, none⟩ = some b ∧ w.cell? ⟨R, 2, none⟩ = some c ∧ w.cell? ⟨R, 3, none⟩ = some d ∧ w.cell? ⟨R, 4, none⟩ = some e := by
  have key : ∀ o, w.cell? ⟨R, o, none⟩ = (#[a, b, c, d, e] : Array Value)[o]? := fun o => by unfold B5 at h; simp [World.cell?, h]
  exact ⟨by rw [key]; rfl, by rw [key]; rfl, by rw [key]; rfl, by rw [key]; rfl, by rw [key]; rfl⟩
/-- a search's value: a walk, and the visits of all rules -/
def IsS (w : World) (lo : Nat) (sv gv : Value) (gs : List Rl) (nx vs : List (List Int)) (go : Int) : Prop :=
  ∃ lv mv vv, sv = .agg #[gv, lv, mv, .int .i64 go, vv] ∧ OwnsI w lo lv (lens gs) ∧ IsMs w lo mv (mapsK nx gs gs.length) ∧ IsMs w lo vv vs
theorem IsS.kept {w w' : World} {lo : Nat} {sv gv : Value} {gs : List Rl} {nx vs : List (List Int)} {go : Int} (h : IsS w lo sv gv gs nx vs go) (hb : Below w.heap.size w w') : IsS w' lo sv gv gs nx vs go := by
  obtain ⟨lv, mv, vv, h0, h2, h3, h4⟩ := h
  exact ⟨lv, mv, vv, h0, own_below h2 hb (Nat.le_refl _), h3.kept hb, h4.kept hb⟩
theorem win_zero (k s n : Int) (p q : Value) (h : n ≤ 0) (w : World) :
    Calls Try.prog 163 #[.int .i64 k, .int .i64 s, .int .i64 n, p, q] w fun e w' => e = .returned (.int .i64 0) ∧ w' = w := by
  have hd : decide (n ≤ 0) = true := decide_eq_true h
  clear h
  go_enter Try.func163, Try.ntmps163
  go_wp2_with fail
  go_ret
  exact ⟨rfl, rfl⟩
set_option maxRecDepth 100000 in
set_option maxHeartbeats 1600000 in
theorem win_full (k : Nat) (s n : Int) (Wb : Nat) (q : Value) (gv lv mv vv : Value) (st0 : Int) (ls : List Int) (vs : List (List Int)) (lo : Nat) (w : World) (hB : B5 w Wb gv lv mv (.int .i64 st0) vv 116) (hl : IsL w lv ls) (hm : IsMs w lo vv vs) (hk : k < ls.length) (hk2 : k < vs.length) (hn : 0 < n) (hn2 : ls.getD k 0 ≤ n) (hs : 0 ≤ s ∧ s < 24) :
    Calls Try.prog 163 #[.int .i64 k, .int .i64 s, .int .i64 n, .pointer (some ⟨Wb, 0, none⟩), q] w fun e w' => e = .returned (.int .i64 (at2 vs k s.toNat)) ∧ w' = w := by
  obtain ⟨t, rfl⟩ : ∃ t : Nat, s = t := ⟨s.toNat, by omega⟩
  rw [Int.toNat_natCast]
  obtain ⟨p0, p1, p2, p3, p4⟩ := b5_cells hB
  obtain ⟨A2, c2, rfl, h2⟩ := hl
  obtain ⟨A3, c3, rfl, h3⟩ := hm
  rcases h2 with h2 | ⟨a2, rfl, h2⟩
  · rw [h2] at hk; simp at hk
  rcases h3 with h3 | ⟨a3, rfl, _, h3⟩
  · rw [h3] at hk2; simp at hk2
  have c0 := h2 k hk
  have c1 := h3 k t hk2 (by omega)
  rw [show ls[k] = ls.getD k 0 from by rw [List.getD_eq_getElem?_getD, List.getElem?_eq_getElem hk]; rfl] at c0
  unfold at2
  clear h2 h3
  generalize ls.getD k 0 = lk at *
  generalize (vs.getD k []).getD t 0 = z at *
  generalize ls.length = N at *
  generalize vs.length = M at *
  have k0 : (0 : Int) ≤ (k : Int) := by omega
  have k1 : (k : Int) < (N : Int) := by omega
  have k2 : (k : Int) < (M : Int) := by omega
  have k3 : ((k : Int) == -1) = false := by first | (simp; done) | (simp; omega)
  have t0 : (0 : Int) ≤ (t : Int) := by omega
  have t1 : (t : Int) < 24 := by omega
  have hd : decide (n ≤ 0) = false := decide_eq_false (by omega)
  have hd2 : decide (lk ≤ n) = true := decide_eq_true hn2
  clear hB hk hk2 hn hn2 hs
  go_enter Try.func163, Try.ntmps163
  go_wp2_with fail
  go_ret
  exact ⟨rfl, rfl⟩
/-- all visits -/
def allV (vs : List (List Int)) (gs : List Rl) (s : Int) : Int := if gs.length = 0 then 0 else at2 vs (gs.length - 1) s.toNat
set_option maxRecDepth 100000 in
set_option maxHeartbeats 3200000 in
theorem within_any (sv gv : Value) (gs : List Rl) (nx vs : List (List Int)) (s : Int) (lo : Nat) (w : World) (hok : gOk gs = true) (hr : Rules w gv gs) (hv : vs.length = gs.length) (hW : IsS w lo sv gv gs nx vs s) (hs : 0 ≤ s ∧ s < 24) :
    Calls Try.prog 103 #[sv, .int .i64 (wordLen gs)] w fun e w' => e = .returned (.int .i64 (allV vs gs s)) ∧ Below w.heap.size w w' := by
  have hmf : ∀ (fn : Fn) (first cap : Array Value) (w : World), (Instr.makeFunc fn first cap).run Try.prog w = .ok (.func fn first cap) w := fun _ _ _ _ => rfl
  obtain ⟨lv, mv, vv, rfl, h2, h3, h4⟩ := hW
  have hn400 := gOk_len hok
  have hfit := (gOk_iff.1 hok).2.1
  have hb : Below w.heap.size w ((w.alloc (.cells #[gv, lv, mv, .int .i64 s, vv] 116)).alloc (.cells #[.func (.func 163) #[] #[.pointer (some ⟨w.heap.size, 0, none⟩), .pointer (some ⟨w.heap.size + 1, 0, none⟩)]] 202)) := ((Below.refl _ w).alloc (Nat.le_refl _) _).alloc (by simp) _
  have hP : B5 ((w.alloc (.cells #[gv, lv, mv, .int .i64 s, vv] 116)).alloc (.cells #[.func (.func 163) #[] #[.pointer (some ⟨w.heap.size, 0, none⟩), .pointer (some ⟨w.heap.size + 1, 0, none⟩)]] 202)) w.heap.size gv lv mv (.int .i64 s) vv 116 := B5.kept (heap_alloc_new w _) ((Below.refl _ _).alloc (Nat.le_refl _) _)
  have hQ := heap_alloc_new (w.alloc (.cells #[gv, lv, mv, .int .i64 s, vv] 116)) (.cells #[.func (.func 163) #[] #[.pointer (some ⟨w.heap.size, 0, none⟩), .pointer (some ⟨w.heap.size + 1, 0, none⟩)]] 202)
  rw [show (w.alloc (.cells #[gv, lv, mv, .int .i64 s, vv] 116)).heap.size = w.heap.size + 1 from by simp] at hQ
  have hq := cell_of_row _ _ 0 _ _ _ hQ
  have HLD : Hid (∀ W, Below ((w.alloc (.cells #[gv, lv, mv, .int .i64 s, vv] 116)).alloc (.cells #[.func (.func 163) #[] #[.pointer (some ⟨w.heap.size, 0, none⟩), .pointer (some ⟨w.heap.size + 1, 0, none⟩)]] 202)).heap.size ((w.alloc (.cells #[gv, lv, mv, .int .i64 s, vv] 116)).alloc (.cells #[.func (.func 163) #[] #[.pointer (some ⟨w.heap.size, 0, none⟩), .pointer (some ⟨w.heap.size + 1, 0, none⟩)]] 202)) W → Calls Try.prog 163 #[.int .i64 ((gs.length : Int) - 1), .int .i64 s, .int .i64 (wordLen gs), .pointer (some ⟨w.heap.size, 0, none⟩), .pointer (some ⟨w.heap.size + 1, 0, none⟩)] W fun e w' => e = .returned (.int .i64 (allV vs gs s)) ∧ w' = W) := Lib.hid (fun W hW => by
    unfold allV
    by_cases h0 : gs.length = 0
    · rw [if_pos h0, wordLen_zero h0]
      exact win_zero _ s 0 _ _ (by omega) W
    · rw [if_neg h0]
      have hk : ((gs.length : Int) - 1) = ((gs.length - 1 : Nat) : Int) := by omega
      rw [hk]
      have hpos := lens_pos (gs := gs) (k := gs.length - 1) (by omega) (fun j hj _ => fits_at hfit j hj)
      unfold wordLen
      exact win_full (gs.length - 1) s _ w.heap.size _ gv lv mv vv s (lens gs) vs lo W (hP.kept hW) (((IsL.of_own h2).kept hb).kept hW) ((h4.kept hb).kept hW) (by rw [lens_len]; omega) (by rw [hv]; omega) (by omega) (Int.le_refl _) hs)
  have HB := Lib.hid hb
  obtain ⟨p0, p1, p2, p3, p4⟩ := b5_cells hP
  obtain ⟨Ag, cg, rfl, hRx⟩ := hr
  obtain ⟨A2, c2, rfl⟩ := own_slice h2
  obtain ⟨A3, c3, rfl, h3x⟩ := h3
  obtain ⟨A4, c4, rfl, h4x⟩ := h4
  have HLO := Lib.hid (fun W => lastOf_any Ag gs.length cg hn400 W)
  generalize wordLen gs = n at *
  generalize allV vs gs s = z at *
  clear hok hs hn400 hfit hRx h3x h4x h2 hP hQ hv
  go_enter Try.func103, Try.ntmps103
  go_upto_region 3 with fail
  generalize (w.alloc (.cells #[.slice Ag gs.length cg, .slice A2 (lens gs).length c2, .slice A3 (mapsK nx gs gs.length).length c3, .int .i64 s, .slice A4 vs.length c4] 116)).alloc (.cells #[.func (.func 163) #[] #[.pointer (some ⟨w.heap.size, 0, none⟩), .pointer (some ⟨w.heap.size + 1, 0, none⟩)]] 202) = w2 at *
  have hq : w2.cell? ⟨w.heap.size + 1, 0, none⟩ = some (.func (.func 163) #[] #[.pointer (some ⟨w.heap.size, 0, none⟩), .pointer (some ⟨w.heap.size + 1, 0, none⟩)]) := hq
  have HLE := Lib.hid (fun m => HLD.out (w2.drewN m) (below_drewN (Below.refl _ w2) m))
  clear hb HLD
  go_quiet ((first
    | (go_at_call 135; exact Calls.quiet_of_same (HLO.out _))
    | (go_at_call 163; exact Calls.quiet_of_same (HLE.out _))))
  go_wp2_with fail
  go_ret
  exact ⟨rfl, below_drewN HB.out _⟩
set_option maxRecDepth 100000 in
set_option maxHeartbeats 3200000 in
theorem all_any (sv gv : Value) (gs : List Rl) (nx vs : List (List Int)) (s : Int) (lo : Nat) (w : World) (hok : gOk gs = true) (hr : Rules w gv gs) (hv : vs.length = gs.length) (hW : IsS w lo sv gv gs nx vs s) (hs : 0 ≤ s ∧ s < 24) :
    Calls Try.prog 90 #[sv] w fun e w' => e = .returned (.int .i64 (allV vs gs s)) ∧ Below w.heap.size w w' := by
  have HS := Lib.hid hW
  obtain ⟨lv, mv, vv, rfl, h2, h3, h4⟩ := hW
  have hb := (Below.refl _ w).alloc (Nat.le_refl _) (.cells #[gv, lv, mv, .int .i64 s, vv] 116)
  have hP := heap_alloc_new w (.cells #[gv, lv, mv, .int .i64 s, vv] 116)
  have hs0 : w.heap.size < (w.alloc (.cells #[gv, lv, mv, .int .i64 s, vv] 116)).heap.size := by simp
  have HW := Lib.hid (fun W (hb2 : Below w.heap.size w W) => within_any _ gv gs nx vs s lo W hok (hr.kept hb2) hv (HS.out.kept hb2) hs)
  have hwl : (lens gs).getD ((lens gs).length - 1) 0 = wordLen gs := by rw [lens_len]; rfl
  have HWL := Lib.hid (fun W (hb2 : Below w.heap.size w W) => wordLen_any lv (lens gs) (by rw [lens_len]; exact gOk_len hok) W ((IsL.of_own h2).kept hb2))
  rw [hwl] at HWL
  obtain ⟨p0, p1, p2, p3, p4⟩ := b5_cells (show B5 _ _ _ _ _ _ _ _ from hP)
  obtain ⟨Ag, cg, rfl, hRx⟩ := hr
  obtain ⟨A2, c2, rfl⟩ := own_slice h2
  obtain ⟨A3, c3, rfl, h3x⟩ := h3
  obtain ⟨A4, c4, rfl, h4x⟩ := h4
  have HB := Lib.hid hb
  generalize wordLen gs = n at *
  generalize allV vs gs s = z at *
  clear hok hs hRx h3x h4x h2 hP hwl HS hb hv
  go_enter Try.func90, Try.ntmps90
  go_upto_region 1 with fail
  generalize w.alloc (.cells #[.slice Ag gs.length cg, .slice A2 (lens gs).length c2, .slice A3 (mapsK nx gs gs.length).length c3, .int .i64 s, .slice A4 vs.length c4] 116) = w2 at *
  have HC := Lib.hid (And.intro p0 (And.intro p1 (And.intro p2 (And.intro p3 p4))))
  have HBW := Lib.hid HB.out
  go_region_held3 (fun w' => w'.cell? ⟨w.heap.size, 0, none⟩ = some (.slice Ag gs.length cg) ∧ w'.cell? ⟨w.heap.size, 1, none⟩ = some (.slice A2 (lens gs).length c2) ∧ w'.cell? ⟨w.heap.size, 2, none⟩ = some (.slice A3 (mapsK nx gs gs.length).length c3) ∧ w'.cell? ⟨w.heap.size, 3, none⟩ = some (.int .i64 s) ∧ w'.cell? ⟨w.heap.size, 4, none⟩ = some (.slice A4 vs.length c4))
    (first | (with_reducible exact HC.out) | (with_reducible exact HC9.out) | go_keep)
    (first
      | (go_at_call 102
         refine (HWL.out _ ?_).mono ?_
         (first | (with_reducible exact HBW.out) | (with_reducible exact below_drewN HBW.out 1) | exact below_drewN HBW.out _)
         rintro e w8 ⟨rfl, rfl⟩)
      | (go_at_call 103
         refine (HW.out _ ?_).mono ?_
         (first | (with_reducible exact HBW.out) | (with_reducible exact below_drewN HBW.out 1) | exact below_drewN HBW.out _)
         rintro e w9 ⟨rfl, hB9⟩
         have hB9 : Below w2.heap.size w2 w9 := by first | exact hB9 | exact below_undrew hB9
         have HC9 : Hid (w9.cell? ⟨w.heap.size, 0, none⟩ = some (.slice Ag gs.length cg) ∧ w9.cell? ⟨w.heap.size, 1, none⟩ = some (.slice A2 (lens gs).length c2) ∧ w9.cell? ⟨w.heap.size, 2, none⟩ = some (.slice A3 (mapsK nx gs gs.length).length c3) ∧ w9.cell? ⟨w.heap.size, 3, none⟩ = some (.int .i64 s) ∧ w9.cell? ⟨w.heap.size, 4, none⟩ = some (.slice A4 vs.length c4)) := Lib.hid ⟨(hB9.cell (lt_of_cell p0)).trans p0, (hB9.cell (lt_of_cell p1)).trans p1, (hB9.cell (lt_of_cell p2)).trans p2, (hB9.cell (lt_of_cell p3)).trans p3, (hB9.cell (lt_of_cell p4)).trans p4⟩
         have HB9 := Lib.hid (HB.out.trans (hB9.mono HB.out.size))
         clear hB9))
  all_goals
    go_wp2_with fail
    go_ret
    exact ⟨rfl, HB9.out⟩
end Go.Proofs.Ytaffachjopjbgaa
