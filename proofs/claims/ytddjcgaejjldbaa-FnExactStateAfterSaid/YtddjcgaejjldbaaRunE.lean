/-
  Walks: impl.lastOf, wordLength, the walk's end.
-/
import Derived.Test.YtddjcgaejjldbaaRunI
import Derived.Deep.RegionHeld3
import Derived.BigQuiet
import Derived.Laws.EntriesVeiled
import Derived.Test.YtddjcgaejjldbaaGramOk
namespace Go.Proofs.Ytddjcgaejjldbaa
open Go.RowKit
open Wd
set_option linter.unusedVariables false
theorem lastOf_any (A : Option Addr) (n c : Nat) (hn : n ≤ 400) (w : World) :
    Calls Try.prog 137 #[.slice A n c] w fun e w' => e = .returned (.int .i64 ((n : Int) - 1)) ∧ w' = w := by
  have h1 : IntKind.i64.wrap ((n : Int) - 1) = (n : Int) - 1 := by rw [IntKind.wrap_i64]; omega
  go_enter Try.func137, Try.ntmps137
  go_wp2
  go_ret
  exact ⟨ret_int (by first | rfl | omega), rfl⟩
theorem wordLen_any (v : Value) (zs : List Int) (hn : zs.length ≤ 400) (w : World) (h : IsL w v zs) :
    Calls Try.prog 101 #[v] w fun e w' => e = .returned (.int .i64 (zs.getD (zs.length - 1) 0)) ∧ w' = w := by
  obtain ⟨A, c, rfl, hc⟩ := h
  by_cases h0 : zs.length = 0
  · have hz : zs = [] := List.eq_nil_of_length_eq_zero h0
    subst hz
    clear hc h0
    go_enter Try.func101, Try.ntmps101
    go_wp2
    go_ret
    exact ⟨rfl, rfl⟩
  · rcases hc with hz | ⟨a, rfl, hc⟩
    · rw [hz] at h0; simp at h0
    obtain ⟨m, hm⟩ : ∃ m, zs.length = m + 1 := ⟨zs.length - 1, by omega⟩
    have c0 := hc m (by omega)
    have ez : zs.getD (zs.length - 1) 0 = zs[m]'(by omega) := by
      rw [show zs.length - 1 = m from by omega, List.getD_eq_getElem?_getD, List.getElem?_eq_getElem (by omega)]
      rfl
    rw [← ez] at c0
    clear ez
    generalize zs.getD (zs.length - 1) 0 = z at *
    obtain ⟨n, hne⟩ : ∃ n, n = zs.length := ⟨_, rfl⟩
    rw [← hne]
    have hsub : IntKind.i64.wrap ((n : Int) - 1) = (m : Int) := by rw [IntKind.wrap_i64]; omega
    have m0 : (0 : Int) ≤ (m : Int) := by omega
    have m1 : (m : Int) < (n : Int) := by omega
    have hnz : (((n : Int)) == 0) = false := by simp; omega
    have hnz' : n ≠ 0 := by omega
    clear hc h0 hm hn hne
    go_enter Try.func101, Try.ntmps101
    go_wp2
    go_ret
    exact ⟨rfl, rfl⟩
theorem lead_zero (k s n : Int) (p q : Value) (h : n ≤ 0) (w : World) :
    Calls Try.prog 136 #[.int .i64 k, .int .i64 s, .int .i64 n, p, q] w fun e w' => e = .returned (.int .i64 s) ∧ w' = w := by
  have hd : decide (n ≤ 0) = true := decide_eq_true h
  clear h
  go_enter Try.func136, Try.ntmps136
  go_wp2_with fail
  go_ret
  exact ⟨rfl, rfl⟩
theorem lead_full (k : Nat) (s n : Int) (Wb : Nat) (q : Value) (gv lv mv : Value) (st0 : Int) (ls : List Int) (ms : List (List Int)) (lo : Nat) (w : World) (hB : B4 w Wb gv lv mv (.int .i64 st0) 122) (hl : IsL w lv ls) (hm : IsMs w lo mv ms) (hk : k < ls.length) (hk2 : k < ms.length) (hn : 0 < n) (hn2 : ls.getD k 0 ≤ n) (hs : 0 ≤ s ∧ s < 24) :
    Calls Try.prog 136 #[.int .i64 k, .int .i64 s, .int .i64 n, .pointer (some ⟨Wb, 0, none⟩), q] w fun e w' => e = .returned (.int .i64 ((ms.getD k []).getD s.toNat 0)) ∧ w' = w := by
  obtain ⟨t, rfl⟩ : ∃ t : Nat, s = t := ⟨s.toNat, by omega⟩
  rw [Int.toNat_natCast]
  obtain ⟨⟨p0, p1, p2, p3⟩, _⟩ := blk4_cells hB
  obtain ⟨A2, c2, rfl, h2⟩ := hl
  obtain ⟨A3, c3, rfl, h3⟩ := hm
  rcases h2 with h2 | ⟨a2, rfl, h2⟩
  · rw [h2] at hk; simp at hk
  rcases h3 with h3 | ⟨a3, rfl, _, h3⟩
  · rw [h3] at hk2; simp at hk2
  have c0 := h2 k hk
  have c1 := h3 k t hk2 (by omega)
  rw [show ls[k] = ls.getD k 0 from by rw [List.getD_eq_getElem?_getD, List.getElem?_eq_getElem hk]; rfl] at c0
  clear h2 h3
  generalize ls.getD k 0 = lk at *
  generalize (ms.getD k []).getD t 0 = z at *
  generalize ls.length = N at *
  generalize ms.length = M at *
  have k0 : (0 : Int) ≤ (k : Int) := by omega
  have k1 : (k : Int) < (N : Int) := by omega
  have k2 : (k : Int) < (M : Int) := by omega
  have t0 : (0 : Int) ≤ (t : Int) := by omega
  have t1 : (t : Int) < 24 := by omega
  have hd : decide (n ≤ 0) = false := decide_eq_false (by omega)
  have hd2 : decide (lk ≤ n) = true := decide_eq_true hn2
  clear hB hk hk2 hn hn2 hs
  go_enter Try.func136, Try.ntmps136
  go_wp2_with fail
  go_ret
  exact ⟨rfl, rfl⟩
set_option maxRecDepth 100000 in
set_option maxHeartbeats 3200000 in
theorem after_full (wv gv : Value) (gs : List Rl) (nx : List (List Int)) (s : Int) (lo : Nat) (w : World) (hok : gOk gs = true) (hr : Rules w gv gs) (hW : IsW w lo wv gv gs nx s) (hs : 0 ≤ s ∧ s < 24) :
    Calls Try.prog 102 #[wv, .int .i64 (wordLen gs)] w fun e w' => e = .returned (.int .i64 (endS nx gs s)) ∧ Below w.heap.size w w' := by
  have hmf : ∀ (fn : Fn) (first cap : Array Value) (w : World), (Instr.makeFunc fn first cap).run Try.prog w = .ok (.func fn first cap) w := fun _ _ _ _ => rfl
  obtain ⟨lv, mv, rfl, h2, h3⟩ := hW
  have hn400 := gOk_len hok
  have hfit := (gOk_iff.1 hok).2.1
  have hb : Below w.heap.size w ((w.alloc (.cells #[gv, lv, mv, .int .i64 s] 122)).alloc (.cells #[.func (.func 136) #[] #[.pointer (some ⟨w.heap.size, 0, none⟩), .pointer (some ⟨w.heap.size + 1, 0, none⟩)]] 172)) := ((Below.refl _ w).alloc (Nat.le_refl _) _).alloc (by simp) _
  have hP : B4 ((w.alloc (.cells #[gv, lv, mv, .int .i64 s] 122)).alloc (.cells #[.func (.func 136) #[] #[.pointer (some ⟨w.heap.size, 0, none⟩), .pointer (some ⟨w.heap.size + 1, 0, none⟩)]] 172)) w.heap.size gv lv mv (.int .i64 s) 122 := (B4.new w _ _ _ _ _).alloc _
  have hQ := heap_alloc_new (w.alloc (.cells #[gv, lv, mv, .int .i64 s] 122)) (.cells #[.func (.func 136) #[] #[.pointer (some ⟨w.heap.size, 0, none⟩), .pointer (some ⟨w.heap.size + 1, 0, none⟩)]] 172)
  rw [show (w.alloc (.cells #[gv, lv, mv, .int .i64 s] 122)).heap.size = w.heap.size + 1 from by simp] at hQ
  have hq := cell_of_row _ _ 0 _ _ _ hQ
  have HLD : Hid (∀ W, Below ((w.alloc (.cells #[gv, lv, mv, .int .i64 s] 122)).alloc (.cells #[.func (.func 136) #[] #[.pointer (some ⟨w.heap.size, 0, none⟩), .pointer (some ⟨w.heap.size + 1, 0, none⟩)]] 172)).heap.size ((w.alloc (.cells #[gv, lv, mv, .int .i64 s] 122)).alloc (.cells #[.func (.func 136) #[] #[.pointer (some ⟨w.heap.size, 0, none⟩), .pointer (some ⟨w.heap.size + 1, 0, none⟩)]] 172)) W → Calls Try.prog 136 #[.int .i64 ((gs.length : Int) - 1), .int .i64 s, .int .i64 (wordLen gs), .pointer (some ⟨w.heap.size, 0, none⟩), .pointer (some ⟨w.heap.size + 1, 0, none⟩)] W fun e w' => e = .returned (.int .i64 (endS nx gs s)) ∧ w' = W) := Lib.hid (fun W hW => by
    unfold endS
    by_cases h0 : gs.length = 0
    · rw [if_pos h0, wordLen_zero h0]
      exact lead_zero _ s 0 _ _ (by omega) W
    · rw [if_neg h0]
      have hk : ((gs.length : Int) - 1) = ((gs.length - 1 : Nat) : Int) := by omega
      rw [hk]
      have hpos := lens_pos (gs := gs) (k := gs.length - 1) (by omega) (fun j hj _ => fits_at hfit j hj)
      unfold wordLen
      exact lead_full (gs.length - 1) s _ w.heap.size _ gv lv mv s (lens gs) (mapsK nx gs gs.length) lo W (hP.kept hW) (((IsL.of_own h2).kept hb).kept hW) ((h3.kept hb).kept hW) (by rw [lens_len]; omega) (by rw [mapsK_len]; omega) (by omega) (Int.le_refl _) hs)
  have HB := Lib.hid hb
  obtain ⟨⟨p0, p1, p2, p3⟩, _⟩ := blk4_cells hP
  obtain ⟨Ag, cg, rfl, hRx⟩ := hr
  obtain ⟨A2, c2, rfl⟩ := own_slice h2
  obtain ⟨A3, c3, rfl, h3x⟩ := h3
  have HLO := Lib.hid (fun W => lastOf_any Ag gs.length cg hn400 W)
  generalize wordLen gs = n at *
  generalize endS nx gs s = z at *
  clear hok hs hn400 hfit hRx h3x h2 hP hQ
  go_enter Try.func102, Try.ntmps102
  go_upto_region 3 with fail
  generalize (w.alloc (.cells #[.slice Ag gs.length cg, .slice A2 (lens gs).length c2, .slice A3 (mapsK nx gs gs.length).length c3, .int .i64 s] 122)).alloc (.cells #[.func (.func 136) #[] #[.pointer (some ⟨w.heap.size, 0, none⟩), .pointer (some ⟨w.heap.size + 1, 0, none⟩)]] 172) = w2 at *
  have hq : w2.cell? ⟨w.heap.size + 1, 0, none⟩ = some (.func (.func 136) #[] #[.pointer (some ⟨w.heap.size, 0, none⟩), .pointer (some ⟨w.heap.size + 1, 0, none⟩)]) := hq
  have HLE := Lib.hid (fun m => HLD.out (w2.drewN m) (below_drewN (Below.refl _ w2) m))
  clear hb HLD
  go_quiet ((first
    | (go_at_call 137; exact Calls.quiet_of_same (HLO.out _))
    | (go_at_call 136; exact Calls.quiet_of_same (HLE.out _))))
  go_wp2_with fail
  go_ret
  exact ⟨rfl, below_drewN HB.out _⟩
end Go.Proofs.Ytddjcgaejjldbaa
