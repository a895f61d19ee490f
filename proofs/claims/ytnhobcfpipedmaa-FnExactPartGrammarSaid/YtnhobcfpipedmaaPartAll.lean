/-
  RulC, IsP, Prt, CutM, ChG, CutS, CutT, PartI, PartS, in one text.
-/
import Derived.Test.YtnhobcfpipedmaaVar
import Derived.Test.YtnhobcfpipedmaaBase
import Derived.Test.YtnhobcfpipedmaaGramM
import Derived.Test.YtnhobcfpipedmaaGramLen
import Derived.Test.YtnhobcfpipedmaaGramOk
import Derived.Test.YtnhobcfpipedmaaCovB
import Derived.Test.YtnhobcfpipedmaaTrimM
import Derived.Test.YtnhobcfpipedmaaGPair
import Derived.Test.YtnhobcfpipedmaaOwnK
import Derived.Test.YtnhobcfpipedmaaMeas
import Derived.Test.YtnhobcfpipedmaaGramSpec
import Derived.Test.YtnhobcfpipedmaaGPr
import Derived.Deep.RegionHeld3
import Derived.Test.YtnhobcfpipedmaaGClone
import Derived.Test.YtnhobcfpipedmaaJst
import Derived.Deep.RegionLaw
import Derived.Deep.AppendLies
import Derived.Test.YtnhobcfpipedmaaGWLen
import Derived.Test.YtnhobcfpipedmaaCovK
import Derived.Test.YtnhobcfpipedmaaGLim
import Derived.Test.YtnhobcfpipedmaaTrimI
import Derived.Test.YtnhobcfpipedmaaTrimS
namespace Go.Proofs.Ytnhobcfpipedmaa
open Go.RowKit
open Wd
set_option linter.unusedVariables false
/-- rules, and no fewer places than rules -/
def RulesC (w : World) (v : Value) (gs : List Rl) : Prop := Rules w v gs ∧ ∀ A n c, v = .slice A n c → n ≤ c
theorem RulesC.kept {w w' : World} {v : Value} {gs : List Rl} (h : RulesC w v gs) (hb : Below w.heap.size w w') : RulesC w' v gs := ⟨h.1.kept hb, h.2⟩
theorem RulesC.of_own {w : World} {B e : Nat} {v : Value} {gs : List Rl} (h : w.ownsRow B e 3 v gs.length (rv gs)) : RulesC w v gs := by
  refine ⟨Rules.of_own h, fun A n c e => ?_⟩
  rcases h.2 with ⟨rfl, h0⟩ | ⟨g, cap, cur, rfl, hb, hg, hc, _⟩
  · injection e with e1 e2 e3
    omega
  · injection e with e1 e2 e3
    omega
theorem rules_addr {w : World} {A : Option Addr} {n c : Nat} {gs : List Rl} (h : Rules w (.slice A n c) gs) (h0 : 0 < gs.length) : ∃ g, A = some ⟨g, 0, none⟩ := by
  obtain ⟨A', c', e, h⟩ := h
  injection e with e1 e2 e3
  subst e1
  rcases h with h | ⟨g, hA, _⟩
  · rw [h] at h0; simp at h0
  · exact ⟨g, hA⟩
theorem rules_take {w : World} {A : Option Addr} {c n q : Nat} {gs : List Rl} (h : Rules w (.slice A n c) gs) (hq : q < gs.length) (c' : Nat) : Rules w (.slice A (q + 1) c') (gs.take (q + 1)) := by
  obtain ⟨A', c1, e, h⟩ := h
  injection e with e1 e2 e3
  subst e1
  refine ⟨A, c', by rw [List.length_take, Nat.min_eq_left (by omega)], ?_⟩
  rcases h with h | ⟨g, hA, hg, hc⟩
  · rw [h] at hq; simp at hq
  · refine .inr ⟨g, hA, hg, fun j u hu => hc j u ?_⟩
    have : rv gs = rv (gs.take (q + 1)) ++ rv (gs.drop (q + 1)) := by rw [← rv_app, List.take_append_drop]
    rw [this, List.getElem?_append_left (List.getElem?_eq_some_iff.1 hu).1]
    exact hu
end Go.Proofs.Ytnhobcfpipedmaa
namespace Go.Proofs.Ytnhobcfpipedmaa
open Go.RowKit
open Wd
set_option linter.unusedVariables false
namespace Wd
def inPart (i j n : Int) : Bool := decide (0 ≤ i) && (decide (i ≤ j) && decide (j ≤ n))
theorem inPart_iff {i j n : Int} : inPart i j n = true ↔ 0 ≤ i ∧ i ≤ j ∧ j ≤ n := by simp [inPart]
end Wd
theorem isPart_any (i j n : Int) (w : World) :
    Calls Try.prog 65 #[.int .i64 i, .int .i64 j, .int .i64 n] w fun e w' => e = .returned (.bool (inPart i j n)) ∧ w' = w := by
  by_cases h1 : 0 ≤ i
  · by_cases h2 : i ≤ j
    · have hd : inPart i j n = decide (j ≤ n) := by simp [inPart, h1, h2]
      rw [hd]
      have HD := Lib.hid hd
      clear hd
      go_enter Try.func65, Try.ntmps65
      go_wp2
      go_ret
      exact ⟨ret_bool (by first | rfl | simp), rfl⟩
    · have hd : inPart i j n = false := by simp [inPart, h2]
      rw [hd]
      have h2d : decide (i ≤ j) = false := decide_eq_false h2
      clear hd
      go_enter Try.func65, Try.ntmps65
      go_wp2
      go_ret
      exact ⟨rfl, rfl⟩
  · have hd : inPart i j n = false := by simp [inPart, h1]
    rw [hd]
    have h1d : decide (0 ≤ i) = false := decide_eq_false h1
    clear hd
    go_enter Try.func65, Try.ntmps65
    go_wp2
    go_ret
    exact ⟨rfl, rfl⟩
end Go.Proofs.Ytnhobcfpipedmaa
namespace Go.Proofs.Ytnhobcfpipedmaa
open Go.RowKit
open Wd
set_option linter.unusedVariables false
namespace Wd
def inPartS (i j n : Int) : Bool := decide (0 ≤ i) && (decide (i ≤ j) && decide (j ≤ n))
def partC (gs : List Rl) (i j : Int) : Int := if gOk gs then (if inPartS i j (wordLen gs) then 0 else 2) else 1
end Wd
set_option maxRecDepth 100000 in
set_option maxHeartbeats 1600000 in
theorem l02Part_any (p : Nat) (gs : List Rl) (i j : Int) (w : World) (hf : FewR gs) (hg : GP w p gs) :
    Calls Try.prog 60 #[.pointer (some ⟨p, 0, none⟩), .int .i64 i, .int .i64 j] w fun e w' => e = .returned (.int .i64 (partC gs i j)) ∧ Below w.heap.size w w' := by
  have h1 := l02Ok_any p gs w hf hg
  have H2 := Lib.hid (fun W (hW : GP W p gs) hok => l02Length_any p gs W hf hW hok)
  have HG := Lib.hid hg
  have hfs := gOk_fs (gs := gs)
  unfold partC
  cases hok : gOk gs
  · rw [hok] at h1
    have H1 := Lib.hid h1
    clear h1 hok hg hfs
    go_enter Try.func60, Try.ntmps60
    go_wp2_with fail
    refine H1.out.mono ?_
    rintro e w1 ⟨rfl, hB1⟩
    have HB1 := Lib.hid hB1
    clear hB1
    go_wp2_with fail
    go_ret
    exact ⟨rfl, HB1.out⟩
  · rw [hok] at h1
    have H1 := Lib.hid h1
    have HFS := Lib.hid (hfs hok)
    clear h1 hok hg hfs
    by_cases a1 : i < 0
    · have hd : inPartS i j (wordLen gs) = false := by simp [inPartS]; omega
      rw [hd]
      clear hd
      go_enter Try.func60, Try.ntmps60
      go_wp2_with fail
      refine H1.out.mono ?_
      rintro e w1 ⟨rfl, hB1⟩
      have HB1 := Lib.hid hB1
      clear hB1
      go_wp2_with fail
      go_ret
      exact ⟨rfl, HB1.out⟩
    · have a1d : decide (i < 0) = false := decide_eq_false a1
      by_cases a2 : j < i
      · have hd : inPartS i j (wordLen gs) = false := by simp [inPartS]; omega
        rw [hd]
        clear hd
        go_enter Try.func60, Try.ntmps60
        go_wp2_with fail
        refine H1.out.mono ?_
        rintro e w1 ⟨rfl, hB1⟩
        have HB1 := Lib.hid hB1
        clear hB1
        go_wp2_with fail
        go_ret
        exact ⟨rfl, HB1.out⟩
      · have a2d : decide (j < i) = false := decide_eq_false a2
        have hdd : inPartS i j (wordLen gs) = decide (j ≤ wordLen gs) := by
          have e1 : decide (0 ≤ i) = true := decide_eq_true (by omega)
          have e2 : decide (i ≤ j) = true := decide_eq_true (by omega)
          simp [inPartS, e1, e2]
        rw [hdd]
        generalize wordLen gs = wl at *
        by_cases a3 : wl < j
        · have hd : decide (j ≤ wl) = false := decide_eq_false (by omega)
          rw [hd]
          clear hd hdd
          go_enter Try.func60, Try.ntmps60
          go_wp2_with fail
          refine H1.out.mono ?_
          rintro e w1 ⟨rfl, hB1⟩
          have HB1 := Lib.hid hB1
          clear hB1
          go_wp2_with fail
          refine (H2.out _ (HG.out.kept HB1.out) HFS.out).mono ?_
          rintro e w2 ⟨rfl, hB2⟩
          have HB2 := Lib.hid (HB1.out.trans (hB2.mono HB1.out.size))
          clear hB2
          go_wp2_with fail
          go_ret
          exact ⟨rfl, HB2.out⟩
        · have hd : decide (j ≤ wl) = true := decide_eq_true (by omega)
          rw [hd]
          have a3d : decide (wl < j) = false := decide_eq_false a3
          clear hd hdd
          go_enter Try.func60, Try.ntmps60
          go_wp2_with fail
          refine H1.out.mono ?_
          rintro e w1 ⟨rfl, hB1⟩
          have HB1 := Lib.hid hB1
          clear hB1
          go_wp2_with fail
          refine (H2.out _ (HG.out.kept HB1.out) HFS.out).mono ?_
          rintro e w2 ⟨rfl, hB2⟩
          have HB2 := Lib.hid (HB1.out.trans (hB2.mono HB1.out.size))
          clear hB2
          go_wp2_with fail
          go_ret
          exact ⟨rfl, HB2.out⟩

end Go.Proofs.Ytnhobcfpipedmaa
namespace Go.Proofs.Ytnhobcfpipedmaa
open Go.RowKit
set_option linter.unusedVariables false
namespace Wd
/-- the cover, by places of each rule's own word -/
def cutF (gs : List Rl) : Nat → Nat → Int → Int → List Int
  | 0, _, _, _ => []
  | f + 1, k, i, j =>
    if j ≤ i then [] else if i = 0 ∧ j = (lens gs).getD k 0 then [(k : Int)] else
      match gs[k]? with
      | some x => cutF gs f x.l.toNat i (min j ((lens gs).getD x.l.toNat 0)) ++ cutF gs f x.r.toNat (max (i - (lens gs).getD x.l.toNat 0) 0) (j - (lens gs).getD x.l.toNat 0)
      | none => []
theorem cut_none {gs : List Rl} {f k : Nat} {i j : Int} (h : j ≤ i) : cutF gs (f + 1) k i j = [] := by rw [cutF, if_pos h]
theorem cut_whole {gs : List Rl} {f k : Nat} {i j : Int} (h : ¬ j ≤ i) (h2 : i = 0 ∧ j = (lens gs).getD k 0) : cutF gs (f + 1) k i j = [(k : Int)] := by rw [cutF, if_neg h, if_pos h2]
theorem cut_two {gs : List Rl} {f k a b : Nat} {i j : Int} (hk : k < gs.length) (ha : gs[k].l = a) (hb : gs[k].r = b) (h : ¬ j ≤ i) (h2 : ¬ (i = 0 ∧ j = (lens gs).getD k 0)) :
    cutF gs (f + 1) k i j = cutF gs f a i (min j ((lens gs).getD a 0)) ++ cutF gs f b (max (i - (lens gs).getD a 0) 0) (j - (lens gs).getD a 0) := by
  rw [cutF, if_neg h, if_neg h2, List.getElem?_eq_getElem hk]
  simp only [ha, hb, Int.toNat_natCast]
theorem cover_cut {gs : List Rl} (hok : gOk gs = true) (i j : Int) (hij : i < j) : ∀ f k s, k < f → k < gs.length → coverF gs i j f k s = cutF gs f k (max (i - s) 0) (min (j - s) ((lens gs).getD k 0))
  | 0, _, _, h, _ => by omega
  | f + 1, k, s, h, hk => by
    have hp := lens_pos hk fun q hq _ => fits_at (gOk_iff.1 hok).2.1 q hq
    by_cases h1 : s + (lens gs).getD k 0 ≤ i ∨ j ≤ s
    · rw [cover_out h1, cut_none (by omega)]
    · by_cases h2 : i ≤ s ∧ s + (lens gs).getD k 0 ≤ j
      · rw [cover_in h1 h2, cut_whole (by omega) (by omega)]
      · have h0 := cut_pair hok hk h1 h2
        obtain ⟨a, b, ha, hb, hak, hbk, hs2, p1, _, p2, _⟩ := pair_parts hok hk h0
        rw [cover_pair hk ha hb h1 h2, cut_two hk ha hb (by omega) (by omega), cover_cut hok i j hij f a s (by omega) (by omega), cover_cut hok i j hij f b _ (by omega) (by omega)]
        congr 2 <;> omega
theorem cutA_eq {gs : List Rl} (hok : gOk gs = true) (hg : 0 < gs.length) {i j : Int} (h0 : 0 ≤ i) (hij : i < j) (hj : j ≤ (lens gs).getD (gs.length - 1) 0) : cutF gs gs.length (gs.length - 1) i j = covA gs i j := by
  unfold covA
  rw [cover_cut hok i j hij gs.length (gs.length - 1) 0 (by omega) (by omega)]
  congr 1 <;> omega
/-- the first pairs that make a list of numbers one, behind so many rules -/
def chK (N : Nat) (c : List Int) (m : Nat) : List Rl := (List.range m).map fun t => ⟨⟨#[]⟩, if t = 0 then c.getD 0 0 else ((N + t : Nat) : Int) - 1, c.getD (t + 1) 0⟩
theorem chK_succ (N : Nat) (c : List Int) (m : Nat) : chK N c (m + 1) = chK N c m ++ [⟨⟨#[]⟩, if m = 0 then c.getD 0 0 else ((N + m : Nat) : Int) - 1, c.getD (m + 1) 0⟩] := by
  unfold chK
  rw [List.range_succ, List.map_append]
  rfl
theorem chK_len (N : Nat) (c : List Int) (m : Nat) : (chK N c m).length = m := by simp [chK]
/-- the rules of a part before trimming -/
def cutG (gs : List Rl) (i j : Int) : List Rl :=
  if i = j then [] else if (covA gs i j).length = 1 then gs.take ((covA gs i j).headD 0).toNat.succ else gs ++ chK gs.length (covA gs i j) ((covA gs i j).length - 1)
theorem fits_nil : fits [] = true := decide_eq_true fun k h => by simp at h
theorem fits_take {gs : List Rl} (h : fits gs = true) (m : Nat) : fits (gs.take m) = true := by
  refine decide_eq_true fun k hk => ?_
  rw [List.length_take] at hk
  rw [List.getElem_take]
  exact fits_at h k (by omega)
theorem fits_chK {gs : List Rl} (h : fits gs = true) {c : List Int} (hc : ∀ q ∈ c, 0 ≤ q ∧ q < (gs.length : Int)) (m : Nat) (hm : m + 1 ≤ c.length ∨ m = 0) : fits (gs ++ chK gs.length c m) = true := by
  refine decide_eq_true fun k hk => ?_
  rw [List.length_append, chK_len] at hk
  by_cases hkg : k < gs.length
  · rw [List.getElem_append_left hkg]
    exact fits_at h k hkg
  · rw [List.getElem_append_right (by omega)]
    have hget : ∀ t, t < c.length → 0 ≤ c.getD t 0 ∧ c.getD t 0 < (gs.length : Int) := fun t ht => by
      rw [List.getD_eq_getElem?_getD, List.getElem?_eq_getElem ht, Option.getD_some]
      exact hc _ (List.getElem_mem ht)
    have h0 := hget 0 (by omega)
    have h1 := hget (k - gs.length + 1) (by omega)
    simp only [chK, List.getElem_map, List.getElem_range]
    rw [ok_pair (by rfl)]
    simp only
    split <;> omega
theorem cut_fits {gs : List Rl} (hok : gOk gs = true) (hg : 0 < gs.length) (i j : Int) : fits (cutG gs i j) = true := by
  unfold cutG
  split
  · exact fits_nil
  · split
    · exact fits_take (gOk_iff.1 hok).2.1 _
    · exact fits_chK (gOk_iff.1 hok).2.1 (covA_lt hok hg i j) _ (by omega)
theorem cut_len {gs : List Rl} (hok : gOk gs = true) (hg : 0 < gs.length) (i j : Int) : (cutG gs i j).length ≤ 1300 := by
  have h1 := cover_bd hok i j gs.length (gs.length - 1) 0 (by omega) (by omega)
  have h2 := gOk_len hok
  unfold cutG
  split
  · simp
  · split
    · rw [List.length_take]; omega
    · rw [List.length_append, chK_len]
      unfold covA
      omega
theorem cutF_bd {gs : List Rl} (hok : gOk gs = true) {f k : Nat} {i j : Int} (hf : k < f) (hk : k < gs.length) (h0 : 0 ≤ i) (hj : j ≤ (lens gs).getD k 0) : (cutF gs f k i j).length ≤ 2 * k + 2 := by
  by_cases hij : i < j
  · have h1 := cover_cut hok i j hij f k 0 hf hk
    have h2 := cover_bd hok i j f k 0 hf hk
    rw [h1, show max (i - 0) 0 = i from by omega, show min (j - 0) ((lens gs).getD k 0) = j from by omega] at h2
    exact h2
  · obtain ⟨f', rfl⟩ : ∃ f', f = f' + 1 := ⟨f - 1, by omega⟩
    rw [cut_none (by omega)]
    simp
theorem redR_one {F : List Nat} {x : Rl} (h : x.L.size ≤ 1) : (redR F x).L.size ≤ 1 := by
  unfold redR
  split
  · exact Nat.zero_le _
  · exact h
theorem kT_one {gs : List Rl} (h : ∀ k (hk : k < gs.length), gs[k].L.size ≤ 1) (n j : Nat) : ((kT gs n).getD j zeroR).L.size ≤ 1 := by
  by_cases hj : j < n
  · rw [List.getD_eq_getElem?_getD, kT_pre gs j n hj, Option.getD_some]
    unfold nxT
    refine redR_one ?_
    by_cases hg : j < gs.length
    · rw [List.getD_eq_getElem?_getD, List.getElem?_eq_getElem hg, Option.getD_some]
      exact h j hg
    · rw [List.getD_eq_getElem?_getD, List.getElem?_eq_none (by omega), Option.getD_none]
      exact Nat.zero_le _
  · rw [List.getD_eq_getElem?_getD, List.getElem?_eq_none (by rw [kT_len]; omega), Option.getD_none]
    exact Nat.zero_le _
theorem out_sum {K : List Rl} {nd : List Bool} (h : ∀ j, (K.getD j zeroR).L.size ≤ 1) : ∀ i, sumL (outT K nd i).2 ≤ i
  | 0 => Nat.le_refl _
  | i + 1 => by
    have ih := out_sum (nd := nd) h i
    rw [outT]
    split
    · have := redR_one (F := (outT K nd i).1.set i (outT K nd i).2.length) (h i)
      simp only [sumL, List.map_append, List.sum_append, List.map_cons, List.map_nil, List.sum_cons, List.sum_nil] at ih ⊢
      omega
    · omega
theorem fits_one {gs : List Rl} (h : fits gs = true) (k : Nat) (hk : k < gs.length) : gs[k].L.size ≤ 1 := by
  by_cases h0 : gs[k].L.size = 0
  · omega
  · have := ((ok_letter h0).1 (fits_at h k hk)).1.1
    omega
theorem trim_sum {gs : List Rl} (h : fits gs = true) : sumL (trimG gs) ≤ gs.length := out_sum (kT_one (fits_one h) _) _
theorem trim_nil : trimG [] = [] := rfl
theorem cutF_pos' {gs : List Rl} (hok : gOk gs = true) : ∀ f k (i j : Int), k < f → k < gs.length → 0 ≤ i → i < j → j ≤ (lens gs).getD k 0 → 1 ≤ (cutF gs f k i j).length
  | 0, _, _, _, h, _, _, _, _ => by omega
  | f + 1, k, i, j, h, hk, h0, hij, hj => by
    by_cases h2 : i = 0 ∧ j = (lens gs).getD k 0
    · rw [cut_whole (by omega) h2]; simp
    · have hp := cut_pair (i := i) (j := j) (s := 0) hok hk (by omega) (by omega)
      obtain ⟨a, b, ha, hb, hak, hbk, hs2, p1, _, p2, _⟩ := pair_parts hok hk hp
      rw [cut_two hk ha hb (by omega) h2, List.length_append]
      by_cases hi : i < (lens gs).getD a 0
      · have := cutF_pos' hok f a i (min j ((lens gs).getD a 0)) (by omega) (by omega) h0 (by omega) (by omega)
        omega
      · have := cutF_pos' hok f b (max (i - (lens gs).getD a 0) 0) (j - (lens gs).getD a 0) (by omega) (by omega) (by omega) (by omega) (by omega)
        omega
theorem cutF_pos {gs : List Rl} (hok : gOk gs = true) (hg : 0 < gs.length) {i j : Int} (h0 : 0 ≤ i) (hij : i < j) (hj : j ≤ (lens gs).getD (gs.length - 1) 0) : 1 ≤ (cutF gs gs.length (gs.length - 1) i j).length :=
  cutF_pos' hok _ _ i j (by omega) (by omega) h0 hij hj
theorem gOk_nil : gOk [] = true := by
  unfold gOk
  rw [fits_nil]
  simp [small]
end Wd
end Go.Proofs.Ytnhobcfpipedmaa
namespace Go.Proofs.Ytnhobcfpipedmaa
open Go.RowKit
open Wd
set_option linter.unusedVariables false
/-- what holds between two pairs -/
def CgRel (l : List Int) (gs : List Rl) (B : Nat) (nv : Value) (w : World) (y i : Value) (wr : World) : Prop :=
  ∃ t : Nat, t + 1 ≤ max 1 l.length ∧ i = .int .i64 ((t : Int) + 1) ∧ wr.ownsRow B 94 3 y (gs.length + t) (rv (gs ++ chK gs.length l t)) ∧ wr.ownsRow B 2 1 nv l.length (iv l) ∧ Below B w wr

set_option maxRecDepth 100000 in
set_option maxHeartbeats 6400000 in
theorem chainedG_any (A A' : Option Addr) (c c' B : Nat) (l : List Int) (gs : List Rl) (w : World) (hl : l.length ≤ 2000) (hg4 : gs.length ≤ 400) (hB : B ≤ w.heap.size)
    (hr : w.ownsRow B 94 3 (.slice A gs.length c) gs.length (rv gs)) (hn : w.ownsRow B 2 1 (.slice A' l.length c') l.length (iv l)) :
    Calls Try.prog 70 #[.slice A gs.length c, .slice A' l.length c'] w fun e w' => ∃ y, e = .returned y ∧ w'.ownsRow B 94 3 y (gs ++ chK gs.length l (l.length - 1)).length (rv (gs ++ chK gs.length l (l.length - 1))) ∧ Below B w w' := by
  obtain ⟨i0, hi, hz0, hz1, hz2⟩ := info_parts Try.info_rule
  obtain ⟨N, hN⟩ : ∃ N, N = gs.length := ⟨_, rfl⟩
  obtain ⟨L, hL⟩ : ∃ L, L = l.length := ⟨_, rfl⟩
  have HST : Hid (CgRel l gs B (.slice A' L c') w (.slice A N c) (.int .i64 1) w) := Lib.hid ⟨0, by omega, rfl, by rw [show chK gs.length l 0 = [] from rfl, List.append_nil, Nat.add_zero, hN]; exact hr, by rw [hL]; exact hn, Below.refl _ _⟩
  have HN := Lib.hid hN
  have HL := Lib.hid hL
  rw [← hN] at hg4 ⊢
  rw [← hL] at hl ⊢
  clear hr hn hN hL
  go_enter Try.func70, Try.ntmps70
  go_wp2_with fail
  go_loopw [0, 5, 6] (fun y i _ wr => CgRel l gs B (.slice A' L c') w y i wr) (fun _ i _ _ => L - (intOf i).toNat)
  case atStart => exact HST.out
  case round =>
    obtain ⟨t, ht, rfl, hown, hnr, hbw⟩ := hrel
    obtain ⟨wo, rfl⟩ : ∃ wo : World, wo = wr := ⟨_, rfl⟩
    rw [← HN.out] at hown
    rw [← HL.out] at ht hnr
    obtain ⟨A2, c2, rfl⟩ := own_slice hown
    have hbsz := hbw.size
    by_cases hlt : t + 1 < L
    · obtain ⟨M, rfl, hM1, hM2⟩ := own_addr hnr (by omega)
      have n0 := (hnr.cellAt 0 (by omega)).trans (iv_at (by rw [← HL.out]; omega))
      have n1 := (hnr.cellAt (t + 1) (by omega)).trans (iv_at (by rw [← HL.out]; omega))
      obtain ⟨BF, hBF⟩ : ∃ BF : Int, BF = if t = 0 then l.getD 0 0 else ((N + t : Nat) : Int) - 1 := ⟨_, rfl⟩
      obtain ⟨RG, hRG⟩ : ∃ RG : Int, RG = l.getD (t + 1) 0 := ⟨_, rfl⟩
      have HPX := Lib.hid (show chK N l (t + 1) = chK N l t ++ [⟨⟨#[]⟩, BF, RG⟩] from by rw [chK_succ, hBF, hRG])
      rw [← hRG] at n1
      have HPA := Lib.hid (fun W => pairA BF RG W)
      have HO := Lib.hid hown
      have HNR := Lib.hid hnr
      have HBW := Lib.hid hbw
      by_cases h0 : t = 0
      · rw [if_pos h0] at hBF
        rw [← hBF] at n0
        have h0' : ¬ (1 : Int) < (t : Int) + 1 := by omega
        clear hown hnr hbw hBF hRG h0
        go_wp2_with fail
        refine (HPA.out _).mono ?_
        rintro e w5 ⟨rfl, hB5⟩
        have HO5 := Lib.hid (own_below HO.out hB5 (Nat.le_refl _))
        have HN5 := Lib.hid (own_below HNR.out hB5 (Nat.le_refl _))
        have HB5 := Lib.hid (HBW.out.trans (hB5.mono (Nat.le_trans hB hbsz)))
        have HNW := Lib.hid (news3 w5 (⟨⟨#[]⟩, BF, RG⟩) 94)
        have hb5 := HB5.out.size
        clear hB5
        go_wp2_with (first | (at_builtin; refine wpList_append_own _ rfl _ _ 29 rfl B 94 i0 (.agg #[.string ⟨#[]⟩, .int .i64 0, .int .i64 0]) 3 32 Try.underlying29 hi hz0 hz1 hz2 rfl (by decide) _ _ _ rfl (World.ownsRow.alloc HO5.out _) ⟨w5.heap.size, 0, none⟩ 1 1 (rc (⟨⟨#[]⟩, BF, RG⟩)) rfl rfl HNW.out (rc_cell _) (by unfold maxLen; omega) (by omega) (by simp; omega) ?_))
        intro v8 w8 hown' hgrow _
        have HR8 : Hid (CgRel l gs B (.slice (some ⟨M, 0, none⟩) L c') w v8 (.int .i64 ((t : Int) + 1 + 1)) w8) := Lib.hid ⟨t + 1, by rw [← HL.out]; omega, by go_num, by
          rw [← HN.out, HPX.out, ← List.append_assoc, rv_app, rv_one]; exact hown', by
          rw [← HL.out]; exact own_other HN5.out HO5.out (by decide) hgrow, ((HB5.out.alloc (Nat.le_trans hB hb5) _).grown hgrow (by simp; omega) (fun q hq => (HO5.out.lt q hq).1))⟩
        clear hown' hgrow
        go_wp2_with fail
        go_roundw
        case rel => first | exact HR8.out | ((repeat apply Exists.intro); exact ⟨HR8.out, rfl⟩)
        case measure => (first | (simp [intOf]; done) | (simp [intOf]; omega))
      · rw [if_neg h0] at hBF
        have h0' : (1 : Int) < (t : Int) + 1 := by omega
        have HLA : Hid (∀ W, Calls Try.prog 107 #[.slice A2 (N + t) c2] W fun e w' => e = .returned (.int .i64 BF) ∧ w' = W) := Lib.hid (fun W => (lastA A2 (N + t) c2 (by omega) W).mono fun e w' h => ⟨h.1.trans (ret_int (by omega)), h.2⟩)
        clear hown hnr hbw hRG hBF
        go_wp2_with fail
        refine (HLA.out _).mono ?_
        rintro e w4 ⟨rfl, rfl⟩
        go_wp2_with fail
        refine (HPA.out _).mono ?_
        rintro e w5 ⟨rfl, hB5⟩
        have HO5 := Lib.hid (own_below HO.out hB5 (Nat.le_refl _))
        have HN5 := Lib.hid (own_below HNR.out hB5 (Nat.le_refl _))
        have HB5 := Lib.hid (HBW.out.trans (hB5.mono (Nat.le_trans hB hbsz)))
        have HNW := Lib.hid (news3 w5 (⟨⟨#[]⟩, BF, RG⟩) 94)
        have hb5 := HB5.out.size
        clear hB5
        go_wp2_with (first | (at_builtin; refine wpList_append_own _ rfl _ _ 29 rfl B 94 i0 (.agg #[.string ⟨#[]⟩, .int .i64 0, .int .i64 0]) 3 32 Try.underlying29 hi hz0 hz1 hz2 rfl (by decide) _ _ _ rfl (World.ownsRow.alloc HO5.out _) ⟨w5.heap.size, 0, none⟩ 1 1 (rc (⟨⟨#[]⟩, BF, RG⟩)) rfl rfl HNW.out (rc_cell _) (by unfold maxLen; omega) (by omega) (by simp; omega) ?_))
        intro v8 w8 hown' hgrow _
        have HR8 : Hid (CgRel l gs B (.slice (some ⟨M, 0, none⟩) L c') w v8 (.int .i64 ((t : Int) + 1 + 1)) w8) := Lib.hid ⟨t + 1, by rw [← HL.out]; omega, by go_num, by
          rw [← HN.out, HPX.out, ← List.append_assoc, rv_app, rv_one]; exact hown', by
          rw [← HL.out]; exact own_other HN5.out HO5.out (by decide) hgrow, ((HB5.out.alloc (Nat.le_trans hB hb5) _).grown hgrow (by simp; omega) (fun q hq => (HO5.out.lt q hq).1))⟩
        clear hown' hgrow
        go_wp2_with fail
        go_roundw
        case rel => first | exact HR8.out | ((repeat apply Exists.intro); exact ⟨HR8.out, rfl⟩)
        case measure => (first | (simp [intOf]; done) | (simp [intOf]; omega))
    · have htl : L - 1 = t := by omega
      have HO : Hid (wo.ownsRow B 94 3 (.slice A2 (N + t) c2) (gs ++ chK N l (L - 1)).length (rv (gs ++ chK N l (L - 1)))) := Lib.hid (by
        rw [List.length_append, chK_len, ← HN.out, htl]; exact hown)
      clear htl
      go_wp2_with fail
      go_ret
      exact ⟨_, rfl, HO.out, hbw⟩
end Go.Proofs.Ytnhobcfpipedmaa
namespace Go.Proofs.Ytnhobcfpipedmaa
open Go.RowKit
open Wd
set_option linter.unusedVariables false
theorem mn_any (a b : Int) (w : World) : Calls Try.prog 152 #[.int .i64 a, .int .i64 b] w fun e w' => e = .returned (.int .i64 (min a b)) ∧ w' = w := by
  by_cases h : a < b
  · have HM := Lib.hid (show min a b = a by omega)
    go_enter Try.func152, Try.ntmps152
    go_wp2
    go_ret
    exact ⟨ret_int HM.out.symm, rfl⟩
  · have HM := Lib.hid (show min a b = b by omega)
    go_enter Try.func152, Try.ntmps152
    go_wp2
    go_ret
    exact ⟨ret_int HM.out.symm, rfl⟩
theorem mx_any (a b : Int) (w : World) : Calls Try.prog 153 #[.int .i64 a, .int .i64 b] w fun e w' => e = .returned (.int .i64 (max a b)) ∧ w' = w := by
  by_cases h : b < a
  · have HM := Lib.hid (show max a b = a by omega)
    go_enter Try.func153, Try.ntmps153
    go_wp2
    go_ret
    exact ⟨ret_int HM.out.symm, rfl⟩
  · have HM := Lib.hid (show max a b = b by omega)
    go_enter Try.func153, Try.ntmps153
    go_wp2
    go_ret
    exact ⟨ret_int HM.out.symm, rfl⟩
/-- where the rules and the lengths lie, below a number -/
def CvSt (B p L : Nat) (A : Option Addr) (c : Nat) (gs : List Rl) (w : World) : Prop :=
  (p < B ∧ w.cell? ⟨p, 0, none⟩ = some (.slice A gs.length c)) ∧ (gs = [] ∨ ∃ g, A = some ⟨g, 0, none⟩ ∧ g < B ∧ ∀ j u, (rv gs)[j]? = some u → w.cell? ⟨g, j, none⟩ = some u) ∧ (L < B ∧ ∀ k, k < gs.length → w.cell? ⟨L, k, none⟩ = some (.int .i64 ((lens gs).getD k 0)))
theorem CvSt.below {B p L : Nat} {A : Option Addr} {c : Nat} {gs : List Rl} {w w' : World} (h : CvSt B p L A c gs w) (hb : Below B w w') : CvSt B p L A c gs w' := by
  have hc : ∀ b o v, b < B → w.cell? ⟨b, o, none⟩ = some v → w'.cell? ⟨b, o, none⟩ = some v := fun b o v hlt hv => by
    rw [World.cell?_of_block (a := ⟨b, o, none⟩) (hb.block b hlt)]; exact hv
  obtain ⟨⟨h1, h2⟩, h3, h4, h5⟩ := h
  refine ⟨⟨h1, hc _ _ _ h1 h2⟩, ?_, h4, fun k hk => hc _ _ _ h4 (h5 k hk)⟩
  rcases h3 with h3 | ⟨g, hA, hg, hcc⟩
  · exact .inl h3
  · exact .inr ⟨g, hA, hg, fun j u hu => hc _ _ _ hg (hcc j u hu)⟩
set_option maxRecDepth 100000 in
set_option maxHeartbeats 6400000 in
theorem l02Cover_any (B p L : Nat) (A : Option Addr) (c cl : Nat) (gs : List Rl) (hok : gOk gs = true) : ∀ f k, k < f → k < gs.length → ∀ (i j : Int) (ov : Value) (done : List Int) (W : World), 0 ≤ i → i ≤ 1000000000000000 → j ≤ (lens gs).getD k 0 → -1000000000000000 ≤ j →
    CvSt B p L A c gs W → W.ownsRow B 2 1 ov done.length (iv done) → done.length + (cutF gs f k i j).length ≤ 2000 → B ≤ W.heap.size →
    Calls Try.prog 115 #[.pointer (some ⟨p, 0, none⟩), .slice (some ⟨L, 0, none⟩) gs.length cl, .int .i64 k, .int .i64 i, .int .i64 j, ov] W fun e w' => ∃ y, e = .returned y ∧ w'.ownsRow B 2 1 y (done ++ cutF gs f k i j).length (iv (done ++ cutF gs f k i j)) ∧ Below B W w'
  | 0, k, h, _ => by omega
  | f + 1, k, h, hk => by
    intro i j ov done W hi0 hi1 hj hj1 hst hown hfew hBW
    obtain ⟨i0, hi, hz0, hz1, hz2⟩ := info_parts Try.info_i64
    have hn := gOk_len hok
    have hsm := small_at (gOk_iff.1 hok).2.2 k hk
    have hp := lens_pos hk fun q hq _ => fits_at (gOk_iff.1 hok).2.1 q hq
    have HW := Lib.hid hown
    have HST := Lib.hid hst
    obtain ⟨Ao, co, rfl⟩ := own_slice hown
    obtain ⟨⟨p1, p2⟩, hrr, L1, L2⟩ := hst
    have lk := L2 k hk
    have t1 : (0 : Int) ≤ (k : Int) := by omega
    have t2 : (k : Int) < (gs.length : Int) := by omega
    by_cases hji : j ≤ i
    · rw [cut_none hji, List.append_nil]
      clear hown hrr L2
      go_enter Try.func115, Try.ntmps115
      go_wp2
      go_ret
      exact ⟨_, rfl, HW.out, Below.refl _ _⟩
    · by_cases hwh : i = 0 ∧ j = (lens gs).getD k 0
      · rw [cut_whole hji hwh] at hfew ⊢
        obtain ⟨rfl, hjl⟩ := hwh
        rw [← hjl] at lk
        have hHF := Lib.hid hfew
        have HBW := Lib.hid hBW
        have hlen : done.length ≤ 2000 := by omega
        clear hown hrr L2 hjl hsm hp hj hfew
        go_enter Try.func115, Try.ntmps115
        go_wp2_with (first | (at_builtin; refine wpList_append_own _ rfl _ _ 26 rfl B 2 i0 (.int .i64 0) 1 8 Try.underlying26 hi hz0 hz1 hz2 rfl (by decide) _ _ _ rfl (World.ownsRow.alloc HW.out _) ⟨W.heap.size, 0, none⟩ 1 1 [.int .i64 k] rfl rfl (one_new _ _ _) (one_int _ _) (by unfold maxLen; omega) (by omega) (by simp; omega) ?_))
        intro v' w2 hown' hgrow _
        have HF : Hid (w2.ownsRow B 2 1 v' (done ++ [(k : Int)]).length (iv (done ++ [(k : Int)]))) := Lib.hid (by rw [List.length_append, iv_app]; exact hown')
        have HB := Lib.hid (((Below.refl B W).alloc HBW.out (.cells #[.int .i64 (k : Int)] 2)).grown hgrow (by have := HBW.out; simp; omega) (fun q hq => (HW.out.lt q hq).1))
        clear hown' hgrow
        go_wp2_with fail
        go_ret
        exact ⟨_, rfl, HF.out, HB.out⟩
      · have h0 : gs[k].L.size = 0 := by
          by_cases h0 : gs[k].L.size = 0
          · exact h0
          · have h1 : (lens gs).getD k 0 = 1 := vals_letter _ gs k hk h0
            exfalso
            apply hwh
            omega
        obtain ⟨a, b, ha, hb, hak, hbk, hs2, pa1, pa2, pb1, pb2⟩ := pair_parts hok hk h0
        rw [cut_two hk ha hb hji hwh] at hfew ⊢
        rcases hrr with hrr | ⟨g, rfl, hg, hcc⟩
        · rw [hrr] at hk; simp at hk
        obtain ⟨a0, a1, a2⟩ := rules_cells hcc hk
        rw [ha] at a1
        rw [hb] at a2
        have la := L2 a (by omega)
        have ha2 : (a : Int) < (gs.length : Int) := by omega
        have ha3 : (0 : Int) ≤ (a : Int) := by omega
        have hgd : (i == 0) = true → (j == (lens gs).getD k 0) = false := fun h => by
          rw [beq_eq_false_iff_ne]
          intro e
          exact hwh ⟨by simpa using h, e⟩
        obtain ⟨la', hla'⟩ : ∃ q, q = (lens gs).getD a 0 := ⟨_, rfl⟩
        have IHA := fun m => l02Cover_any B p L (some ⟨g, 0, none⟩) c cl gs hok f a (by omega) (by omega) i (min j la') (.slice Ao done.length co) done (W.drewN m) hi0 hi1 (by rw [hla']; omega) (by omega) HST.out HW.out (by rw [List.length_append] at hfew; rw [hla']; omega) hBW
        have IHB := fun y W' (hB : Below B W W') h1 => l02Cover_any B p L (some ⟨g, 0, none⟩) c cl gs hok f b (by omega) (by omega) (max (i - la') 0) (j - la') y (done ++ cutF gs f a i (min j la')) W' (by omega) (by omega) (by omega) (by omega) (HST.out.below hB) h1 (by rw [List.length_append] at hfew ⊢; rw [hla']; omega) (Nat.le_trans hBW hB.size)
        rw [← hla'] at la ⊢
        have HA := Lib.hid IHA
        have HB := Lib.hid IHB
        have HMN := Lib.hid (fun W => mn_any j la' W)
        have HMX := Lib.hid (fun W => mx_any (i - la') 0 W)
        have hw1 : IntKind.i64.wrap (i - la') = i - la' := IntWalk.i64_in _ (by omega)
        have hw2 : IntKind.i64.wrap (j - la') = j - la' := IntWalk.i64_in _ (by omega)
        have HA2 := Lib.hid (And.intro hg a2)
        generalize cutF gs f a i (min j la') = ca at *
        generalize cutF gs f b (max (i - la') 0) (j - la') = cb at *
        generalize (lens gs).getD k 0 = lk' at *
        clear IHA IHB hown L2 hcc hla' hs2 hsm hfew
        have HKEY : Hid (∀ w', Below B W w' → w'.cell? ⟨g, k * 3 + 1, none⟩ = some (.int .i64 a) ∧ w'.cell? ⟨g, k * 3 + 2, none⟩ = some (.int .i64 b)) := Lib.hid (fun w' hb => ⟨(World.cell?_of_block (a := ⟨g, k * 3 + 1, none⟩) (hb.block g hg)).trans a1, (World.cell?_of_block (a := ⟨g, k * 3 + 2, none⟩) (hb.block g hg)).trans a2⟩)
        have hqq : ((i == 0) = true ∧ (j == lk') = false) ∨ (i == 0) = false := by
          by_cases hi00 : i = 0
          · have q1 : (i == 0) = true := by rw [beq_iff_eq]; exact hi00
            exact .inl ⟨q1, hgd q1⟩
          · exact .inr (by rw [beq_eq_false_iff_ne]; exact hi00)
        clear hgd hwh
        rcases hqq with ⟨q1, q2⟩ | q1
        all_goals
          go_enter Try.func115, Try.ntmps115
          go_wp2_with fail
          go_region_held3 (fun w' => w'.cell? ⟨g, k * 3 + 1, none⟩ = some (.int .i64 a)) (first | go_keep | exact HS5.out)
            (first
              | (go_at_call 152; refine (HMN.out _).mono ?_; rintro e w4 ⟨rfl, rfl⟩)
              | (go_at_call 115; refine (HA.out _).mono ?_; rintro e w5 ⟨y, rfl, hy, hB5⟩; have HY5 := Lib.hid hy; have HB5 := Lib.hid (below_undrew hB5); have HS5 := Lib.hid (HKEY.out _ HB5.out).1; clear hy hB5))
          have hy5 := HY5.out
          obtain ⟨N5, hN5⟩ : ∃ n : Nat, n = (done ++ ca).length := ⟨_, rfl⟩
          rw [← hN5] at hy5
          obtain ⟨Ay, cy, rfl⟩ := own_slice hy5
          have HN5 := Lib.hid hN5
          have HZ5 := Lib.hid hy5
          clear hN5 hy5 HY5
          have b2 := (HKEY.out _ HB5.out).2
          have HBm := Lib.hid (fun m => HB.out (.slice Ay N5 cy) (w5.drewN m) (below_drewN HB5.out m) (by rw [← HN5.out]; exact own_drewN HZ5.out m))
          clear a1 a2
          go_wp2_with fail
          go_region_held3 (fun w' => w'.cell? ⟨g, k * 3 + 2, none⟩ = some (.int .i64 b)) (first | go_keep | exact HS6.out)
            (first
              | (go_at_call 153; refine (HMX.out _).mono ?_; rintro e w4 ⟨rfl, rfl⟩)
              | (go_at_call 115; refine (HBm.out _).mono ?_; rintro e w6 ⟨y2, rfl, hy2, hB6⟩; have HY6 := Lib.hid hy2; have HB6 := Lib.hid (HB5.out.trans (below_undrew hB6)); have HS6 := Lib.hid (HKEY.out _ HB6.out).2; clear hy2 hB6))
          have hy6 := HY6.out
          rw [List.append_assoc] at hy6
          have HYF := Lib.hid hy6
          clear b2 hy6
          go_wp2_with fail
          go_ret
          exact ⟨_, rfl, HYF.out, HB6.out⟩
end Go.Proofs.Ytnhobcfpipedmaa
namespace Go.Proofs.Ytnhobcfpipedmaa
open Go.RowKit
open Wd
set_option linter.unusedVariables false
/-- what holds between two pairs -/
def CutRel (gs : List Rl) (cov : List Int) (w : World) (V BC : Nat) (yc : Value) (M : Nat) (pv at_ : Value) (wr : World) : Prop :=
  ∃ (t : Nat) (yv : Value), t + 1 ≤ M ∧ pv = .int .i64 (if t = 0 then cov.getD 0 0 else ((gs.length + t : Nat) : Int) - 1) ∧ at_ = .int .i64 ((t : Int) + 1) ∧ JSt w (w.heap.size + 1) V w.heap.size (gs ++ chK gs.length cov t) yv wr ∧ wr.ownsRow BC 2 1 yc M (iv cov)

set_option maxRecDepth 100000 in
set_option maxHeartbeats 12800000 in
theorem l02Cut_any (p : Nat) (v : Value) (gs : List Rl) (i j : Int) (w : World) (hf : FewR gs) (hvp : w.cell? ⟨p, 0, none⟩ = some v) (hrc : RulesC w v gs) (hok : gOk gs = true) (hp : inPart i j (wordLen gs) = true) (b1 : -9223372036854775808 ≤ i ∧ i ≤ 9223372036854775807) (b2 : -9223372036854775808 ≤ j ∧ j ≤ 9223372036854775807) :
    Calls Try.prog 61 #[.pointer (some ⟨p, 0, none⟩), .int .i64 i, .int .i64 j] w fun e w' => ∃ y, e = .returned (.agg #[y]) ∧ OwnsR w' w.heap.size y (cutG gs i j) ∧ Below w.heap.size w w' := by
  obtain ⟨i0, hi, hz0, hz1, hz2⟩ := info_parts Try.info_rule
  have hb : Below w.heap.size w (w.alloc (.cells #[.slice none 0 0] 31)) := (Below.refl _ w).alloc (Nat.le_refl _) _
  have HB := Lib.hid hb
  have HVR := Lib.hid (Var.new w (.slice none 0 0) 31)
  obtain ⟨p1, p2, p3⟩ := inPart_iff.1 hp
  have hpl : p < w.heap.size := lt_of_cell hvp
  by_cases hij : i = j
  · have hij' : (i == j) = true := by rw [beq_iff_eq]; exact hij
    have he : cutG gs i j = [] := by unfold cutG; rw [if_pos hij]
    rw [he]
    obtain ⟨x0, x1⟩ := HVR.out.cell
    clear hb hp hij he hvp hrc
    go_enter Try.func61, Try.ntmps61
    go_wp2_with fail
    refine bodyPost_ret (v := .agg #[.slice none 0 0]) (by simp [results, Try.results61, go_sem, x0]) rfl ⟨_, rfl, World.ownsRow_nil _ _ _ _, HB.out⟩
  · have hij' : (i == j) = false := by rw [beq_eq_false_iff_ne]; exact hij
    have hg0 : 0 < gs.length := by
      rcases Nat.eq_zero_or_pos gs.length with h | h
      · rw [wordLen_zero h] at p3; omega
      · exact h
    have hwl : wordLen gs = (lens gs).getD (gs.length - 1) 0 := rfl
    have hwb : wordLen gs ≤ 1000000000000000 := by have := small_at (gOk_iff.1 hok).2.2 (gs.length - 1) (by omega); omega
    have hn400 := gOk_len hok
    have hcv : cutF gs gs.length (gs.length - 1) i j = covA gs i j := cutA_eq hok hg0 p1 (by omega) (by omega)
    have hcb : (covA gs i j).length ≤ 2000 := by
      have := cover_bd hok i j gs.length (gs.length - 1) 0 (by omega) (by omega)
      unfold covA
      omega
    have hlt := covA_lt hok hg0 i j
    have hG : GP w p gs := ⟨v, hvp, hrc.1⟩
    obtain ⟨hr, hcap⟩ := hrc
    have HRW := Lib.hid hr
    obtain ⟨A, c, rfl, _⟩ := hr
    replace hcap := hcap _ _ _ rfl
    obtain ⟨ga, rfl⟩ := rules_addr HRW.out hg0
    have HGA : Hid (ga < w.heap.size ∧ ∀ j u, (rv gs)[j]? = some u → w.cell? ⟨ga, j, none⟩ = some u) := Lib.hid (by
      obtain ⟨A', c', e, h⟩ := HRW.out
      injection e with e1 e2 e3
      subst e1
      rcases h with h | ⟨g, hA, hg, hc⟩
      · rw [h] at hg0; simp at hg0
      · injection hA with hA
        injection hA with hA1 hA2 hA3
        subst hA1
        exact ⟨hg, hc⟩)
    have HLN := Lib.hid (fun W (hW : GP W p gs) => (lengths_any p gs W hf hW).mono (R' := fun e w' => ∃ x, e = .returned (.tuple #[x, .bool true]) ∧ OwnsI w' W.heap.size x (lens gs) ∧ Below W.heap.size W w') (by
      rintro e w' ⟨x, rfl, ho, hB⟩
      rw [hok]
      exact ⟨x, rfl, ho hok, hB⟩))
    have hkN : ((gs.length - 1 : Nat) : Int) = (gs.length : Int) - 1 := by omega
    have HCV : Hid (∀ B L cl W, CvSt B p L (some ⟨ga, 0, none⟩) c gs W → W.ownsRow B 2 1 (.slice (some ⟨B, 0, none⟩) 0 0) 0 [] → B ≤ W.heap.size →
        Calls Try.prog 115 #[.pointer (some ⟨p, 0, none⟩), .slice (some ⟨L, 0, none⟩) gs.length cl, .int .i64 ((gs.length : Int) - 1), .int .i64 i, .int .i64 j, .slice (some ⟨B, 0, none⟩) 0 0] W fun e w' => ∃ y, e = .returned y ∧ w'.ownsRow B 2 1 y (covA gs i j).length (iv (covA gs i j)) ∧ Below B W w') := Lib.hid (fun B L cl W h1 h2 h3 => by
      have := l02Cover_any B p L (some ⟨ga, 0, none⟩) c cl gs hok gs.length (gs.length - 1) (by omega) (by omega) i j (.slice (some ⟨B, 0, none⟩) 0 0) [] W p1 (by omega) (by omega) (by omega) h1 h2 (by rw [hcv]; simpa using hcb) h3
      rw [hcv, hkN, List.nil_append] at this
      exact this)
    have hsub : IntKind.i64.wrap ((gs.length : Int) - 1) = (gs.length : Int) - 1 := by rw [IntKind.wrap_i64]; omega
    have HP := Lib.hid hpl
    have HG := Lib.hid (hG.kept hb)
    have HCP := Lib.hid hvp
    by_cases h1c : (covA gs i j).length = 1
    · have hce : cutG gs i j = gs.take (((covA gs i j).headD 0).toNat + 1) := by unfold cutG; rw [if_neg hij, if_pos h1c]
      rw [hce]
      obtain ⟨q, hq, hcq⟩ : ∃ q : Nat, q < gs.length ∧ covA gs i j = [(q : Int)] := by
        match hcv : covA gs i j, h1c with
        | [x], _ =>
          have := hlt x (by rw [hcv]; simp)
          exact ⟨x.toNat, by omega, by rw [show ((x.toNat : Nat) : Int) = x from by omega]⟩
      rw [hcq] at HCV ⊢
      rw [show (([(q : Int)] : List Int).headD 0).toNat = q from by simp]
      have HRT : Hid (∀ u ∈ rv (gs.take (q + 1)), u.oneCell' = true) := Lib.hid (rv_cell _)
      have HRV : Hid (∀ W : World, Below w.heap.size w W → ∀ k u, (rv (gs.take (q + 1)))[k]? = some u → W.cell? ((⟨ga, 0, none⟩ : Addr).add k) = some u) := Lib.hid (fun W hB k u hu => by
        have h3 : (rv gs)[k]? = some u := by
          have : rv gs = rv (gs.take (q + 1)) ++ rv (gs.drop (q + 1)) := by rw [← rv_app, List.take_append_drop]
          rw [this, List.getElem?_append_left (List.getElem?_eq_some_iff.1 hu).1]
          exact hu
        have h4 := (hB.cell (p := ⟨ga, k, none⟩) HGA.out.1).trans (HGA.out.2 k u h3)
        unfold Addr.add
        split
        · subst_vars; exact h4
        · simpa using h4)
      have HRL : Hid ((rv (gs.take (q + 1))).length = (q + 1) * 3) := Lib.hid (by rw [rv_len, List.length_take, Nat.min_eq_left (by omega)])
      have HTL : Hid ((gs.take (q + 1)).length = q + 1) := Lib.hid (by rw [List.length_take, Nat.min_eq_left (by omega)])
      have t3 : (q : Int) + 1 ≤ (c : Int) := by omega
      have t4 : (0 : Int) ≤ (q : Int) + 1 := by omega
      have t5 : ((q : Int) + 1).toNat = q + 1 := by omega
      have t1 : IntKind.i64.wrap ((q : Int) + 1) = (q : Int) + 1 := by rw [IntWalk.i64_in _ (by omega)]
      generalize gs.take (q + 1) = ts at *
      generalize wordLen gs = WL at *
      clear hb hp hij hce hcq h1c hcv hcb hlt hG hok hvp hwl hwb hkN p3
      go_enter Try.func61, Try.ntmps61
      go_wp2_with fail
      refine (HLN.out _ HG.out).mono ?_
      rintro e w2 ⟨x, rfl, hx, hB2⟩
      unfold OwnsI at hx
      rw [lens_len] at hx
      obtain ⟨Ax, cx, rfl⟩ := own_slice hx
      obtain ⟨L, rfl, _, hL⟩ := own_addr hx hg0
      have HR2 := Lib.hid (HVR.out.kept hB2)
      have HB2 := Lib.hid (HB.out.trans (hB2.mono (by simp)))
      have cp2 := (HB2.out.cell (p := ⟨p, 0, none⟩) HP.out).trans HCP.out
      have hb3 := (Below.refl _ w2).alloc (Nat.le_refl _) (.cells #[] 2)
      have HLI : Hid ((w2.alloc (.cells #[] 2)).ownsRow w2.heap.size 2 1 (.slice (some ⟨w2.heap.size, 0, none⟩) 0 0) 0 []) := Lib.hid (World.ownsRow_lit (base := w2.heap.size) (e := 2) (size := 1) w2 #[] 0 (Nat.le_refl _) (by decide) rfl)
      have HCS : Hid (CvSt w2.heap.size p L (some ⟨ga, 0, none⟩) c gs (w2.alloc (.cells #[] 2))) := Lib.hid
        ⟨⟨lt_of_cell cp2, (hb3.cell (p := ⟨p, 0, none⟩) (lt_of_cell cp2)).trans cp2⟩, .inr ⟨ga, rfl, Nat.lt_of_lt_of_le HGA.out.1 HB2.out.size, fun k u hu => (hb3.cell (p := ⟨ga, k, none⟩) (Nat.lt_of_lt_of_le HGA.out.1 HB2.out.size)).trans ((HB2.out.cell (p := ⟨ga, k, none⟩) HGA.out.1).trans (HGA.out.2 k u hu))⟩, hL, fun k hk => by
          rw [hb3.cell (p := ⟨L, k, none⟩) hL, hx.cellAt k (by omega)]; exact iv_at (by rw [lens_len]; exact hk)⟩
      have hs2 : w.heap.size < w2.heap.size := HR2.out.lt
      have HB3 := Lib.hid (HB2.out.trans (hb3.mono HB2.out.size))
      have HR3 := Lib.hid (HR2.out.kept hb3)
      have hs3 : w2.heap.size ≤ (w2.alloc (.cells #[] 2)).heap.size := hb3.size
      have HCV2 := Lib.hid (HCV.out _ L cx _ HCS.out HLI.out hs3)
      clear hB2 hx hL hb3
      go_wp2_with fail
      refine HCV2.out.mono ?_
      rintro e w4 ⟨y, rfl, hy, hB4⟩
      have HR4 : Hid (Var w4 w.heap.size (.slice none 0 0) 31) := Lib.hid ((hB4.block w.heap.size hs2).trans HR3.out)
      have HB4 := Lib.hid (HB3.out.trans (hB4.mono (Nat.le_of_lt hs2)))
      have hy0 := hy
      obtain ⟨Ay, cy, rfl⟩ := own_slice hy
      obtain ⟨Y, rfl, hYl, hY⟩ := own_addr hy (by simp)
      have y0 : w4.cell? ⟨Y, 0, none⟩ = some (.int .i64 (q : Int)) := by rw [hy.cellAt 0 (by simp)]; rfl
      have cp4 := (HB4.out.cell (p := ⟨p, 0, none⟩) HP.out).trans HCP.out
      have hs4 : w.heap.size < w4.heap.size := HR4.out.lt
      have HPN : Hid (p ≠ w.heap.size) := Lib.hid (by have := HP.out; omega)
      have HYN : Hid (Y ≠ w.heap.size) := Lib.hid (by omega)
      have HSA := Lib.hid (fun W (h : Below w4.heap.size w4 W) => And.intro ((h.cell (p := ⟨p, 0, none⟩) (lt_of_cell cp4)).trans cp4) ((h.cell (p := ⟨Y, 0, none⟩) hY).trans y0))
      have HL : Hid (((w4.alloc (.cells #[] 94)).drew).ownsRow w4.heap.size 94 3 (.slice (some ⟨w4.heap.size, 0, none⟩) 0 0) 0 []) := Lib.hid (World.ownsRow_lit (base := w4.heap.size) (e := 94) (size := 3) w4 #[] 0 (Nat.le_refl _) (by decide) rfl)
      have HBD : Hid (∀ o, Below w.heap.size w ((w4.alloc o).drew)) := Lib.hid (fun o => HB4.out.trans (((Below.refl _ w4).alloc (Nat.le_refl _) o).drew.mono HB4.out.size))
      have HRD : Hid (∀ o, Var ((w4.alloc o).drew) w.heap.size (.slice none 0 0) 31) := Lib.hid (fun o => HR4.out.kept ((Below.refl _ w4).alloc (Nat.le_refl _) o).drew)
      clear hy hy0 hYl hY hB4
      go_wp2_with fail
      go_region_held3 (fun w' => w'.cell? ⟨p, 0, none⟩ = some (.slice (some ⟨ga, 0, none⟩) gs.length c) ∧ w'.cell? ⟨Y, 0, none⟩ = some (.int .i64 (q : Int)))
        (first | exact HS9.out _ | exact HS8.out | exact HSA.out _ ((Below.refl _ w4).alloc (Nat.le_refl _) _).drew | go_keep)
        (first
          | (refine step_append_lies _ (by rfl) _ _ 29 (by rfl) w4.heap.size 94 i0 (.agg #[.string ⟨#[]⟩, .int .i64 0, .int .i64 0]) 3 32 Try.underlying29 hi hz0 hz1 hz2 (by rfl) (by decide) (.slice (some ⟨w4.heap.size, 0, none⟩) 0 0) 0 [] (by rfl) HL.out ⟨ga, 0, none⟩ (q + 1) c (rv ts) (by rfl) HRL.out ?_ HRT.out (by omega) ?_ ?_ ?_ (w4.heap.size + 1) ?_ ?_
             exact HRV.out _ (HBD.out _)
             (unfold maxLen; omega)
             omega
             exact ((Below.refl _ w4).alloc (Nat.le_refl _) _).drew.size
             (show (w4.alloc _).heap.size = _; simp)
             intro g8 c8 w8 hown' hgrow _ _
             have HO8 := Lib.hid hown'
             have HV8 : Hid (Var w8 w.heap.size (.slice none 0 0) 31) := Lib.hid ((hgrow.block w.heap.size (HRD.out _).lt (fun e => by simp [Value.ownBlock] at e; omega)).trans (HRD.out _))
             have HB8 : Hid (Below w.heap.size w w8) := Lib.hid ((HBD.out _).grown hgrow (HBD.out _).size (fun b hb => by simp [Value.ownBlock] at hb; omega))
             have HS8 : Hid (w8.cell? ⟨p, 0, none⟩ = some (.slice (some ⟨ga, 0, none⟩) gs.length c) ∧ w8.cell? ⟨Y, 0, none⟩ = some (.int .i64 (q : Int))) := Lib.hid ⟨(HB8.out.cell (p := ⟨p, 0, none⟩) HP.out).trans HCP.out, by
               have h7 := (HSA.out _ ((Below.refl _ w4).alloc (Nat.le_refl _) (.cells #[] 94)).drew).2
               rw [World.cell?_of_block (a := ⟨Y, 0, none⟩) (hgrow.block Y (lt_of_cell h7) (fun e => by simp [Value.ownBlock] at e; have := lt_of_cell y0; simp at this; omega))]
               exact h7⟩
             have HS9 := Lib.hid (fun u => And.intro ((cell_far0 (w := w8) (a := p) (b := w.heap.size) (i := 0) (j := 0) HPN.out u).trans HS8.out.1) ((cell_far0 (w := w8) (a := Y) (b := w.heap.size) (i := 0) (j := 0) HYN.out u).trans HS8.out.2))
             obtain ⟨x0, x1⟩ := HV8.out.cell
             clear hown' hgrow))
      all_goals
        go_wp2_with fail
        refine bodyPost_ret (v := .agg #[.slice (some ⟨g8, 0, none⟩) (0 + (q + 1)) c8]) (by simp [results, Try.results61, go_sem, x0]) rfl ⟨_, rfl, ?_, HB8.out.setCell (by simp) _⟩
        have h9 := own_lower (own_setLow HO8.out ⟨w.heap.size, 0, none⟩ (.slice (some ⟨g8, 0, none⟩) (0 + (q + 1)) c8) hs4) (Nat.le_of_lt hs4)
        unfold OwnsR
        rw [HTL.out]
        simpa using h9
    · have hce : cutG gs i j = gs ++ chK gs.length (covA gs i j) ((covA gs i j).length - 1) := by unfold cutG; rw [if_neg hij, if_neg h1c]
      rw [hce]
      have hM1 : 1 ≤ (covA gs i j).length := by
        rw [← hcv]
        exact cutF_pos hok hg0 p1 (by omega) (by omega)
      generalize covA gs i j = cov at *
      obtain ⟨M, hM⟩ : ∃ M, M = cov.length := ⟨_, rfl⟩
      have h1d : ((M : Int) == 1) = false := by rw [beq_eq_false_iff_ne]; omega
      have hM2 : 1 < M := by omega
      have hM3 : M ≤ 2000 := by omega
      rw [← hM] at HCV ⊢
      have HM := Lib.hid hM
      have HGW := Lib.hid hG
      generalize wordLen gs = WL at *
      clear hb hp hij hce h1c hcv hcb hlt hG hok hvp hwl hwb hkN p3 hM hM1
      go_enter Try.func61, Try.ntmps61
      go_wp2_with fail
      refine (HLN.out _ HG.out).mono ?_
      rintro e w2 ⟨x, rfl, hx, hB2⟩
      unfold OwnsI at hx
      rw [lens_len] at hx
      obtain ⟨Ax, cx, rfl⟩ := own_slice hx
      obtain ⟨L, rfl, _, hL⟩ := own_addr hx hg0
      have HR2 := Lib.hid (HVR.out.kept hB2)
      have HB2 := Lib.hid (HB.out.trans (hB2.mono (by simp)))
      have cp2 := (HB2.out.cell (p := ⟨p, 0, none⟩) HP.out).trans HCP.out
      have hb3 := (Below.refl _ w2).alloc (Nat.le_refl _) (.cells #[] 2)
      have HLI : Hid ((w2.alloc (.cells #[] 2)).ownsRow w2.heap.size 2 1 (.slice (some ⟨w2.heap.size, 0, none⟩) 0 0) 0 []) := Lib.hid (World.ownsRow_lit (base := w2.heap.size) (e := 2) (size := 1) w2 #[] 0 (Nat.le_refl _) (by decide) rfl)
      have HCS : Hid (CvSt w2.heap.size p L (some ⟨ga, 0, none⟩) c gs (w2.alloc (.cells #[] 2))) := Lib.hid
        ⟨⟨lt_of_cell cp2, (hb3.cell (p := ⟨p, 0, none⟩) (lt_of_cell cp2)).trans cp2⟩, .inr ⟨ga, rfl, Nat.lt_of_lt_of_le HGA.out.1 HB2.out.size, fun k u hu => (hb3.cell (p := ⟨ga, k, none⟩) (Nat.lt_of_lt_of_le HGA.out.1 HB2.out.size)).trans ((HB2.out.cell (p := ⟨ga, k, none⟩) HGA.out.1).trans (HGA.out.2 k u hu))⟩, hL, fun k hk => by
          rw [hb3.cell (p := ⟨L, k, none⟩) hL, hx.cellAt k (by omega)]; exact iv_at (by rw [lens_len]; exact hk)⟩
      have hs2 : w.heap.size < w2.heap.size := HR2.out.lt
      have HB3 := Lib.hid (HB2.out.trans (hb3.mono HB2.out.size))
      have HR3 := Lib.hid (HR2.out.kept hb3)
      have hs3 : w2.heap.size ≤ (w2.alloc (.cells #[] 2)).heap.size := hb3.size
      have HCV2 := Lib.hid (HCV.out _ L cx _ HCS.out HLI.out hs3)
      clear hB2 hx hL hb3
      go_wp2_with fail
      refine HCV2.out.mono ?_
      rintro e w4 ⟨y, rfl, hy, hB4⟩
      have HR4 : Hid (Var w4 w.heap.size (.slice none 0 0) 31) := Lib.hid ((hB4.block w.heap.size hs2).trans HR3.out)
      have HB4 := Lib.hid (HB3.out.trans (hB4.mono (Nat.le_of_lt hs2)))
      obtain ⟨Ay, cy, rfl⟩ := own_slice hy
      obtain ⟨Y, rfl, hYl, hY⟩ := own_addr hy (by omega)
      have HY4 := Lib.hid hy
      have hs4 : w.heap.size < w4.heap.size := HR4.out.lt
      clear hy hYl hB4
      go_wp2_with fail
      refine (own_any p gs _ (by omega) (HGW.out.kept HB4.out)).mono ?_
      rintro e w5 ⟨y5, rfl, ho5, hB5⟩
      obtain ⟨A5, c5, rfl⟩ := own_slice ho5
      have hb6 := (Below.refl _ w5).alloc (Nat.le_refl _) (.cells #[.slice A5 gs.length c5] 31)
      have hs5 : w.heap.size < w5.heap.size := Nat.lt_of_lt_of_le hs4 hB5.size
      have HY6 := Lib.hid (own_below (own_below HY4.out hB5 (Nat.le_refl _)) hb6 (Nat.le_refl _))
      have HST : Hid (CutRel gs cov w w5.heap.size w2.heap.size (.slice (some ⟨Y, 0, none⟩) M cy) M (.int .i64 (cov.getD 0 0)) (.int .i64 1) (w5.alloc (.cells #[.slice A5 gs.length c5] 31))) := Lib.hid
        ⟨0, .slice A5 gs.length c5, by omega, rfl, rfl, by
          rw [show chK gs.length cov 0 = [] from rfl, List.append_nil]
          exact ⟨own_lower (own_below ho5 hb6 (Nat.le_refl _)) (by omega), Var.new _ _ _, (HR4.out.kept hB5).kept hb6, (HB4.out.trans (hB5.mono HB4.out.size)).trans (hb6.mono (Nat.le_of_lt hs5)), by simp; omega⟩, HY6.out⟩
      have y6 : (w5.alloc (.cells #[.slice A5 gs.length c5] 31)).cell? ⟨Y, 0, none⟩ = some (.int .i64 (cov.getD 0 0)) := by rw [HY6.out.cellAt 0 (by omega)]; exact iv_at (by have := HM.out; omega)
      clear hB5 ho5 hb6
      go_wp2_with fail
      obtain ⟨V, hV⟩ : ∃ V, V = w5.heap.size := ⟨_, rfl⟩
      rw [← hV] at HST ⊢
      have hVw : w.heap.size < V := by omega
      generalize w5.alloc (.cells #[.slice A5 gs.length c5] 31) = w6 at *
      clear hV hs5 y6
      go_loopw [11, 12] (fun pv at_ wr => CutRel gs cov w V w2.heap.size (.slice (some ⟨Y, 0, none⟩) M cy) M pv at_ wr) (fun _ at_ _ => M - (intOf at_).toNat)
      case atStart => exact HST.out
      case round =>
        obtain ⟨t, yv, ht, rfl, rfl, hps, hyc⟩ := hrel
        obtain ⟨wu, rfl⟩ : ∃ wu : World, wu = wr := ⟨_, rfl⟩
        obtain ⟨NT, hNT⟩ : ∃ NT, NT = (gs ++ chK gs.length cov t).length := ⟨_, rfl⟩
        have hNT2 : NT = gs.length + t := by rw [hNT, List.length_append, chK_len]
        obtain ⟨PV, hPV⟩ : ∃ PV, PV = (if t = 0 then cov.getD 0 0 else ((gs.length + t : Nat) : Int) - 1) := ⟨_, rfl⟩
        rw [← hPV]
        by_cases hlt : t + 1 < M
        · obtain ⟨z, hz⟩ : ∃ z, z = cov.getD (t + 1) 0 := ⟨_, rfl⟩
          obtain ⟨X, hX⟩ : ∃ X : Rl, X = ⟨⟨#[]⟩, PV, z⟩ := ⟨_, rfl⟩
          have HPX := Lib.hid (show chK gs.length cov (t + 1) = chK gs.length cov t ++ [X] from by rw [chK_succ, hX, hPV, hz])
          have HXC := Lib.hid (show rc X = [.string ⟨#[]⟩, .int .i64 PV, .int .i64 z] from by rw [hX]; rfl)
          have hnw := news3 wu.drew X 94
          rw [hX] at hnw
          have HNW := Lib.hid hnw
          have HP6 := Lib.hid (jst_kept hps (Below.refl _ wu).drew)
          have hO6 := HP6.out.1
          rw [← hNT] at hO6
          obtain ⟨A3, c3, rfl⟩ := own_slice hO6
          have HO6 := Lib.hid hO6
          have HA6 := Lib.hid (own_below hyc (Below.refl _ wu).drew (Nat.le_refl _))
          have HNT := Lib.hid hNT
          have HN2 := Lib.hid hNT2
          have v0 := hps.2.1.cell.1
          have z0 := HP6.out.2.1.cell.1
          have hbs : w.heap.size + 1 ≤ wu.heap.size := hps.2.2.2.2
          have t1 : wu.drew.cell? ⟨Y, t + 1, none⟩ = some (.int .i64 z) := by rw [HA6.out.cellAt (t + 1) (by omega), hz]; exact iv_at (by have := HM.out; omega)
          have za6 := fun o => (jst_kept HP6.out ((Below.refl _ _).alloc (Nat.le_refl _) o)).2.1.cell.1
          have za6d : ∀ o, (wu.alloc o).drew.cell? ⟨V, 0, none⟩ = some (.slice A3 NT c3) := fun o => za6 o
          have hbnd : NT ≤ 2400 := by omega
          have j0 : (0 : Int) ≤ (t : Int) + 1 := by omega
          have j1 : (t : Int) + 1 < (M : Int) := by omega
          have j2 : ((t : Int) + 1).toNat = t + 1 := by omega
          have hwN : IntKind.i64.wrap (NT : Int) = (NT : Int) := by rw [IntKind.wrap_i64]; omega
          have HZ := Lib.hid hPV
          clear hps hyc hX hnw hNT hO6 hPV hz hNT2
          go_wp2_with fail
          go_region_law ((first
            | (refine step_append_lies _ (by rfl) _ _ 29 (by rfl) (w.heap.size + 1) 94 i0 (.agg #[.string ⟨#[]⟩, .int .i64 0, .int .i64 0]) 3 32 Try.underlying29 hi hz0 hz1 hz2 (by rfl) (by decide) (.slice A3 NT c3) NT (rv (gs ++ chK gs.length cov t)) (by rfl) (World.ownsRow.alloc HO6.out _) ⟨wu.heap.size, 0, none⟩ 1 1 (rc X) (by rfl) (by rfl) (by rw [HXC.out]; exact HNW.out) (rc_cell _) (by decide) (by unfold maxLen; omega) (by omega) (by simp; omega) (wu.heap.size + 1) (by simp) ?_
               intro g8 c8 w8 hown' hgrow _ _
               obtain ⟨hk8, hp9⟩ := jst_grown (x := X) (show w.heap.size ≤ w.heap.size + 1 by omega) (show w.heap.size ≤ V by omega) (show w.heap.size ≠ V by omega) HP6.out (by rw [← HNT.out]; exact hown') hgrow
               obtain ⟨x8, y8⟩ := hk8.cell
               have HP9 := Lib.hid hp9
               have ha8 := own_other HA6.out HO6.out (by decide) hgrow
               have HA9 := Lib.hid (World.ownsRow.kept ha8 (only_setCell (World.grownBy.refl w8 (some V)) (p := ⟨V, 0, none⟩) (.inl rfl) (.slice (some ⟨g8, 0, none⟩) (NT + 1) c8)) (.inr (own_var_ne ha8 hk8 (by decide))))
               clear hown' hgrow hk8 hp9 ha8)))
          all_goals
            obtain ⟨x9, y9⟩ := HP9.out.2.1.cell
            have HST4 : Hid (CutRel gs cov w V w2.heap.size (.slice (some ⟨Y, 0, none⟩) M cy) M (.int .i64 (NT : Int)) (.int .i64 ((t : Int) + 1 + 1)) (w8.setCell ⟨V, 0, none⟩ (.slice (some ⟨g8, 0, none⟩) (NT + 1) c8))) := Lib.hid ⟨t + 1, .slice (some ⟨g8, 0, none⟩) (NT + 1) c8, by omega, by rw [if_neg (by omega), HN2.out]; congr 2; omega, by go_num, by rw [HPX.out, ← List.append_assoc]; exact HP9.out, HA9.out⟩
            go_wp2_with fail
            go_roundw
            case rel => first | exact HST4.out | ((repeat apply Exists.intro); exact ⟨HST4.out, rfl⟩)
            case measure => (first | (simp [intOf]; done) | (simp [intOf]; omega))
        · have htl : M - 1 = t := by omega
          have hO := hps.1
          rw [← hNT] at hO
          obtain ⟨A3, c3, rfl⟩ := own_slice hO
          have v0 := hps.2.1.cell.1
          obtain ⟨r0, r1⟩ := hps.2.2.1.cell
          have hB := hps.2.2.2.1
          have hnl : ¬ ((t : Int) + 1 < (M : Int)) := by omega
          have HFO : Hid (OwnsR wu w.heap.size (.slice A3 NT c3) (gs ++ chK gs.length cov (M - 1))) := Lib.hid (by
            unfold OwnsR
            rw [htl, ← hNT]
            exact own_lower hO (by omega))
          have HNE := Lib.hid (own_var_ne hO hps.2.2.1 (by decide))
          have HBB := Lib.hid hB
          clear hps hyc htl hNT hO hB hNT2
          go_wp2_with fail
          refine bodyPost_ret (v := .agg #[.slice A3 NT c3]) (by simp [results, Try.results61, go_sem, r0]) rfl ⟨_, rfl, ?_, HBB.out.setCell (by simp) _⟩
          exact World.ownsRow.kept HFO.out (only_setCell (World.grownBy.refl wu (some w.heap.size)) (p := ⟨w.heap.size, 0, none⟩) (.inl rfl) _) (.inr HNE.out)
end Go.Proofs.Ytnhobcfpipedmaa
namespace Go.Proofs.Ytnhobcfpipedmaa
open Go.RowKit
open Wd
set_option linter.unusedVariables false
namespace Wd
/-- the answer of PartGrammar -/
def gramPartGrammar (gs : List Rl) (i j : Int) : List Rl × Int :=
  if gOk gs = true then (if inPart i j (wordLen gs) = true then (limG (trimG (cutG gs i j)), limC (trimG (cutG gs i j))) else ([], 2)) else ([], 1)
theorem limG_le (gs : List Rl) : (limG gs).length ≤ gs.length := by
  unfold limG
  split
  · exact Nat.le_refl _
  · simp
theorem gramPartGrammar_len (gs : List Rl) (i j : Int) (hf : FewR gs) : (gramPartGrammar gs i j).1.length ≤ 1048576 := by
  unfold gramPartGrammar
  split
  · next hok =>
    split
    · have h1 := limG_le (trimG (cutG gs i j))
      have h2 := trimG_le (cutG gs i j)
      have h3 : (cutG gs i j).length ≤ 1300 := by
        rcases Nat.eq_zero_or_pos gs.length with h0 | h0
        · have : gs = [] := List.eq_nil_of_length_eq_zero h0
          subst this
          unfold cutG covA
          split
          · simp
          · simp [coverF, chK]
        · exact cut_len hok h0 i j
      simp only
      omega
    · simp
  · simp
theorem few_cut {gs : List Rl} (hok : gOk gs = true) (hg : 0 < gs.length) (i j : Int) : FewR (trimG (cutG gs i j)) := by
  have h1 := trim_sum (cut_fits hok hg i j)
  have h2 := trimG_le (cutG gs i j)
  have h3 := cut_len hok hg i j
  unfold FewR
  omega
theorem lim_nil : limG [] = [] ∧ limC [] = 0 := by
  unfold limG limC
  rw [gOk_nil]
  exact ⟨rfl, rfl⟩
theorem limV_shape (gs : List Rl) (A : Option Addr) (n c : Nat) : ∃ A' n' c', limV gs (.slice A n c) = .slice A' n' c' := by
  unfold limV
  split
  · exact ⟨_, _, _, rfl⟩
  · exact ⟨_, _, _, rfl⟩
end Wd
set_option maxRecDepth 100000 in
set_option maxHeartbeats 6400000 in
theorem implPartGrammar (v : Value) (gs : List Rl) (i j : Int) (w : World) (hf : FewR gs) (hrc : RulesC w v gs) (b1 : -9223372036854775808 ≤ i ∧ i ≤ 9223372036854775807) (b2 : -9223372036854775808 ≤ j ∧ j ≤ 9223372036854775807) :
    Calls Try.prog 20 #[.agg #[v], .int .i64 i, .int .i64 j] w fun e w' => ∃ y, e = .returned (.tuple #[.agg #[y], .int .i64 (gramPartGrammar gs i j).2]) ∧ OwnsR w' w.heap.size y (gramPartGrammar gs i j).1 ∧ Below w.heap.size w w' := by
  have hb : Below w.heap.size w ((w.alloc (.cells #[v] 31)).alloc (.cells #[.slice none 0 0] 31)) := ((Below.refl _ w).alloc (Nat.le_refl _) _).alloc (by simp) _
  have hv0 : Var ((w.alloc (.cells #[v] 31)).alloc (.cells #[.slice none 0 0] 31)) w.heap.size v 31 := (Var.new w v 31).kept ((Below.refl _ _).alloc (Nat.le_refl _) _)
  have hv : Var ((w.alloc (.cells #[v] 31)).alloc (.cells #[.slice none 0 0] 31)) (w.heap.size + 1) (.slice none 0 0) 31 := by
    have := Var.new (w.alloc (.cells #[v] 31)) (.slice none 0 0) 31
    rwa [show (w.alloc (.cells #[v] 31)).heap.size = w.heap.size + 1 from by simp] at this
  obtain ⟨hr, hcap⟩ := hrc
  have h1 := len.vlen_any v gs _ hf (hr.kept hb)
  unfold LensPost at h1
  have HR := Lib.hid hr
  obtain ⟨A, c, rfl, _⟩ := hr
  replace hcap := hcap _ _ _ rfl
  have HB := Lib.hid hb
  have HV := Lib.hid hv
  have HV0 := Lib.hid hv0
  have hn := hf.len
  unfold gramPartGrammar
  cases hok : gOk gs
  · rw [hok] at h1
    have H1 := Lib.hid h1
    rw [if_neg (by decide)]
    clear h1 hok hb hv hv0
    go_enter Try.func20, Try.ntmps20
    go_wp2_with fail
    refine H1.out.mono ?_
    rintro e w1 ⟨x, rfl, _, hB1⟩
    have HB1 := Lib.hid (HB.out.trans (hB1.mono (by simp; omega)))
    obtain ⟨vc, vf⟩ := (HV.out.kept hB1).cell
    clear hB1
    go_wp2_with fail
    refine bodyPost_ret (v := .tuple #[.agg #[.slice none 0 0], .int .i64 1]) (by simp [results, Try.results20, go_sem, vc]) rfl ⟨_, rfl, World.ownsRow_nil _ _ _ _, HB1.out.setCell (by simp) _⟩
  · rw [hok] at h1
    have H1 := Lib.hid h1
    rw [if_pos rfl]
    have HIP := Lib.hid (fun W => isPart_any i j (wordLen gs) W)
    have hwl := wordLen_bd' hok
    cases hp : inPart i j (wordLen gs)
    · rw [hp] at HIP
      rw [if_neg (by decide)]
      clear h1 hok hb hv hv0 hp
      go_enter Try.func20, Try.ntmps20
      go_wp2_with fail
      refine H1.out.mono ?_
      rintro e w1 ⟨x, rfl, ho, hB1⟩
      have HB1 := Lib.hid (HB.out.trans (hB1.mono (by simp; omega)))
      obtain ⟨vc, vf⟩ := (HV.out.kept hB1).cell
      have HO := Lib.hid (ho trivial)
      clear hB1 ho
      go_wp2_with fail
      refine (wordLength_any x gs _ w1 hn HO.out).mono ?_
      rintro e w2 ⟨rfl, rfl⟩
      go_wp2_with fail
      refine (HIP.out _).mono ?_
      rintro e w2 ⟨rfl, rfl⟩
      go_wp2_with fail
      refine bodyPost_ret (v := .tuple #[.agg #[.slice none 0 0], .int .i64 2]) (by simp [results, Try.results20, go_sem, vc]) rfl ⟨_, rfl, World.ownsRow_nil _ _ _ _, HB1.out.setCell (by simp) _⟩
    · rw [hp] at HIP
      rw [if_pos rfl]
      obtain ⟨p1, p2, p3⟩ := inPart_iff.1 hp
      by_cases hij : i = j
      · have he : cutG gs i j = [] := by unfold cutG; rw [if_pos hij]
        rw [he, trim_nil, lim_nil.1, lim_nil.2]
        have hij' : (i == j) = true := by rw [beq_iff_eq]; exact hij
        clear h1 hok hb hv hv0 hp he hij
        go_enter Try.func20, Try.ntmps20
        go_wp2_with fail
        refine H1.out.mono ?_
        rintro e w1 ⟨x, rfl, ho, hB1⟩
        have HB1 := Lib.hid (HB.out.trans (hB1.mono (by simp; omega)))
        obtain ⟨vc, vf⟩ := (HV.out.kept hB1).cell
        have HO := Lib.hid (ho trivial)
        clear hB1 ho
        go_wp2_with fail
        refine (wordLength_any x gs _ w1 hn HO.out).mono ?_
        rintro e w2 ⟨rfl, rfl⟩
        go_wp2_with fail
        refine (HIP.out _).mono ?_
        rintro e w2 ⟨rfl, rfl⟩
        go_wp2_with fail
        refine bodyPost_ret (v := .tuple #[.agg #[.slice none 0 0], .int .i64 0]) (by simp [results, Try.results20, go_sem, vc]) rfl ⟨_, rfl, World.ownsRow_nil _ _ _ _, HB1.out.setCell (by simp) _⟩
      · have hg0 : 0 < gs.length := by
          rcases Nat.eq_zero_or_pos gs.length with h | h
          · rw [wordLen_zero h] at p3; omega
          · exact h
        have hn400 := gOk_len hok
        have hij' : (i == j) = false := by rw [beq_eq_false_iff_ne]; exact hij
        have hfew := covA_few hok hg0 i j
        have hbd := cover_bd hok i j gs.length (gs.length - 1) 0 (by omega) (by omega)
        have hlt := covA_lt hok hg0 i j
        have HCO := Lib.hid (fun v lv L c W h1 h2 h3 h4 => coverOf_any v lv gs i j L c W hok hg0 h1 h2 h3 h4 hfew)
        have hfit := cut_fits hok hg0 i j
        have hfc := few_cut hok hg0 i j
        have hcl := cut_len hok hg0 i j
        have HT := Lib.hid (fun v W (h : Rules W v (cutG gs i j)) => trimmed_any v (cutG gs i j) W (by omega) hfit h)
        have HLM := Lib.hid (fun v W (h : Rules W v (trimG (cutG gs i j))) => limited_any v (trimG (cutG gs i j)) W hfc h)
        by_cases h1c : (covA gs i j).length = 1
        · have hce : cutG gs i j = gs.take (((covA gs i j).headD 0).toNat + 1) := by unfold cutG; rw [if_neg hij, if_pos h1c]
          rw [hce] at HT HLM ⊢
          obtain ⟨q, hq, hcq⟩ : ∃ q : Nat, q < gs.length ∧ covA gs i j = [(q : Int)] := by
            match hcv : covA gs i j, h1c with
            | [x], _ =>
              have := hlt x (by rw [hcv]; simp)
              exact ⟨x.toNat, by omega, by rw [show ((x.toNat : Nat) : Int) = x from by omega]⟩
          have hcov : coverF gs i j gs.length (gs.length - 1) 0 = [(q : Int)] := hcq
          rw [hcov] at HCO
          rw [hcq] at HT HLM ⊢
          rw [show (([(q : Int)] : List Int).headD 0).toNat = q from by simp] at HT HLM ⊢
          obtain ⟨ga, rfl⟩ := rules_addr HR.out hg0
          have HRT := Lib.hid (fun W (h : Rules W (.slice (some ⟨ga, 0, none⟩) gs.length c) gs) c' => rules_take h hq c')
          have t3 : (q : Int) + 1 ≤ (c : Int) := by omega
          have t4 : (0 : Int) ≤ (q : Int) + 1 := by omega
          have t5 : ((q : Int) + 1).toNat = q + 1 := by omega
          generalize trimG (gs.take (q + 1)) = ts at *
          clear h1 hok hb hv hv0 hp hij hfew hbd hlt hfit hfc hcl h1c hce hcq hcov
          go_enter Try.func20, Try.ntmps20
          go_wp2_with fail
          refine H1.out.mono ?_
          rintro e w1 ⟨x, rfl, ho, hB1⟩
          have HB1 := Lib.hid (HB.out.trans (hB1.mono (by simp; omega)))
          have HV1 := Lib.hid (HV.out.kept hB1)
          have HV01 := Lib.hid (HV0.out.kept hB1)
          have HO := Lib.hid (ho trivial)
          clear hB1 ho
          go_wp2_with fail
          refine (wordLength_any x gs _ w1 hn HO.out).mono ?_
          rintro e w2 ⟨rfl, rfl⟩
          go_wp2_with fail
          refine (HIP.out _).mono ?_
          rintro e w2 ⟨rfl, rfl⟩
          have ho1 := HO.out
          unfold OwnsI at ho1
          rw [lens_len] at ho1
          obtain ⟨Ax, cx, rfl⟩ := own_slice ho1
          obtain ⟨L, rfl, _, hL⟩ := own_addr ho1 hg0
          have HLC : Hid (∀ k, k < gs.length → w2.cell? ⟨L, k, none⟩ = some (.int .i64 ((lens gs).getD k 0))) := Lib.hid (fun k hk => by rw [ho1.cellAt k (by omega)]; exact iv_at (by rw [lens_len]; exact hk))
          have z0 := HV01.out.cell.1
          clear ho1
          go_wp2_with fail
          refine (HCO.out _ _ L cx _ (HR.out.kept HB1.out) rfl hL HLC.out).mono ?_
          rintro e w4 ⟨y, rfl, hy, hB4⟩
          have HB4 := Lib.hid (HB1.out.trans (hB4.mono HB1.out.size))
          have HV4 := Lib.hid (HV1.out.kept hB4)
          have z4 := (HV01.out.kept hB4).cell.1
          obtain ⟨Ay, cy, rfl⟩ := own_slice hy
          obtain ⟨Y, rfl, hYl, hY⟩ := own_addr hy (by simp)
          have HYN : Hid (Y ≠ w.heap.size + 1) := Lib.hid (by have := HV1.out.lt; omega)
          have y0 : w4.cell? ⟨Y, 0, none⟩ = some (.int .i64 (q : Int)) := by rw [hy.cellAt 0 (by simp)]; rfl
          have t1 : IntKind.i64.wrap ((q : Int) + 1) = (q : Int) + 1 := by rw [IntWalk.i64_in _ (by omega)]
          have HV04 := Lib.hid (HV01.out.kept hB4)
          have HT4 := Lib.hid (fun m => HT.out _ (w4.drewN m) (HRT.out _ ((HR.out.kept HB4.out).kept (below_drewN (Below.refl _ w4) m)) c))
          have HX4 := Lib.hid (fun W (h : Below w4.heap.size w4 W) => And.intro ((HV04.out.kept h).cell.1) ((h.cell (p := ⟨Y, 0, none⟩) (lt_of_cell y0)).trans y0))
          clear hB4 z0 hy hL hYl
          go_wp2_with fail
          go_region_held3 (fun w' => w'.cell? ⟨w.heap.size, 0, none⟩ = some (.slice (some ⟨ga, 0, none⟩) gs.length c) ∧ w'.cell? ⟨Y, 0, none⟩ = some (.int .i64 (q : Int))) (first | exact HS7.out _ | exact HS6.out | exact HS5.out | go_keep)
            (first
              | (go_at_call 69; refine (HT4.out _).mono ?_; rintro e w5 ⟨y5, rfl, ho5, hB5⟩; have HB5 := Lib.hid (below_undrew hB5); have HO5 := Lib.hid ho5; have HS5 := Lib.hid (HX4.out _ HB5.out); clear ho5 hB5)
              | (go_at_call 68; refine (HLM.out _ _ (Rules.of_own HO5.out)).mono ?_; rintro e w6 ⟨rfl, hB6⟩; have HB6 := Lib.hid hB6; have HS6 := Lib.hid (HX4.out _ (HB5.out.trans (HB6.out.mono HB5.out.size))); have HS7 := Lib.hid (fun u => And.intro ((cell_far0 (w := w6) (a := w.heap.size) (b := w.heap.size + 1) (i := 0) (j := 0) (by omega) u).trans HS6.out.1) ((cell_far0 (w := w6) (a := Y) (b := w.heap.size + 1) (i := 0) (j := 0) HYN.out u).trans HS6.out.2)); have HLO := Lib.hid (lim_own (own_below HO5.out hB6 (Nat.le_refl _))); obtain ⟨Al, cl, hl⟩ := own_slice HLO.out; rw [hl] at HLO ⊢; obtain ⟨x0, x1⟩ := ((HV4.out.kept HB5.out).kept HB6.out).cell; clear hB6 hl))
          have hs4 := HV4.out.lt
          have HNE : Hid ((Value.slice Al (limG ts).length cl).ownBlock ≠ some (w.heap.size + 1)) := Lib.hid (fun e => by have h7 := (HLO.out.lt _ e).1; have h8 : (w4.drewN 1).heap.size = w4.heap.size := rfl; omega)
          have HLO2 := Lib.hid (own_lower HLO.out (show w.heap.size ≤ w4.heap.size by omega))
          have HBE := Lib.hid (HB4.out.trans ((HB5.out.trans (HB6.out.mono HB5.out.size)).mono HB4.out.size))
          clear hs4
          go_wp2_with fail
          refine bodyPost_ret (v := .tuple #[.agg #[.slice Al (limG ts).length cl], .int .i64 (limC ts)]) (by simp [results, Try.results20, go_sem, x0]) rfl ⟨_, rfl, ?_, HBE.out.setCell (by simp) _⟩
          exact World.ownsRow.kept HLO2.out (only_setCell (World.grownBy.refl w6 (some (w.heap.size + 1))) (p := ⟨w.heap.size + 1, 0, none⟩) (.inl rfl) _) (.inr HNE.out)
        · have hce : cutG gs i j = gs ++ chK gs.length (covA gs i j) ((covA gs i j).length - 1) := by unfold cutG; rw [if_neg hij, if_neg h1c]
          rw [hce] at HT HLM ⊢
          have hcv : coverF gs i j gs.length (gs.length - 1) 0 = covA gs i j := rfl
          rw [hcv] at HCO hbd
          have hc2 : (covA gs i j).length ≤ 2000 := by omega
          generalize covA gs i j = cov at *
          obtain ⟨M, hM⟩ : ∃ M, M = cov.length := ⟨_, rfl⟩
          have h1d : ((M : Int) == 1) = false := by rw [beq_eq_false_iff_ne]; omega
          have HM := Lib.hid hM
          have HC2 := Lib.hid hc2
          have HHT := Lib.hid (fun v W (B : Nat) (h : W.ownsRow B 94 3 v (gs ++ chK gs.length cov (cov.length - 1)).length (rv (gs ++ chK gs.length cov (cov.length - 1)))) => HT.out v W (Rules.of_own h))
          clear h1 hok hb hv hv0 hp hij hfew hbd hlt hfit hfc hcl h1c hce hcv hM hc2 HT
          generalize trimG (gs ++ chK gs.length cov (cov.length - 1)) = ts at *
          go_enter Try.func20, Try.ntmps20
          go_wp2_with fail
          refine H1.out.mono ?_
          rintro e w1 ⟨x, rfl, ho, hB1⟩
          have HB1 := Lib.hid (HB.out.trans (hB1.mono (by simp; omega)))
          have HV1 := Lib.hid (HV.out.kept hB1)
          have HV01 := Lib.hid (HV0.out.kept hB1)
          have HO := Lib.hid (ho trivial)
          clear hB1 ho
          go_wp2_with fail
          refine (wordLength_any x gs _ w1 hn HO.out).mono ?_
          rintro e w2 ⟨rfl, rfl⟩
          go_wp2_with fail
          refine (HIP.out _).mono ?_
          rintro e w2 ⟨rfl, rfl⟩
          have ho1 := HO.out
          unfold OwnsI at ho1
          rw [lens_len] at ho1
          obtain ⟨Ax, cx, rfl⟩ := own_slice ho1
          obtain ⟨L, rfl, _, hL⟩ := own_addr ho1 hg0
          have HLC : Hid (∀ k, k < gs.length → w2.cell? ⟨L, k, none⟩ = some (.int .i64 ((lens gs).getD k 0))) := Lib.hid (fun k hk => by rw [ho1.cellAt k (by omega)]; exact iv_at (by rw [lens_len]; exact hk))
          have z0 := HV01.out.cell.1
          have hs2 : w.heap.size + 1 < w2.heap.size := HV1.out.lt
          clear ho1
          go_wp2_with fail
          refine (HCO.out _ _ L cx _ (HR.out.kept HB1.out) rfl hL HLC.out).mono ?_
          rintro e w4 ⟨y, rfl, hy, hB4⟩
          have HB4 := Lib.hid (HB1.out.trans (hB4.mono HB1.out.size))
          have HV4 := Lib.hid (HV1.out.kept hB4)
          have z4 := (HV01.out.kept hB4).cell.1
          unfold OwnsI at hy
          rw [← HM.out] at hy
          obtain ⟨Ay, cy, rfl⟩ := own_slice hy
          have HY := Lib.hid hy
          have hs4 : w2.heap.size ≤ w4.heap.size := hB4.size
          clear hB4 z0 hy hL
          go_wp2_with fail
          refine (clone_any _ gs _ hn (HR.out.kept HB4.out)).mono ?_
          rintro e w5 ⟨y5, rfl, ho5, hB5⟩
          obtain ⟨A5, c5, rfl⟩ := own_slice ho5
          have HY5 := Lib.hid (own_below HY.out hB5 (Nat.le_refl _))
          have HO5 := Lib.hid (own_lower ho5 hs4)
          have HV5 := Lib.hid (HV4.out.kept hB5)
          have hs5 : w2.heap.size ≤ w5.heap.size := Nat.le_trans hs4 hB5.size
          have HB5 := Lib.hid (HB4.out.trans (hB5.mono HB4.out.size))
          clear hB5 ho5
          go_wp2_with fail
          have hCH := chainedG_any A5 Ay c5 cy w2.heap.size cov gs w5 HC2.out hn400 hs5 HO5.out (by rw [← HM.out]; exact HY5.out)
          rw [← HM.out] at hCH
          have HCH := Lib.hid hCH
          clear hCH
          refine HCH.out.mono ?_
          rintro e w6 ⟨y6, rfl, ho6, hB6⟩
          have HO6 := Lib.hid ho6
          have HV6 : Hid (Var w6 (w.heap.size + 1) (.slice none 0 0) 31) := Lib.hid ((hB6.block (w.heap.size + 1) hs2).trans HV5.out)
          have HB6 := Lib.hid (HB5.out.trans (hB6.mono (by omega)))
          have hs6 : w2.heap.size ≤ w6.heap.size := Nat.le_trans hs5 hB6.size
          clear hB6 ho6
          go_wp2_with fail
          refine (HHT.out _ _ _ (by rw [← HM.out]; exact HO6.out)).mono ?_
          rintro e w7 ⟨y7, rfl, ho7, hB7⟩
          have HO7 := Lib.hid ho7
          have HV7 := Lib.hid (HV6.out.kept hB7)
          have HB7 := Lib.hid (HB6.out.trans (hB7.mono HB6.out.size))
          clear hB7 ho7
          go_wp2_with fail
          refine (HLM.out _ _ (Rules.of_own HO7.out)).mono ?_
          rintro e w8 ⟨rfl, hB8⟩
          have HLO := Lib.hid (lim_own (own_below HO7.out hB8 (Nat.le_refl _)))
          obtain ⟨Al, cl, hl⟩ := own_slice HLO.out
          rw [hl] at HLO ⊢
          obtain ⟨x0, x1⟩ := (HV7.out.kept hB8).cell
          have HB8 := Lib.hid (HB7.out.trans (hB8.mono HB7.out.size))
          have HNE : Hid ((Value.slice Al (limG ts).length cl).ownBlock ≠ some (w.heap.size + 1)) := Lib.hid (fun e => by have h7 := (HLO.out.lt _ e).1; omega)
          have HLO2 := Lib.hid (own_lower HLO.out (show w.heap.size ≤ w6.heap.size by omega))
          clear hB8 hl
          go_wp2_with fail
          refine bodyPost_ret (v := .tuple #[.agg #[.slice Al (limG ts).length cl], .int .i64 (limC ts)]) (by simp [results, Try.results20, go_sem, x0]) rfl ⟨_, rfl, ?_, HB8.out.setCell (by simp) _⟩
          exact World.ownsRow.kept HLO2.out (only_setCell (World.grownBy.refl w8 (some (w.heap.size + 1))) (p := ⟨w.heap.size + 1, 0, none⟩) (.inl rfl) _) (.inr HNE.out)
end Go.Proofs.Ytnhobcfpipedmaa
namespace Go.Proofs.Ytnhobcfpipedmaa
open Go.RowKit
open Wd
set_option linter.unusedVariables false
set_option maxRecDepth 100000 in
set_option maxHeartbeats 6400000 in
theorem specPartGrammar (v : Value) (gs : List Rl) (i j : Int) (w : World) (hf : FewR gs) (hrc : RulesC w v gs) (b1 : -9223372036854775808 ≤ i ∧ i ≤ 9223372036854775807) (b2 : -9223372036854775808 ≤ j ∧ j ≤ 9223372036854775807) :
    Calls Try.prog 19 #[.agg #[v], .int .i64 i, .int .i64 j] w fun e w' => ∃ y, e = .returned (.tuple #[.agg #[y], .int .i64 (gramPartGrammar gs i j).2]) ∧ OwnsR w' w.heap.size y (gramPartGrammar gs i j).1 ∧ Below w.heap.size w w' := by
  have hb : Below w.heap.size w ((w.alloc (.cells #[v] 31)).alloc (.cells #[.slice none 0 0] 31)) := ((Below.refl _ w).alloc (Nat.le_refl _) _).alloc (by simp) _
  have hv0 : Var ((w.alloc (.cells #[v] 31)).alloc (.cells #[.slice none 0 0] 31)) w.heap.size v 31 := (Var.new w v 31).kept ((Below.refl _ _).alloc (Nat.le_refl _) _)
  have hv : Var ((w.alloc (.cells #[v] 31)).alloc (.cells #[.slice none 0 0] 31)) (w.heap.size + 1) (.slice none 0 0) 31 := by
    have := Var.new (w.alloc (.cells #[v] 31)) (.slice none 0 0) 31
    rwa [show (w.alloc (.cells #[v] 31)).heap.size = w.heap.size + 1 from by simp] at this
  have hg : GP ((w.alloc (.cells #[v] 31)).alloc (.cells #[.slice none 0 0] 31)) w.heap.size gs := ⟨v, hv0.cell.1, hrc.1.kept hb⟩
  have HPT := Lib.hid (l02Part_any w.heap.size gs i j _ hf hg)
  have HRC := Lib.hid (hrc.kept hb)
  have HB := Lib.hid hb
  have HV := Lib.hid hv
  have HV0 := Lib.hid hv0
  have hn := hf.len
  have HCUT := Lib.hid (fun W (h1 : W.cell? ⟨w.heap.size, 0, none⟩ = some v) (h2 : RulesC W v gs) h3 h4 => l02Cut_any w.heap.size v gs i j W hf h1 h2 h3 h4 b1 b2)
  obtain ⟨A, c, rfl, _⟩ := hrc.1
  have hpp : inPartS i j (wordLen gs) = inPart i j (wordLen gs) := rfl
  unfold gramPartGrammar
  unfold partC at HPT
  rw [hpp] at HPT
  cases hok : gOk gs
  · rw [hok, if_neg (by decide)] at HPT
    rw [if_neg (by decide)]
    clear hb hv hv0 hg hrc hok
    go_enter Try.func19, Try.ntmps19
    go_wp2_with fail
    refine HPT.out.mono ?_
    rintro e w1 ⟨rfl, hB1⟩
    have HB1 := Lib.hid (HB.out.trans (hB1.mono (by simp; omega)))
    obtain ⟨vc, vf⟩ := (HV.out.kept hB1).cell
    clear hB1
    go_wp2_with fail
    refine bodyPost_ret (v := .tuple #[.agg #[.slice none 0 0], .int .i64 1]) (by simp [results, Try.results19, go_sem, vc]) rfl ⟨_, rfl, World.ownsRow_nil _ _ _ _, HB1.out.setCell (by simp) _⟩
  · rw [hok, if_pos rfl] at HPT
    rw [if_pos rfl]
    cases hp : inPart i j (wordLen gs)
    · rw [hp, if_neg (by decide)] at HPT
      rw [if_neg (by decide)]
      clear hb hv hv0 hg hrc hok hp
      go_enter Try.func19, Try.ntmps19
      go_wp2_with fail
      refine HPT.out.mono ?_
      rintro e w1 ⟨rfl, hB1⟩
      have HB1 := Lib.hid (HB.out.trans (hB1.mono (by simp; omega)))
      obtain ⟨vc, vf⟩ := (HV.out.kept hB1).cell
      clear hB1
      go_wp2_with fail
      refine bodyPost_ret (v := .tuple #[.agg #[.slice none 0 0], .int .i64 2]) (by simp [results, Try.results19, go_sem, vc]) rfl ⟨_, rfl, World.ownsRow_nil _ _ _ _, HB1.out.setCell (by simp) _⟩
    · rw [hp, if_pos rfl] at HPT
      rw [if_pos rfl]
      have HKEY : Hid (fits (cutG gs i j) = true ∧ FewR (trimG (cutG gs i j)) ∧ (cutG gs i j).length ≤ 1300) := Lib.hid (by
        rcases Nat.eq_zero_or_pos gs.length with h0 | h0
        · have h3 := (inPart_iff.1 hp)
          rw [wordLen_zero h0] at h3
          have : cutG gs i j = [] := by unfold cutG; rw [if_pos (by omega)]
          rw [this]
          exact ⟨fits_nil, by rw [trim_nil]; unfold FewR sumL; simp, by simp⟩
        · exact ⟨cut_fits hok h0 i j, few_cut hok h0 i j, cut_len hok h0 i j⟩)
      have HC2 := Lib.hid (fun W h1 h2 => HCUT.out W h1 h2 hok hp)
      clear hb hv hv0 hg hrc hok hp HCUT
      generalize cutG gs i j = cs at *
      obtain ⟨ts, hts⟩ : ∃ ts, ts = trimG cs := ⟨_, rfl⟩
      have HTR := Lib.hid (fun p W (h : GP W p cs) => l02Trim_any p cs W (by have := HKEY.out.2.2; omega) HKEY.out.1 h)
      have HFT := Lib.hid HKEY.out.2.1
      rw [← hts] at HTR HFT ⊢
      clear hts
      go_enter Try.func19, Try.ntmps19
      go_wp2_with fail
      refine HPT.out.mono ?_
      rintro e w1 ⟨rfl, hB1⟩
      have HRC1 := Lib.hid (HRC.out.kept hB1)
      have HV1 := Lib.hid (HV.out.kept hB1)
      have HV01 := Lib.hid (HV0.out.kept hB1)
      have HB1 := Lib.hid (HB.out.trans (hB1.mono (by simp; omega)))
      have hs1 : w.heap.size + 1 < w1.heap.size := HV1.out.lt
      clear hB1
      go_wp2_with fail
      refine (HC2.out _ HV01.out.cell.1 HRC1.out).mono ?_
      rintro e w2 ⟨y2, rfl, ho2, hB2⟩
      obtain ⟨A2, c2, rfl⟩ := own_slice ho2
      have hs2 : w.heap.size + 1 < w2.heap.size := Nat.lt_of_lt_of_le hs1 hB2.size
      have HV2 := Lib.hid (HV1.out.kept hB2)
      have HB2 := Lib.hid (HB1.out.trans (hB2.mono HB1.out.size))
      have HG3 := Lib.hid (rules_gpT (Rules.of_own ho2) 31)
      have hb3 := (Below.refl _ w2).alloc (Nat.le_refl _) (.cells #[.slice A2 cs.length c2] 31)
      have HV3 := Lib.hid (HV2.out.kept hb3)
      have HB3 := Lib.hid (HB2.out.trans (hb3.mono HB2.out.size))
      have HT3 := Lib.hid (HTR.out _ _ HG3.out)
      clear hB2 ho2 hb3
      go_wp2_with fail
      refine HT3.out.mono ?_
      rintro e w4 ⟨y4, rfl, ho4, hB4⟩
      have HO4 := Lib.hid ho4
      have HV4 := Lib.hid (HV3.out.kept hB4)
      have HB4 := Lib.hid (HB3.out.trans (hB4.mono HB3.out.size))
      clear hB4 ho4
      go_wp2_with fail
      refine (told_any _ ts _ HFT.out (Rules.of_own HO4.out)).mono ?_
      rintro e w5 ⟨rfl, hB5⟩
      have HLO := Lib.hid (lim_own (own_below HO4.out hB5 (Nat.le_refl _)))
      obtain ⟨Al, cl, hl⟩ := own_slice HLO.out
      rw [hl] at HLO ⊢
      obtain ⟨x0, x1⟩ := (HV4.out.kept hB5).cell
      have HB5 := Lib.hid (HB4.out.trans (hB5.mono HB4.out.size))
      have HNE : Hid ((Value.slice Al (limG ts).length cl).ownBlock ≠ some (w.heap.size + 1)) := Lib.hid (fun e => by have h7 := (HLO.out.lt _ e).1; simp at h7; omega)
      have HLO2 := Lib.hid (own_lower HLO.out (show w.heap.size ≤ _ by simp; omega))
      clear hB5 hl
      go_wp2_with fail
      refine bodyPost_ret (v := .tuple #[.agg #[.slice Al (limG ts).length cl], .int .i64 (limC ts)]) (by simp [results, Try.results19, go_sem, x0]) rfl ⟨_, rfl, ?_, HB5.out.setCell (by simp) _⟩
      exact World.ownsRow.kept HLO2.out (only_setCell (World.grownBy.refl w5 (some (w.heap.size + 1))) (p := ⟨w.heap.size + 1, 0, none⟩) (.inl rfl) _) (.inr HNE.out)
end Go.Proofs.Ytnhobcfpipedmaa
