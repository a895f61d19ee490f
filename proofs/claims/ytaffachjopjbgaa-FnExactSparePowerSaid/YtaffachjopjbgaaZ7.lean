/-
  Contracts and numbers of the functions that the laws of this place call, one text behind the other. No condition beyond those that each theorem names.
-/
import Derived.Test.YtaffachjopjbgaaZ1
import Derived.Test.YtaffachjopjbgaaZ2
import Derived.Test.YtaffachjopjbgaaZ4
import Derived.Test.YtaffachjopjbgaaZ5
import Derived.Test.YtaffachjopjbgaaZ6
import Derived.Deep.RegionHeld3
namespace Go.Proofs.Ytaffachjopjbgaa
open Go.RowKit
open Wd
set_option linter.unusedVariables false
theorem vis_or {nx : List (List Int)} {st : Int} {gs : List Rl} (wa wb : Int → Bool) (hd : ∀ p, ¬ (wa p = true ∧ wb p = true)) (h : nx.all (rowOk st) = true) (hl : (nx.length : Int) = st) (h1 : 1 ≤ st) (h24 : st ≤ 24) (hfit : fits gs = true) : ∀ m k s, k < m → k < gs.length → s < 24 →
    at2 (visK (fun p => wa p || wb p) nx gs gs.length) k s = at2 (visK wa nx gs gs.length) k s + at2 (visK wb nx gs gs.length) k s
  | 0, k, s, hm, _, _ => by omega
  | m + 1, k, s, hm, hk, hs => by
    rcases rule_cases hfit hk with hz | ⟨hz, a, b, ha, hb, hak, hbk⟩
    · rw [vis_letter _ nx hk hz hs, vis_letter _ nx hk hz hs, vis_letter _ nx hk hz hs]
      have := hd (at2 (mapsK nx gs gs.length) k s)
      cases e1 : wa (at2 (mapsK nx gs gs.length) k s) <;> cases e2 : wb (at2 (mapsK nx gs gs.length) k s) <;> simp_all
    · have hmb := map_lt h hl h1 h24 hfit (show a < gs.length by omega) hs
      rw [vis_pair _ nx hk hz ha hb hak hbk hs, vis_pair _ nx hk hz ha hb hak hbk hs, vis_pair _ nx hk hz ha hb hak hbk hs, vis_or wa wb hd h hl h1 h24 hfit m a s (by omega) (by omega) hs, vis_or wa wb hd h hl h1 h24 hfit m b _ (by omega) (by omega) hmb]
      omega
theorem vis_none {nx : List (List Int)} {st : Int} {gs : List Rl} (h : nx.all (rowOk st) = true) (hl : (nx.length : Int) = st) (h1 : 1 ≤ st) (h24 : st ≤ 24) (hfit : fits gs = true) : ∀ m k s, k < m → k < gs.length → s < 24 →
    at2 (visK (fun _ => false) nx gs gs.length) k s = 0
  | 0, k, s, hm, _, _ => by omega
  | m + 1, k, s, hm, hk, hs => by
    rcases rule_cases hfit hk with hz | ⟨hz, a, b, ha, hb, hak, hbk⟩
    · rw [vis_letter _ nx hk hz hs]
      simp
    · have hmb := map_lt h hl h1 h24 hfit (show a < gs.length by omega) hs
      rw [vis_pair _ nx hk hz ha hb hak hbk hs, vis_none h hl h1 h24 hfit m a s (by omega) (by omega) hs, vis_none h hl h1 h24 hfit m b _ (by omega) (by omega) hmb]
      omega
namespace Wd
/-- what the first final states add up to -/
def caS (x : Au) (gs : List Rl) (i : Nat) : Int := allV (visK (fun p => hasN (x.fin.take i) p) x.nx gs gs.length) gs x.go + (if hasN (x.fin.take i) x.go = true then 1 else 0)
def caA (x : Au) (gs : List Rl) : Int × Int := if aOk x = true ∧ gOk gs = true then (allV (visK (fun p => hasN x.fin p) x.nx gs gs.length) gs x.go + (if hasN x.fin x.go = true then 1 else 0), 0) else (0, 1)
end Wd
theorem caS_zero {x : Au} {gs : List Rl} (ha : aOk x = true) (hok : gOk gs = true) : caS x gs 0 = 0 := by
  obtain ⟨⟨h1, h24⟩, hrow, hlen⟩ := aOk_parts ha
  have hgo : 0 ≤ x.go ∧ x.go < x.st := by
    unfold aOk at ha
    simp only [Bool.and_eq_true, decide_eq_true_iff] at ha
    have := ha.1.1.2
    omega
  unfold caS
  rw [List.take_zero]
  have e : (fun p => hasN [] p) = (fun _ => false) := by funext p; simp [hasN]
  rw [e, if_neg (by simp [hasN])]
  unfold allV
  split
  · rfl
  · rw [vis_none hrow hlen h1 h24 (gOk_iff.1 hok).2.1 gs.length _ _ (by omega) (by omega) (by omega)]
    rfl
theorem rises_new {lo hi : Int} {l : List Int} (h : risesL lo hi l = true) {i : Nat} (hi' : i < l.length) : hasN (l.take i) l[i] = false := by
  unfold risesL at h
  rw [decide_eq_true_iff] at h
  have mono : ∀ d a, a + d + 1 < l.length → l.getD a 0 < l.getD (a + d + 1) 0 := by
    intro d
    induction d with
    | zero =>
      intro a ha
      have := (h (a + 1) (by omega)).2 (by omega)
      simpa using this
    | succ d ih =>
      intro a ha
      have h1 := ih a (by omega)
      have h2 := (h (a + (d + 1) + 1) (by omega)).2 (by omega)
      have e : a + (d + 1) + 1 - 1 = a + d + 1 := by omega
      rw [e] at h2
      omega
  refine hasN_no (fun j hj e => ?_)
  have hji : j < i := by rw [List.length_take] at hj; omega
  have h2 := mono (i - j - 1) j (by omega)
  have e2 : j + (i - j - 1) + 1 = i := by omega
  rw [e2] at h2
  rw [List.getElem_take] at e
  rw [List.getD_eq_getElem?_getD, List.getD_eq_getElem?_getD, List.getElem?_eq_getElem hi', List.getElem?_eq_getElem (by omega), Option.getD_some, Option.getD_some] at h2
  omega
theorem hasN_snoc (l : List Int) (x p : Int) : hasN (l ++ [x]) p = (hasN l p || decide (p = x)) := by
  unfold hasN
  rw [Bool.eq_iff_iff]
  simp
theorem caS_next {x : Au} {gs : List Rl} (ha : aOk x = true) (hok : gOk gs = true) {i : Nat} (hi : i < x.fin.length) :
    caS x gs (i + 1) = caS x gs i + allV (visK (fun p => decide (p = x.fin[i])) x.nx gs gs.length) gs x.go + (if x.fin[i] = x.go then 1 else 0) := by
  obtain ⟨⟨h1, h24⟩, hrow, hlen⟩ := aOk_parts ha
  have hr : risesL 0 (x.st - 1) x.fin = true := by
    unfold aOk at ha
    simp only [Bool.and_eq_true] at ha
    exact ha.1.2
  have hgo : 0 ≤ x.go ∧ x.go < x.st := by
    unfold aOk at ha
    simp only [Bool.and_eq_true, decide_eq_true_iff] at ha
    have := ha.1.1.2
    omega
  have hnew := rises_new hr hi
  unfold caS
  rw [List.take_succ_eq_append_getElem hi]
  have e : (fun p => hasN (x.fin.take i ++ [x.fin[i]]) p) = (fun p => hasN (x.fin.take i) p || decide (p = x.fin[i])) := by funext p; exact hasN_snoc _ _ _
  rw [e, hasN_snoc]
  have hd : ∀ p, ¬ (hasN (x.fin.take i) p = true ∧ decide (p = x.fin[i]) = true) := by
    rintro p ⟨e1, e2⟩
    rw [decide_eq_true_iff] at e2
    rw [e2, hnew] at e1
    cases e1
  have hall : allV (visK (fun p => hasN (x.fin.take i) p || decide (p = x.fin[i])) x.nx gs gs.length) gs x.go = allV (visK (fun p => hasN (x.fin.take i) p) x.nx gs gs.length) gs x.go + allV (visK (fun p => decide (p = x.fin[i])) x.nx gs gs.length) gs x.go := by
    unfold allV
    split
    · rfl
    · exact vis_or (fun p => hasN (x.fin.take i) p) (fun p => decide (p = x.fin[i])) hd hrow hlen h1 h24 (gOk_iff.1 hok).2.1 gs.length _ _ (by omega) (by omega) (by omega)
  rw [hall]
  have hd2 := hd x.go
  cases e1 : hasN (x.fin.take i) x.go
  · simp only [Bool.false_or, decide_eq_true_eq, Bool.false_eq_true, if_false]
    split <;> split <;> omega
  · have e2 : ¬ x.go = x.fin[i] := fun e => hd2 ⟨e1, by simp [e]⟩
    simp only [Bool.true_or, if_true]
    split <;> omega
theorem caS_all {x : Au} {gs : List Rl} : caS x gs x.fin.length = allV (visK (fun p => hasN x.fin p) x.nx gs gs.length) gs x.go + (if hasN x.fin x.go = true then 1 else 0) := by
  unfold caS
  rw [List.take_length]
theorem all_bd {nx : List (List Int)} {st : Int} {gs : List Rl} (wa : Int → Bool) (h : nx.all (rowOk st) = true) (hl : (nx.length : Int) = st) (h1 : 1 ≤ st) (h24 : st ≤ 24) (hok : gOk gs = true) {s : Int} (hs : 0 ≤ s ∧ s < 24) :
    0 ≤ allV (visK wa nx gs gs.length) gs s ∧ allV (visK wa nx gs gs.length) gs s ≤ 1000000000000000 := by
  unfold allV
  split
  · omega
  · have hfit := (gOk_iff.1 hok).2.1
    have h2 := vis_fir wa h hl h1 h24 hfit gs.length (gs.length - 1) s.toNat (by omega) (by omega) (by omega)
    have h3 := (fnd_bd wa h hl h1 h24 hfit gs.length (gs.length - 1) s.toNat 0 (by omega) (by omega) (by omega)).1
    have h4 := small_at (gOk_iff.1 hok).2.2 (gs.length - 1) (by omega)
    omega
end Go.Proofs.Ytaffachjopjbgaa
namespace Go.Proofs.Ytaffachjopjbgaa
open Go.RowKit
open Wd
set_option linter.unusedVariables false
def zeroS : Value := .agg #[.slice none 0 0, .slice none 0 0, .slice none 0 0, .int .i64 0, .slice none 0 0]
theorem zeroS_is (w : World) (nx : List (List Int)) : IsS w 0 zeroS (.slice none 0 0) [] nx [] 0 :=
  ⟨_, _, _, rfl, World.ownsRow_nil _ _ _ _, ⟨none, 0, rfl, .inl rfl⟩, ⟨none, 0, rfl, .inl rfl⟩⟩
theorem IsMs.apart {w : World} {lo R : Nat} {v : Value} {ms : List (List Int)} (h : IsMs w lo v ms) {c0 c1 c2 c3 c4 : Value} {t : TypeId} (hR : B5 w R c0 c1 c2 c3 c4 t) {w' : World} (hg : w.grownBy w' (some R)) : IsMs w' lo v ms := by
  obtain ⟨A, c, hv, h | ⟨g, hA, hgb, hc⟩⟩ := h
  · exact ⟨A, c, hv, .inl h⟩
  · cases ms with
    | nil => exact ⟨A, c, hv, .inl rfl⟩
    | cons m ms =>
      have hne : g ≠ R := by
        intro e
        subst e
        have h1 := hc 0 23 (by simp) (by omega)
        unfold B5 at hR
        simp [World.cell?, hR] at h1
      refine ⟨A, c, hv, .inr ⟨g, hA, ⟨hgb.1, Nat.lt_of_lt_of_le hgb.2 hg.size⟩, fun j i hj hi => ?_⟩⟩
      exact (World.cell?_of_block (a := ⟨g, j * 24 + i, none⟩) (hg.block g hgb.2 (fun e => by injection e with e; exact hne e))).trans (hc j i hj hi)
theorem own_b5_ne {w : World} {B e s n X : Nat} {v : Value} {xs : List Value} {c0 c1 c2 c3 c4 : Value} {t : TypeId} (h : w.ownsRow B e s v n xs) (hx : B5 w X c0 c1 c2 c3 c4 t) (hne : e ≠ t) : v.ownBlock = none ∨ v.ownBlock ≠ some X := by
  rcases h.2 with ⟨rfl, _⟩ | ⟨g, cap, cur, rfl, _, hg, _⟩
  · exact .inl rfl
  · refine .inr fun e => ?_
    have : g = X := by simpa [Value.ownBlock] using e
    subst this
    unfold B5 at hx
    rw [hx] at hg
    injection hg with h1
    injection h1 with _ h2
    exact hne h2.symm
theorem IsS.apart {w : World} {lo R : Nat} {sv gv : Value} {gs : List Rl} {nx vs : List (List Int)} {go : Int} (h : IsS w lo sv gv gs nx vs go) {c0 c1 c2 c3 c4 : Value} (hR : B5 w R c0 c1 c2 c3 c4 116) {w' : World} (hg : w.grownBy w' (some R)) : IsS w' lo sv gv gs nx vs go := by
  obtain ⟨lv, mv, vv, h0, h2, h3, h4⟩ := h
  exact ⟨lv, mv, vv, h0, World.ownsRow.kept h2 hg (own_b5_ne h2 hR (by decide)), h3.apart hR hg, h4.apart hR hg⟩
set_option maxHeartbeats 6400000 in
theorem grown5 (w : World) (R : Nat) (d0 d1 d2 d3 d4 : Value) : w.grownBy (((((w.setCell ⟨R, 0, none⟩ d0).setCell ⟨R, 1, none⟩ d1).setCell ⟨R, 2, none⟩ d2).setCell ⟨R, 3, none⟩ d3).setCell ⟨R, 4, none⟩ d4) (some R) := by
  refine ⟨rfl, rfl, rfl, by simp, fun i hi hne => ?_⟩
  have hne' : i ≠ R := fun e => hne (by rw [e])
  exact ((((Below.heap_setCell _ ⟨R, 4, none⟩ d4 i hne').trans (Below.heap_setCell _ ⟨R, 3, none⟩ d3 i hne')).trans (Below.heap_setCell _ ⟨R, 2, none⟩ d2 i hne')).trans (Below.heap_setCell _ ⟨R, 1, none⟩ d1 i hne')).trans (Below.heap_setCell _ ⟨R, 0, none⟩ d0 i hne')
theorem IsS.shapeP {w : World} {lo : Nat} {sv gv : Value} {gs : List Rl} {nx vs : List (List Int)} {go : Int} (h : IsS w lo sv gv gs nx vs go) : ∃ A2 c2 A3 c3 A4 c4, sv = .agg #[gv, .slice A2 (lens gs).length c2, .slice A3 (mapsK nx gs gs.length).length c3, .int .i64 go, .slice A4 vs.length c4] := by
  obtain ⟨lv, mv, vv, rfl, h2, h3, h4⟩ := h
  obtain ⟨A2, c2, rfl⟩ := own_slice h2
  obtain ⟨A3, c3, rfl, h3'⟩ := h3
  obtain ⟨A4, c4, rfl, h4'⟩ := h4
  exact ⟨A2, c2, A3, c3, A4, c4, rfl⟩
namespace Wd
/-- the visits that a pattern's search counts -/
def patV (p : ByteArray) (gs : List Rl) : List (List Int) := visK (fun q => decide (q = (p.size : Int))) (patNx p.data.toList) gs gs.length
end Wd
set_option maxRecDepth 100000 in
set_option maxHeartbeats 12800000 in
theorem patternSearch_any (gv : Value) (gs : List Rl) (p : ByteArray) (w : World) (hfr : FewR gs) (hpm : p.size ≤ maxLen) (hr : Rules w gv gs) :
    Calls Try.prog 97 #[.agg #[gv], .string p] w fun e w' => ∃ sv, e = .returned (.tuple #[sv, .int .i64 (askN (gOk gs) (okL p.data.toList) p.size)]) ∧ (askN (gOk gs) (okL p.data.toList) p.size = 0 → IsS w' 0 sv gv gs (patNx p.data.toList) (patV p gs) 0) ∧ (askN (gOk gs) (okL p.data.toList) p.size ≠ 0 → sv = zeroS) ∧ Below w.heap.size w w' := by
  have HRU := Lib.hid (fun W (hb : Below w.heap.size w W) => hr.kept hb)
  have hb : Below w.heap.size w ((w.alloc (.cells #[gv] 37)).alloc (.cells #[.slice none 0 0, .slice none 0 0, .slice none 0 0, .int .i64 0, .slice none 0 0] 116)) := ((Below.refl _ w).alloc (Nat.le_refl _) _).alloc (by simp) _
  have hg : ((w.alloc (.cells #[gv] 37)).alloc (.cells #[.slice none 0 0, .slice none 0 0, .slice none 0 0, .int .i64 0, .slice none 0 0] 116)).cell? ⟨w.heap.size, 0, none⟩ = some gv := (((Below.refl _ (w.alloc (.cells #[gv] 37))).alloc (Nat.le_refl _) _).cell (p := ⟨w.heap.size, 0, none⟩) (by simp)).trans (cell_new w gv 37)
  have hR : B5 ((w.alloc (.cells #[gv] 37)).alloc (.cells #[.slice none 0 0, .slice none 0 0, .slice none 0 0, .int .i64 0, .slice none 0 0] 116)) (w.heap.size + 1) (.slice none 0 0) (.slice none 0 0) (.slice none 0 0) (.int .i64 0) (.slice none 0 0) 116 := by
    have := heap_alloc_new (w.alloc (.cells #[gv] 37)) (.cells #[.slice none 0 0, .slice none 0 0, .slice none 0 0, .int .i64 0, .slice none 0 0] 116)
    rwa [show (w.alloc (.cells #[gv] 37)).heap.size = w.heap.size + 1 from by simp] at this
  have HV := Lib.hid (implValidGrammar gv gs _ hfr (HRU.out _ hb))
  have HW := Lib.hid (fun W => implOk p W hpm)
  have HF := Lib.hid (fun W => fault_any p W)
  have HB := Lib.hid hb
  have HR := Lib.hid hR
  have HGC := Lib.hid hg
  obtain ⟨Ag, cg, rfl, hRx⟩ := hr
  clear hb hR hRx
  cases hok : gOk gs
  · rw [hok] at HV
    have hc : askN false (okL p.data.toList) p.size = 1 := by unfold askN; rw [if_neg (by simp)]
    rw [hc]
    clear hok hc
    go_enter Try.func97, Try.ntmps97
    go_wp2_with fail
    refine HV.out.mono ?_
    rintro e w3 ⟨rfl, hB3⟩
    have HB3 := Lib.hid (HB.out.trans (hB3.mono HB.out.size))
    have HR3 := Lib.hid (HR.out.kept hB3)
    obtain ⟨r0, r1, r2, r3, r4⟩ := b5_cells HR3.out
    have f0 := b5_frozen (o := 0) HR3.out
    have f1 := b5_frozen (o := 1) HR3.out
    have f2 := b5_frozen (o := 2) HR3.out
    have f3 := b5_frozen (o := 3) HR3.out
    have f4 := b5_frozen (o := 4) HR3.out
    have HE := Lib.hid (b5_cells (b5_all (a' := .slice none 0 0) (b' := .slice none 0 0) (c' := .slice none 0 0) (d' := .int .i64 0) (e' := .slice none 0 0) HR3.out))
    clear hB3 hg
    go_wp2_with fail
    obtain ⟨y0, y1, y2, y3, y4⟩ := HE.out
    refine bodyPost_ret (v := .tuple #[.agg #[.slice none 0 0, .slice none 0 0, .slice none 0 0, .int .i64 0, .slice none 0 0], .int .i64 1]) (by simp [results, Try.results97, go_sem, y0, y1, y2, y3, y4]) rfl ⟨_, rfl, fun h => by omega, fun _ => rfl, ?_⟩
    exact ((((HB3.out.setCell (by simp) _).setCell (by simp) _).setCell (by simp) _).setCell (by simp) _).setCell (by simp) _
  · rw [hok] at HV
    cases ho : okL p.data.toList
    · rw [ho] at HW
      have hc : askN true false p.size = 1 := by unfold askN; rw [if_neg (by simp)]
      rw [hc]
      clear hok hc ho
      go_enter Try.func97, Try.ntmps97
      go_wp2_with fail
      refine HV.out.mono ?_
      rintro e w3 ⟨rfl, hB3⟩
      have HB3 := Lib.hid (HB.out.trans (hB3.mono HB.out.size))
      have HR3 := Lib.hid (HR.out.kept hB3)
      obtain ⟨r0, r1, r2, r3, r4⟩ := b5_cells HR3.out
      have f0 := b5_frozen (o := 0) HR3.out
      have f1 := b5_frozen (o := 1) HR3.out
      have f2 := b5_frozen (o := 2) HR3.out
      have f3 := b5_frozen (o := 3) HR3.out
      have f4 := b5_frozen (o := 4) HR3.out
      have HE := Lib.hid (b5_cells (b5_all (a' := .slice none 0 0) (b' := .slice none 0 0) (c' := .slice none 0 0) (d' := .int .i64 0) (e' := .slice none 0 0) HR3.out))
      clear hB3 hg
      go_wp2_with fail
      refine (HW.out _).mono ?_
      rintro e w4 ⟨rfl, hw4⟩
      subst hw4
      go_wp2_with fail
      obtain ⟨y0, y1, y2, y3, y4⟩ := HE.out
      refine bodyPost_ret (v := .tuple #[.agg #[.slice none 0 0, .slice none 0 0, .slice none 0 0, .int .i64 0, .slice none 0 0], .int .i64 1]) (by simp [results, Try.results97, go_sem, y0, y1, y2, y3, y4]) rfl ⟨_, rfl, fun h => by omega, fun _ => rfl, ?_⟩
      exact ((((HB3.out.setCell (by simp) _).setCell (by simp) _).setCell (by simp) _).setCell (by simp) _).setCell (by simp) _
    · rw [ho] at HW
      obtain ⟨c, hc⟩ : ∃ c, c = askN true true p.size := ⟨_, rfl⟩
      rw [← hc] at HF ⊢
      by_cases h0 : c = 0
      · have h20 := (ask_size (hc.symm.trans h0)).2.2.2
        have hl : p.data.toList.length = p.size := by simp
        have haok := patA_ok (p := p.data.toList) (by omega)
        have hfew := patA_few (p := p.data.toList) (by omega)
        obtain ⟨⟨h1, h24⟩, hrow, hlen⟩ := aOk_parts haok
        have HP := Lib.hid (fun W => patternAuto_any p W h20)
        have HWO := Lib.hid (fun av W (hb : Below w.heap.size w W) (hx : IsAu W av (patA p.data.toList)) => walkOfAuto_any av (patA p.data.toList) (.slice Ag gs.length cg) gs W hfew hx hfr (HRU.out W hb))
        rw [haok, hok] at HWO
        have hwa : (fun q => hasN [(p.data.toList.length : Int)] q) = (fun q => decide (q = (p.size : Int))) := by
          funext q
          unfold hasN
          rw [hl]
          simp
        have HSF := Lib.hid (fun W wv Pf (hb : Below w.heap.size w W) (hW : ∃ lo, IsW W lo wv (.slice Ag gs.length cg) gs (patNx p.data.toList) 0) (hP : ∃ c0 c1 cf cn, B4 W Pf c0 c1 cf cn 33 ∧ IsL W cf [(p.data.toList.length : Int)]) => (by
          obtain ⟨lo, hW⟩ := hW
          obtain ⟨c0, c1, cf, cn, hP⟩ := hP
          have := searchFor_any wv (.slice Ag gs.length cg) gs (patNx p.data.toList) ((p.data.toList.length : Int) + 1) 0 lo Pf (fun q => hasN [(p.data.toList.length : Int)] q) W h1 h24 hrow hlen hok (HRU.out W hb) hW (fun W' z hb' => final_any z Pf c0 c1 cf cn [(p.data.toList.length : Int)] W' (by simp) (hP.1.kept hb') (hP.2.kept hb'))
          rw [hwa] at this
          exact this : Calls Try.prog 88 #[wv, .func (.func 161) #[] #[.pointer (some ⟨Pf, 0, none⟩)]] W fun e w' => ∃ sv, e = .returned sv ∧ IsS w' 0 sv (.slice Ag gs.length cg) gs (patNx p.data.toList) (patV p gs) 0 ∧ Below W.heap.size W w'))
        have HC := Lib.hid h0
        clear hok ho hwa haok hfew hrow hlen h1 h24 hl h20 hc
        subst h0
        go_enter Try.func97, Try.ntmps97
        go_wp2_with fail
        refine HV.out.mono ?_
        rintro e w3 ⟨rfl, hB3⟩
        have HB3 := Lib.hid (HB.out.trans (hB3.mono HB.out.size))
        have HR3 := Lib.hid (HR.out.kept hB3)
        have HG3 := Lib.hid ((hB3.cell (lt_of_cell HGC.out)).trans HGC.out)
        clear hB3 hg
        go_wp2_with fail
        refine (HW.out _).mono ?_
        rintro e w4 ⟨rfl, hw4⟩
        subst hw4
        go_wp2_with fail
        refine (HF.out _).mono ?_
        rintro e w4 ⟨rfl, hw4⟩
        obtain rfl := hw4.symm
        go_wp2_with fail
        refine (HP.out _).mono ?_
        rintro e w5 ⟨f, n, U, rfl, hA, hB5⟩
        have HB5 := Lib.hid (HB3.out.trans (hB5.mono HB3.out.size))
        have HR5 := Lib.hid (HR3.out.kept hB5)
        have HG5 := Lib.hid ((hB5.cell (lt_of_cell HG3.out)).trans HG3.out)
        have HAU := Lib.hid hA.isAu
        have HFI5 := Lib.hid (IsL.of_own hA.fin)
        obtain ⟨Af, cf, rfl⟩ := own_slice hA.fin
        obtain ⟨An, cn, rfl⟩ := own_slice hA.nx.outer
        obtain ⟨ST, hST⟩ : ∃ ST, ST = (patA p.data.toList).st := ⟨_, rfl⟩
        obtain ⟨GO, hGO⟩ : ∃ GO, GO = (patA p.data.toList).go := ⟨_, rfl⟩
        obtain ⟨FL, hFL⟩ : ∃ FL, FL = (patA p.data.toList).fin.length := ⟨_, rfl⟩
        rw [← hST, ← hGO, ← hFL] at HAU
        rw [← hFL] at HFI5
        rw [← hST, ← hGO, ← hFL]
        have hb6 := (Below.refl _ w5).alloc (Nat.le_refl _) (.cells #[.int .i64 ST, .int .i64 GO, .slice Af FL cf, .slice An U.length cn] 33)
        have HB6 := Lib.hid (HB5.out.trans (hb6.mono HB5.out.size))
        have HR6 := Lib.hid (HR5.out.kept hb6)
        have HG6 := Lib.hid ((hb6.cell (lt_of_cell HG5.out)).trans HG5.out)
        have HAU6 := Lib.hid (HAU.out.kept hb6)
        have HFI6 := Lib.hid (HFI5.out.kept hb6)
        have HAB : Hid (B4 (w5.alloc (.cells #[.int .i64 ST, .int .i64 GO, .slice Af FL cf, .slice An U.length cn] 33)) w5.heap.size _ _ _ _ _) := Lib.hid (B4.new w5 (.int .i64 ST) (.int .i64 GO) (.slice Af FL cf) (.slice An U.length cn) 33)
        have HRA : Hid (w.heap.size + 1 < w5.heap.size) := Lib.hid HR5.out.lt
        clear hA hB5 hb6 hST hGO hFL
        go_upto_region 7 with fail
        obtain ⟨Ab, hAb⟩ : ∃ Ab, Ab = w5.heap.size := ⟨_, rfl⟩
        rw [← hAb] at HAB HRA ⊢
        generalize w5.alloc (.cells #[.int .i64 ST, .int .i64 GO, .slice Af FL cf, .slice An U.length cn] 33) = w6 at *
        clear hAb
        obtain ⟨⟨p0, p1, p2, p3⟩, _⟩ := blk4_cells HAB.out
        have g6 := HG6.out
        go_wp2_with fail
        refine (HWO.out _ _ HB6.out HAU6.out).mono ?_
        rintro e w7 ⟨wv, rfl, hyes, _, hB7⟩
        have hw7 := hyes rfl
        have HB7 := Lib.hid (HB6.out.trans (hB7.mono HB6.out.size))
        have HR7 := Lib.hid (HR6.out.kept hB7)
        have HAB7 := Lib.hid (HAB.out.kept hB7)
        have HFI7 := Lib.hid (HFI6.out.kept hB7)
        have HW7 : Hid (∃ lo, IsW w7 lo wv (.slice Ag gs.length cg) gs (patNx p.data.toList) 0) := Lib.hid ⟨_, hw7⟩
        obtain ⟨A2, c2, A3, c3, rfl⟩ := hw7.shape
        rw [show (patA p.data.toList).go = 0 from rfl]
        have hb8 := (Below.refl _ w7).alloc (Nat.le_refl _) (.cells #[.slice Ag gs.length cg, .slice A2 (lens gs).length c2, .slice A3 gs.length c3, .int .i64 0] 110)
        have HB8 := Lib.hid (HB7.out.trans (hb8.mono HB7.out.size))
        have HR8 := Lib.hid (HR7.out.kept hb8)
        have HAB8 := Lib.hid (HAB7.out.kept hb8)
        have HFI8 := Lib.hid (HFI7.out.kept hb8)
        have HW8 : Hid (∃ lo, IsW (w7.alloc (.cells #[.slice Ag gs.length cg, .slice A2 (lens gs).length c2, .slice A3 gs.length c3, .int .i64 0] 110)) lo (.agg #[.slice Ag gs.length cg, .slice A2 (lens gs).length c2, .slice A3 gs.length c3, .int .i64 0]) (.slice Ag gs.length cg) gs (patNx p.data.toList) 0) := Lib.hid (by obtain ⟨lo, h⟩ := HW7.out; exact ⟨lo, h.kept hb8⟩)
        have HVB : Hid (B4 (w7.alloc (.cells #[.slice Ag gs.length cg, .slice A2 (lens gs).length c2, .slice A3 gs.length c3, .int .i64 0] 110)) w7.heap.size _ _ _ _ _) := Lib.hid (B4.new w7 (.slice Ag gs.length cg) (.slice A2 (lens gs).length c2) (.slice A3 gs.length c3) (.int .i64 0) 110)
        have HRV : Hid (w.heap.size + 1 < w7.heap.size) := Lib.hid HR7.out.lt
        clear hyes hw7 hB7 hb8 p0 p1 p2 p3 g6
        go_upto_region 8 with fail
        obtain ⟨Vb, hVb⟩ : ∃ Vb, Vb = w7.heap.size := ⟨_, rfl⟩
        rw [← hVb] at HVB HRV ⊢
        generalize w7.alloc (.cells #[.slice Ag gs.length cg, .slice A2 (lens gs).length c2, .slice A3 gs.length c3, .int .i64 0] 110) = w8 at *
        clear hVb
        obtain ⟨⟨p0, p1, p2, p3⟩, _⟩ := blk4_cells HAB8.out
        obtain ⟨⟨q0, q1, q2, q3⟩, _⟩ := blk4_cells HVB.out
        have HC8 := Lib.hid (And.intro (And.intro p0 (And.intro p1 (And.intro p2 p3))) (And.intro q0 (And.intro q1 (And.intro q2 q3))))
        have HFC : Hid (∀ W, Calls Try.prog 99 #[.agg #[.int .i64 ST, .int .i64 GO, .slice Af FL cf, .slice An U.length cn]] W fun e w' => ∃ Pf, e = .returned (.func (.func 161) #[] #[.pointer (some ⟨Pf, 0, none⟩)]) ∧ B4 w' Pf (.int .i64 ST) (.int .i64 GO) (.slice Af FL cf) (.slice An U.length cn) 33 ∧ Below W.heap.size W w') := Lib.hid (fun W => (isFinal_any _ _ _ _ _ _ _ _ _ _ rfl rfl _ _ rfl rfl W).mono (fun e w' ⟨he, hw⟩ => ⟨_, he, by rw [hw]; exact B4.new W _ _ _ _ _, by rw [hw]; exact (Below.refl _ W).alloc (Nat.le_refl _) _⟩))
        go_region_held3 (fun w' => (w'.cell? ⟨Ab, 0, none⟩ = some (.int .i64 ST) ∧ w'.cell? ⟨Ab, 1, none⟩ = some (.int .i64 GO) ∧ w'.cell? ⟨Ab, 2, none⟩ = some (.slice Af FL cf) ∧ w'.cell? ⟨Ab, 3, none⟩ = some (.slice An U.length cn)) ∧ w'.cell? ⟨Vb, 0, none⟩ = some (.slice Ag gs.length cg) ∧ w'.cell? ⟨Vb, 1, none⟩ = some (.slice A2 (lens gs).length c2) ∧ w'.cell? ⟨Vb, 2, none⟩ = some (.slice A3 gs.length c3) ∧ w'.cell? ⟨Vb, 3, none⟩ = some (.int .i64 0))
          (first | (with_reducible exact HC8.out) | (with_reducible exact HC9.out) | (with_reducible exact HC10.out) | exact HCS.out _ _ _ _ _ | go_keep)
          (first
            | (go_at_call 99
               refine (HFC.out _).mono ?_
               rintro e w9 ⟨Pf, rfl, hpf, hB9⟩
               try have hB9 := below_undrew hB9
               have HPF := Lib.hid hpf
               have HB9 := Lib.hid (HB8.out.trans (hB9.mono HB8.out.size))
               have HW9 : Hid (∃ lo, IsW w9 lo (.agg #[.slice Ag gs.length cg, .slice A2 (lens gs).length c2, .slice A3 gs.length c3, .int .i64 0]) (.slice Ag gs.length cg) gs (patNx p.data.toList) 0) := Lib.hid (by obtain ⟨lo, h⟩ := HW8.out; exact ⟨lo, h.kept hB9⟩)
               have HR9 := Lib.hid (HR8.out.kept hB9)
               have HFI9 := Lib.hid (HFI8.out.kept hB9)
               have HA9 := Lib.hid (HAB8.out.kept hB9)
               have HV9 := Lib.hid (HVB.out.kept hB9)
               have HC9 := Lib.hid (And.intro (blk4_cells HA9.out).1 (blk4_cells HV9.out).1)
               clear hpf hB9)
            | (go_at_call 88
               refine (HSF.out _ _ _ ?_ ?_ ?_).mono ?_
               (first | exact HB9.out | exact below_drewN HB9.out 1 | exact below_drewN HB9.out _)
               (first | exact HW9.out | (obtain ⟨lo, h⟩ := HW9.out; exact ⟨lo, h.kept (below_drewN (Below.refl _ w9) 1)⟩))
               (first | exact ⟨_, _, _, _, HPF.out, HFI9.out⟩ | exact ⟨_, _, _, _, HPF.out.kept (below_drewN (Below.refl _ w9) 1), HFI9.out.kept (below_drewN (Below.refl _ w9) 1)⟩)
               rintro e w10 ⟨sv, rfl, hS, hB10⟩
               try have hB10 := below_undrew hB10
               have HB10 := Lib.hid (HB9.out.trans (hB10.mono HB9.out.size))
               have HS10 := Lib.hid hS
               obtain ⟨D2, d2, D3, d3, D4, d4, hsv⟩ := hS.shapeP
               subst hsv
               have HR10 := Lib.hid (HR9.out.kept hB10)
               have HA10 := Lib.hid (HA9.out.kept hB10)
               have HV10 := Lib.hid (HV9.out.kept hB10)
               have HC10 := Lib.hid (And.intro (blk4_cells HA10.out).1 (blk4_cells HV10.out).1)
               have HCS : Hid (∀ d0 d1 d2 d3 d4, ((((((w10.setCell ⟨w.heap.size + 1, 0, none⟩ d0).setCell ⟨w.heap.size + 1, 1, none⟩ d1).setCell ⟨w.heap.size + 1, 2, none⟩ d2).setCell ⟨w.heap.size + 1, 3, none⟩ d3).setCell ⟨w.heap.size + 1, 4, none⟩ d4).cell? ⟨Ab, 0, none⟩ = some (.int .i64 ST) ∧ (((((w10.setCell ⟨w.heap.size + 1, 0, none⟩ d0).setCell ⟨w.heap.size + 1, 1, none⟩ d1).setCell ⟨w.heap.size + 1, 2, none⟩ d2).setCell ⟨w.heap.size + 1, 3, none⟩ d3).setCell ⟨w.heap.size + 1, 4, none⟩ d4).cell? ⟨Ab, 1, none⟩ = some (.int .i64 GO) ∧ (((((w10.setCell ⟨w.heap.size + 1, 0, none⟩ d0).setCell ⟨w.heap.size + 1, 1, none⟩ d1).setCell ⟨w.heap.size + 1, 2, none⟩ d2).setCell ⟨w.heap.size + 1, 3, none⟩ d3).setCell ⟨w.heap.size + 1, 4, none⟩ d4).cell? ⟨Ab, 2, none⟩ = some (.slice Af FL cf) ∧ (((((w10.setCell ⟨w.heap.size + 1, 0, none⟩ d0).setCell ⟨w.heap.size + 1, 1, none⟩ d1).setCell ⟨w.heap.size + 1, 2, none⟩ d2).setCell ⟨w.heap.size + 1, 3, none⟩ d3).setCell ⟨w.heap.size + 1, 4, none⟩ d4).cell? ⟨Ab, 3, none⟩ = some (.slice An U.length cn)) ∧ (((((w10.setCell ⟨w.heap.size + 1, 0, none⟩ d0).setCell ⟨w.heap.size + 1, 1, none⟩ d1).setCell ⟨w.heap.size + 1, 2, none⟩ d2).setCell ⟨w.heap.size + 1, 3, none⟩ d3).setCell ⟨w.heap.size + 1, 4, none⟩ d4).cell? ⟨Vb, 0, none⟩ = some (.slice Ag gs.length cg) ∧ (((((w10.setCell ⟨w.heap.size + 1, 0, none⟩ d0).setCell ⟨w.heap.size + 1, 1, none⟩ d1).setCell ⟨w.heap.size + 1, 2, none⟩ d2).setCell ⟨w.heap.size + 1, 3, none⟩ d3).setCell ⟨w.heap.size + 1, 4, none⟩ d4).cell? ⟨Vb, 1, none⟩ = some (.slice A2 (lens gs).length c2) ∧ (((((w10.setCell ⟨w.heap.size + 1, 0, none⟩ d0).setCell ⟨w.heap.size + 1, 1, none⟩ d1).setCell ⟨w.heap.size + 1, 2, none⟩ d2).setCell ⟨w.heap.size + 1, 3, none⟩ d3).setCell ⟨w.heap.size + 1, 4, none⟩ d4).cell? ⟨Vb, 2, none⟩ = some (.slice A3 gs.length c3) ∧ (((((w10.setCell ⟨w.heap.size + 1, 0, none⟩ d0).setCell ⟨w.heap.size + 1, 1, none⟩ d1).setCell ⟨w.heap.size + 1, 2, none⟩ d2).setCell ⟨w.heap.size + 1, 3, none⟩ d3).setCell ⟨w.heap.size + 1, 4, none⟩ d4).cell? ⟨Vb, 3, none⟩ = some (.int .i64 0)) := Lib.hid (fun d0 d1 d2 d3 d4 => by
                 have hg5 := grown5 w10 (w.heap.size + 1) d0 d1 d2 d3 d4
                 have h1 := blk4_cells (B4.grown HA10.out hg5 (fun e => by injection e with e; have := HRA.out; omega))
                 have h2 := blk4_cells (B4.grown HV10.out hg5 (fun e => by injection e with e; have := HRV.out; omega))
                 exact ⟨h1.1, h2.1⟩)
               obtain ⟨r0, r1, r2, r3, r4⟩ := b5_cells HR10.out
               have f0 := b5_frozen (o := 0) HR10.out
               have f1 := b5_frozen (o := 1) HR10.out
               have f2 := b5_frozen (o := 2) HR10.out
               have f3 := b5_frozen (o := 3) HR10.out
               have f4 := b5_frozen (o := 4) HR10.out
               clear hB10 hS))
        all_goals
          have HE := Lib.hid (b5_cells (b5_all (a' := .slice Ag gs.length cg) (b' := .slice D2 (lens gs).length d2) (c' := .slice D3 (mapsK (patNx p.data.toList) gs gs.length).length d3) (d' := .int .i64 0) (e' := .slice D4 (patV p gs).length d4) HR10.out))
          clear p0 p1 p2 p3 q0 q1 q2 q3
          go_wp2_with fail
          obtain ⟨y0, y1, y2, y3, y4⟩ := HE.out
          refine bodyPost_ret (v := .tuple #[.agg #[.slice Ag gs.length cg, .slice D2 (lens gs).length d2, .slice D3 (mapsK (patNx p.data.toList) gs gs.length).length d3, .int .i64 0, .slice D4 (patV p gs).length d4], .int .i64 0]) (by simp [results, Try.results97, go_sem, y0, y1, y2, y3, y4]) rfl ⟨_, rfl, fun _ => ?_, fun h => absurd rfl h, ?_⟩
          · first | exact HS10.out.apart HR10.out (grown5 _ _ _ _ _ _ _) | exact (HS10.out.apart HR10.out (grown5 _ _ _ _ _ _ _)).kept (below_drewN (Below.refl _ _) 1)
          · first | exact ((((HB10.out.setCell (by simp) _).setCell (by simp) _).setCell (by simp) _).setCell (by simp) _).setCell (by simp) _ | exact below_drewN (((((HB10.out.setCell (by simp) _).setCell (by simp) _).setCell (by simp) _).setCell (by simp) _).setCell (by simp) _) 1
      · have hd : (c == 0) = false := by simp [h0]
        have hd2 : (c != 0) = true := by simp [h0]
        clear hok ho hc
        go_enter Try.func97, Try.ntmps97
        go_wp2_with fail
        refine HV.out.mono ?_
        rintro e w3 ⟨rfl, hB3⟩
        have HB3 := Lib.hid (HB.out.trans (hB3.mono HB.out.size))
        have HR3 := Lib.hid (HR.out.kept hB3)
        obtain ⟨r0, r1, r2, r3, r4⟩ := b5_cells HR3.out
        have f0 := b5_frozen (o := 0) HR3.out
        have f1 := b5_frozen (o := 1) HR3.out
        have f2 := b5_frozen (o := 2) HR3.out
        have f3 := b5_frozen (o := 3) HR3.out
        have f4 := b5_frozen (o := 4) HR3.out
        have HE := Lib.hid (b5_cells (b5_all (a' := .slice none 0 0) (b' := .slice none 0 0) (c' := .slice none 0 0) (d' := .int .i64 0) (e' := .slice none 0 0) HR3.out))
        clear hB3 hg
        go_wp2_with fail
        refine (HW.out _).mono ?_
        rintro e w4 ⟨rfl, hw4⟩
        subst hw4
        go_wp2_with fail
        refine (HF.out _).mono ?_
        rintro e w4 ⟨rfl, hw4⟩
        obtain rfl := hw4.symm
        go_wp2_with fail
        obtain ⟨y0, y1, y2, y3, y4⟩ := HE.out
        refine bodyPost_ret (v := .tuple #[.agg #[.slice none 0 0, .slice none 0 0, .slice none 0 0, .int .i64 0, .slice none 0 0], .int .i64 c]) (by simp [results, Try.results97, go_sem, y0, y1, y2, y3, y4]) rfl ⟨_, rfl, fun h => absurd h h0, fun _ => rfl, ?_⟩
        exact ((((HB3.out.setCell (by simp) _).setCell (by simp) _).setCell (by simp) _).setCell (by simp) _).setCell (by simp) _
end Go.Proofs.Ytaffachjopjbgaa
