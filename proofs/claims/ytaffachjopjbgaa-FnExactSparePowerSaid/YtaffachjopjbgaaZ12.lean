/-
  Contracts and numbers of the functions that the laws of this place call, one text behind the other. No condition beyond those that each theorem names.
-/
import Derived.Test.YtaffachjopjbgaaZ1
import Derived.Test.YtaffachjopjbgaaZ2
import Derived.Test.YtaffachjopjbgaaZ4
import Derived.Test.YtaffachjopjbgaaZ6
import Derived.Test.YtaffachjopjbgaaZ7
import Derived.Test.YtaffachjopjbgaaZ8
import Derived.Maps.AppendAt
import Derived.OwnWalk
import Derived.Laws.MakeOwn
import Derived.StillTailTactics
namespace Go.Proofs.Ytaffachjopjbgaa
open Go.RowKit
open Wd
set_option linter.unusedVariables false

namespace Wd
/-- a sum as int64 has it -/
def add64 (a b : Int) : Int := IntKind.i64.wrap (a + b)
/-- a rule hands its uses on -/
def uStep (x : Rl) (k : Nat) (u : List Int) : List Int :=
  if x.L.size = 0 then
    (u.set x.l.toNat (add64 (u.getD x.l.toNat 0) (u.getD k 0))).set x.r.toNat
      (add64 ((u.set x.l.toNat (add64 (u.getD x.l.toNat 0) (u.getD k 0))).getD x.r.toNat 0) ((u.set x.l.toNat (add64 (u.getD x.l.toNat 0) (u.getD k 0))).getD k 0))
  else u
/-- the uses when the rules from m on have been treated -/
def uAt (gs : List Rl) : Nat → List Int
  | 0 => (List.replicate gs.length 0).set (gs.length - 1) 1
  | i + 1 => if h : gs.length - 1 - i < gs.length then uStep gs[gs.length - 1 - i] (gs.length - 1 - i) (uAt gs i) else uAt gs i
def usesOf (gs : List Rl) : List Int := uAt gs gs.length
theorem uStep_len (x : Rl) (k : Nat) (u : List Int) : (uStep x k u).length = u.length := by unfold uStep; split <;> simp
theorem uAt_len (gs : List Rl) : ∀ i, (uAt gs i).length = gs.length
  | 0 => by simp [uAt]
  | i + 1 => by
    rw [uAt]
    split
    · rw [uStep_len, uAt_len gs i]
    · exact uAt_len gs i
theorem usesOf_len (gs : List Rl) : (usesOf gs).length = gs.length := uAt_len _ _
theorem uAt_next (gs : List Rl) (m : Nat) (h : m < gs.length) : uAt gs (gs.length - m) = uStep gs[m] m (uAt gs (gs.length - (m + 1))) := by
  obtain ⟨i, hi⟩ : ∃ i, gs.length - m = i + 1 := ⟨gs.length - m - 1, by omega⟩
  have h1 : gs.length - 1 - i = m := by omega
  rw [hi, uAt, dif_pos (by omega), show gs.length - (m + 1) = i from by omega]
  simp only [h1]
theorem iv_atU {mem : List Int} {k : Nat} (h : k < mem.length) : (iv mem)[k]? = some (.int .i64 (mem.getD k 0)) := by
  simp only [iv, List.getElem?_map]
  rw [List.getD_eq_getElem?_getD, List.getElem?_eq_getElem h, Option.getD_some, Option.map_some]
end Wd

end Go.Proofs.Ytaffachjopjbgaa
namespace Go.Proofs.Ytaffachjopjbgaa
open Go.RowKit
open Wd
set_option linter.unusedVariables false
namespace Wd
/-- the number of the first (rt: of the last) letter of a rule -/
def edgF (rt : Bool) (gs : List Rl) : Nat → Nat → Nat
  | 0, _ => 0
  | f + 1, k => match gs[k]? with
    | some x => if x.L.size = 0 then edgF rt gs f (if rt = true then x.r.toNat else x.l.toNat) else ltNo x
    | none => 0
def edg (rt : Bool) (gs : List Rl) (k : Nat) : Nat := edgF rt gs (k + 1) k
/-- does a rule have the two letters at its seam? -/
def seam (gs : List Rl) (i j k : Nat) : Int := match gs[k]? with
  | some x => if x.L.size = 0 ∧ edg true gs x.l.toNat = i ∧ edg false gs x.r.toNat = j then 1 else 0
  | none => 0
/-- what is counted for rules: what a rule has itself, and what its parts have -/
def Cok (gs : List Rl) (own c : Nat → Int) : Prop :=
  (∀ k a b (hk : k < gs.length), gs[k].L.size = 0 → gs[k].l = ((a : Nat) : Int) → gs[k].r = ((b : Nat) : Int) → c k = own k + c a + c b) ∧ (∀ k (hk : k < gs.length), gs[k].L.size ≠ 0 → c k = own k)
/-- the number of pairs -/
def prN (gs : List Rl) (i j : Nat) : Int := sumN (fun r => (usesOf gs).getD r 0 * seam gs i j r) gs.length
end Wd
theorem edgF_pair {rt : Bool} {gs : List Rl} {f k : Nat} (hk : k < gs.length) (h0 : gs[k].L.size = 0) : edgF rt gs (f + 1) k = edgF rt gs f (if rt = true then gs[k].r.toNat else gs[k].l.toNat) := by
  rw [edgF, List.getElem?_eq_getElem hk]
  simp only [h0, if_true]
theorem edgF_letter {rt : Bool} {gs : List Rl} {f k : Nat} (hk : k < gs.length) (h0 : gs[k].L.size ≠ 0) : edgF rt gs (f + 1) k = ltNo gs[k] := by
  rw [edgF, List.getElem?_eq_getElem hk]
  simp only [h0, if_false]
theorem edgF_fuel {rt : Bool} {gs : List Rl} (hfit : fits gs = true) : ∀ f f' k, k < f → k < f' → k < gs.length → edgF rt gs f k = edgF rt gs f' k
  | 0, _, _, h, _, _ => by omega
  | f + 1, 0, _, _, h, _ => by omega
  | f + 1, f' + 1, k, h, h', hk => by
    by_cases h0 : gs[k].L.size = 0
    · obtain ⟨⟨a1, a2⟩, b1, b2⟩ := (ok_pair h0).1 (fits_at hfit k hk)
      rw [edgF_pair hk h0, edgF_pair hk h0]
      exact edgF_fuel hfit f f' _ (by split <;> omega) (by split <;> omega) (by split <;> omega)
    · rw [edgF_letter hk h0, edgF_letter hk h0]
theorem edg_letter {rt : Bool} {gs : List Rl} {k : Nat} (hk : k < gs.length) (h0 : gs[k].L.size ≠ 0) : edg rt gs k = ltNo gs[k] := edgF_letter hk h0
theorem edg_pair {rt : Bool} {gs : List Rl} (hfit : fits gs = true) {k a b : Nat} (hk : k < gs.length) (h0 : gs[k].L.size = 0) (ha : gs[k].l = a) (hb : gs[k].r = b) (hak : a < k) (hbk : b < k) : edg rt gs k = edg rt gs (if rt = true then b else a) := by
  unfold edg
  rw [edgF_pair hk h0, ha, hb, Int.toNat_natCast, Int.toNat_natCast]
  exact edgF_fuel hfit _ _ _ (by split <;> omega) (by omega) (by split <;> omega)
theorem edg_lt {rt : Bool} {gs : List Rl} (hfit : fits gs = true) : ∀ f k, k < f → k < gs.length → edg rt gs k < 4
  | 0, _, h, _ => by omega
  | f + 1, k, h, hk => by
    rcases rule_cases hfit hk with h0 | ⟨h0, a, b, ha, hb, hak, hbk⟩
    · obtain ⟨c, _, hc1, hc2, hc3⟩ := letter_byte h0 (fits_at hfit k hk)
      rw [edg_letter hk h0]
      omega
    · rw [edg_pair hfit hk h0 ha hb hak hbk]
      exact edg_lt hfit f _ (by split <;> omega) (by split <;> omega)
/-- the maps' equations -/
theorem mp_letter (nx : List (List Int)) {gs : List Rl} {k s : Nat} (hk : k < gs.length) (h0 : gs[k].L.size ≠ 0) (hs : s < 24) : at2 (mapsK nx gs gs.length) k s = at2 nx s (ltNo gs[k]) := by
  rw [mapsK_at nx gs k s hk (Nat.lt_succ_self k)]
  conv => lhs; unfold at2
  rw [mapsK_last, getD_rl hk]
  unfold rowM
  rw [if_neg h0]
  unfold stepsRow
  rw [List.getD_eq_getElem?_getD, List.getElem?_map, List.getElem?_range hs]
  rfl
theorem mp_pair {nx : List (List Int)} {st : Int} {gs : List Rl} (h : nx.all (rowOk st) = true) (hl : (nx.length : Int) = st) (h1 : 1 ≤ st) (h24 : st ≤ 24) (hfit : fits gs = true) {k a b s : Nat} (hk : k < gs.length) (h0 : gs[k].L.size = 0) (ha : gs[k].l = a) (hb : gs[k].r = b) (hak : a < k) (hbk : b < k) (hs : s < 24) :
    at2 (mapsK nx gs gs.length) k s = at2 (mapsK nx gs gs.length) b (at2 (mapsK nx gs gs.length) a s).toNat := by
  obtain ⟨m1, _⟩ := mapsK_ok h hl h1 h24 hfit k (by omega) a hak
  rw [mapsK_at nx gs k s hk (Nat.lt_succ_self k), mapsK_at nx gs a s (Nat.lt_trans hak hk) hak, mapsK_at nx gs b _ (Nat.lt_trans hbk hk) hbk]
  conv => lhs; unfold at2
  rw [mapsK_last, getD_rl hk]
  unfold rowM
  rw [if_pos h0, ha, hb, Int.toNat_natCast, Int.toNat_natCast]
  unfold thenRow
  rw [List.getD_eq_getElem?_getD, List.getElem?_map, List.getElem?_eq_getElem (by omega)]
  unfold at2
  rw [List.getD_eq_getElem?_getD (l := (mapsK nx gs k).getD a []), List.getElem?_eq_getElem (by omega)]
  rfl
/-- the automaton of two letters -/
theorem two_tab : ∀ i : Fin 4, ∀ j : Fin 4, ∀ s : Fin 3, ∀ z : Fin 4,
    (at2 (patNx [ltB i, ltB j]) (at2 (patNx [ltB i, ltB j]) s z).toNat j = 2 ↔ z = i) ∧ (at2 (patNx [ltB i, ltB j]) s z = 2 ↔ (at2 (patNx [ltB i, ltB j]) s j = 2 ∧ z = j)) ∧ at2 (patNx [ltB i, ltB j]) 0 j ≠ 2 ∧ 0 ≤ at2 (patNx [ltB i, ltB j]) s z ∧ at2 (patNx [ltB i, ltB j]) s z < 3 := by
  decide +kernel
theorem two_at {i j s z : Nat} (hi : i < 4) (hj : j < 4) (hs : s < 3) (hz : z < 4) :
    (at2 (patNx [ltB i, ltB j]) (at2 (patNx [ltB i, ltB j]) s z).toNat j = 2 ↔ z = i) ∧ (at2 (patNx [ltB i, ltB j]) s z = 2 ↔ (at2 (patNx [ltB i, ltB j]) s j = 2 ∧ z = j)) ∧ at2 (patNx [ltB i, ltB j]) 0 j ≠ 2 ∧ 0 ≤ at2 (patNx [ltB i, ltB j]) s z ∧ at2 (patNx [ltB i, ltB j]) s z < 3 := by
  have := two_tab ⟨i, hi⟩ ⟨j, hj⟩ ⟨s, hs⟩ ⟨z, hz⟩
  simpa [Fin.ext_iff] using this
theorem two_ok (i j : Nat) : (patNx [ltB i, ltB j]).all (rowOk 3) = true ∧ ((patNx [ltB i, ltB j]).length : Int) = 3 := ⟨patNx_ok [ltB i, ltB j], by rw [patNx_len]; rfl⟩
theorem two_map {gs : List Rl} (hfit : fits gs = true) {i j : Nat} (hi : i < 4) (hj : j < 4) : ∀ f k s, k < f → k < gs.length → s < 3 → (0 ≤ at2 (mapsK (patNx [ltB i, ltB j]) gs gs.length) k s ∧ at2 (mapsK (patNx [ltB i, ltB j]) gs gs.length) k s < 3) ∧ (at2 (patNx [ltB i, ltB j]) (at2 (mapsK (patNx [ltB i, ltB j]) gs gs.length) k s).toNat j = 2 ↔ edg true gs k = i)
  | 0, _, _, h, _, _ => by omega
  | f + 1, k, s, h, hk, hs => by
    rcases rule_cases hfit hk with h0 | ⟨h0, a, b, ha, hb, hak, hbk⟩
    · obtain ⟨c, _, hc1, hc2, hc3⟩ := letter_byte h0 (fits_at hfit k hk)
      rw [mp_letter _ hk h0 (by omega), edg_letter hk h0]
      have := two_at hi hj hs (z := ltNo gs[k]) (by omega)
      exact ⟨this.2.2.2, this.1⟩
    · have h1 := two_map hfit hi hj f a s (by omega) (by omega) hs
      have h2 := two_map hfit hi hj f b (at2 (mapsK (patNx [ltB i, ltB j]) gs gs.length) a s).toNat (by omega) (by omega) (by omega)
      rw [mp_pair (two_ok i j).1 (two_ok i j).2 (by decide) (by decide) hfit hk h0 ha hb hak hbk (by omega), edg_pair hfit hk h0 ha hb hak hbk, if_pos rfl]
      exact h2
theorem two_vis {gs : List Rl} (hfit : fits gs = true) {i j : Nat} (hi : i < 4) (hj : j < 4) : ∀ f k s, k < f → k < gs.length → s < 3 → at2 (visK (fun q => decide (q = 2)) (patNx [ltB i, ltB j]) gs gs.length) k s = at2 (visK (fun q => decide (q = 2)) (patNx [ltB i, ltB j]) gs gs.length) k 0 + (if at2 (patNx [ltB i, ltB j]) s j = 2 ∧ edg false gs k = j then 1 else 0)
  | 0, _, _, h, _, _ => by omega
  | f + 1, k, s, h, hk, hs => by
    rcases rule_cases hfit hk with h0 | ⟨h0, a, b, ha, hb, hak, hbk⟩
    · obtain ⟨c, _, hc1, hc2, hc3⟩ := letter_byte h0 (fits_at hfit k hk)
      rw [vis_letter _ _ hk h0 (by omega), vis_letter _ _ hk h0 (by omega), mp_letter _ hk h0 (by omega), mp_letter _ hk h0 (by omega), edg_letter hk h0]
      have t1 := two_at hi hj hs (z := ltNo gs[k]) (by omega)
      have t2 := two_at hi hj (s := 0) (by omega) (z := ltNo gs[k]) (by omega)
      have n2 : ¬ at2 (patNx [ltB i, ltB j]) 0 (ltNo gs[k]) = 2 := fun e => t2.2.2.1 (t2.2.1.1 e).1
      simp only [decide_eq_true_eq]
      rw [if_neg n2]
      by_cases e : at2 (patNx [ltB i, ltB j]) s (ltNo gs[k]) = 2
      · rw [if_pos e, if_pos (t1.2.1.1 e)]
        rfl
      · rw [if_neg e, if_neg (fun h => e (t1.2.1.2 h))]
        rfl
    · have m1 := two_map hfit hi hj k a s hak (by omega) hs
      have m0 := two_map hfit hi hj k a 0 hak (by omega) (by omega)
      have v1 := two_vis hfit hi hj f a s (by omega) (by omega) hs
      have v2 := two_vis hfit hi hj f b (at2 (mapsK (patNx [ltB i, ltB j]) gs gs.length) a s).toNat (by omega) (by omega) (by omega)
      have v3 := two_vis hfit hi hj f b (at2 (mapsK (patNx [ltB i, ltB j]) gs gs.length) a 0).toNat (by omega) (by omega) (by omega)
      rw [vis_pair _ _ hk h0 ha hb hak hbk (by omega), vis_pair _ _ hk h0 ha hb hak hbk (by omega), v1, v2, v3, edg_pair hfit hk h0 ha hb hak hbk]
      simp only [m1.2, m0.2, Bool.false_eq_true, if_false]
      omega
theorem two_cok {gs : List Rl} (hfit : fits gs = true) {i j : Nat} (hi : i < 4) (hj : j < 4) : Cok gs (seam gs i j) (fun k => at2 (visK (fun q => decide (q = 2)) (patNx [ltB i, ltB j]) gs gs.length) k 0) := by
  refine ⟨fun k a b hk h0 ha hb => ?_, fun k hk h0 => ?_⟩
  · obtain ⟨⟨a1, a2⟩, b1, b2⟩ := (ok_pair h0).1 (fits_at hfit k hk)
    have hak : a < k := by omega
    have hbk : b < k := by omega
    have m0 := two_map hfit hi hj k a 0 hak (by omega) (by omega)
    have v3 := two_vis hfit hi hj k b (at2 (mapsK (patNx [ltB i, ltB j]) gs gs.length) a 0).toNat (by omega) (by omega) (by omega)
    show at2 _ k 0 = _
    rw [vis_pair _ _ hk h0 ha hb hak hbk (by omega), v3]
    unfold seam
    rw [List.getElem?_eq_getElem hk]
    simp only [m0.2, h0, ha, hb, Int.toNat_natCast, true_and]
    omega
  · obtain ⟨c, _, hc1, hc2, hc3⟩ := letter_byte h0 (fits_at hfit k hk)
    show at2 _ k 0 = _
    rw [vis_letter _ _ hk h0 (by omega), mp_letter _ hk h0 (by omega)]
    have t2 := two_at hi hj (s := 0) (by omega) (z := ltNo gs[k]) (by omega)
    have n2 : ¬ at2 (patNx [ltB i, ltB j]) 0 (ltNo gs[k]) = 2 := fun e => t2.2.2.1 (t2.2.1.1 e).1
    rw [decide_eq_false n2, if_neg (by simp)]
    unfold seam
    rw [List.getElem?_eq_getElem hk]
    simp only [h0, false_and, if_false]
theorem getD_set {l : List Int} {a j : Nat} {v : Int} (ha : a < l.length) : (l.set a v).getD j 0 = if j = a then v else l.getD j 0 := by
  rw [List.getD_eq_getElem?_getD, List.getElem?_set, List.getD_eq_getElem?_getD]
  by_cases e : a = j
  · subst e
    rw [if_pos rfl, if_pos ha, if_pos rfl]
    rfl
  · rw [if_neg e, if_neg (fun h => e h.symm)]
theorem cok_lens {gs : List Rl} (hok : gOk gs = true) : Cok gs (fun k => match gs[k]? with | some x => if x.L.size = 0 then 0 else 1 | none => 0) (fun k => (lens gs).getD k 0) := by
  have hfit := (gOk_iff.1 hok).2.1
  refine ⟨fun k a b hk h0 ha hb => ?_, fun k hk h0 => ?_⟩
  · have := vals_pair (fun a b => a + b) gs k hk h0 (fits_at hfit k hk)
    rw [ha, hb, Int.toNat_natCast, Int.toNat_natCast] at this
    simp only [List.getElem?_eq_getElem hk, h0, if_true, Int.zero_add]
    exact this
  · simp only [List.getElem?_eq_getElem hk, h0, if_false]
    exact vals_letter (fun a b => a + b) gs k hk h0
/-- what of the uses does not change -/
theorem uses_inv {gs : List Rl} (hok : gOk gs = true) (hn : 0 < gs.length) : ∀ i, i ≤ gs.length → (∀ j, 0 ≤ (uAt gs i).getD j 0) ∧ ∀ own c, Cok gs own c → sumN (fun j => (uAt gs i).getD j 0 * (if j < gs.length - i then c j else own j)) gs.length = c (gs.length - 1)
  | 0, _ => by
    have hg : ∀ j, (uAt gs 0).getD j 0 = if j = gs.length - 1 then 1 else 0 := fun j => by
      rw [uAt, getD_set (by simp; omega)]
      split
      · rfl
      · rw [List.getD_eq_getElem?_getD, List.getElem?_replicate]
        split <;> rfl
    refine ⟨fun j => by rw [hg]; split <;> omega, fun own c _ => ?_⟩
    have h1 := sumN_one (f := fun _ => 0) (g := fun j => (uAt gs 0).getD j 0 * (if j < gs.length - 0 then c j else own j)) (a := gs.length - 1) (d := c (gs.length - 1)) (n := gs.length) (by omega) (fun j _ hj => by
      show (uAt gs 0).getD j 0 * _ = 0
      rw [hg, if_neg hj, Int.zero_mul]) (by
      show (uAt gs 0).getD _ 0 * _ = _
      rw [hg, if_pos rfl, if_pos (by omega), Int.one_mul, Int.zero_add])
    rw [h1, sumN_zero (fun _ _ => rfl), Int.zero_add]
  | i + 1, hi => by
    obtain ⟨h1, h2⟩ := uses_inv hok hn i (by omega)
    have hfit := (gOk_iff.1 hok).2.1
    obtain ⟨m, hm⟩ : ∃ m, m = gs.length - 1 - i := ⟨_, rfl⟩
    have hmg : m < gs.length := by omega
    have hmi : gs.length - i = m + 1 := by omega
    have hmi' : gs.length - (i + 1) = m := by omega
    have hu : uAt gs (i + 1) = uStep gs[m] m (uAt gs i) := by
      rw [uAt, dif_pos (by omega)]
      simp only [← hm]
    have hul := uAt_len gs i
    rw [hu, hmi']
    rw [hmi] at h2
    generalize uAt gs i = u at *
    unfold uStep
    by_cases h0 : gs[m].L.size = 0
    · rw [if_pos h0]
      obtain ⟨⟨a1, a2⟩, b1, b2⟩ := (ok_pair h0).1 (fits_at hfit m hmg)
      obtain ⟨a, ha⟩ : ∃ a : Nat, gs[m].l = a := ⟨gs[m].l.toNat, by omega⟩
      obtain ⟨b, hb⟩ : ∃ b : Nat, gs[m].r = b := ⟨gs[m].r.toNat, by omega⟩
      have ham : a < m := by omega
      have hbm : b < m := by omega
      have hbd : ∀ j, j < m + 1 → u.getD j 0 ≤ 1000000000000000 := fun j hj => by
        have hs := h2 _ _ (cok_lens hok)
        have hl := small_at (gOk_iff.1 hok).2.2 (gs.length - 1) (by omega)
        have hp : 1 ≤ (lens gs).getD j 0 := lens_pos (by omega) (fun q hq _ => fits_at hfit q hq)
        have hge := sumN_ge (f := fun j => u.getD j 0 * (if j < m + 1 then (lens gs).getD j 0 else match gs[j]? with | some x => if x.L.size = 0 then 0 else 1 | none => 0)) (a := j) (n := gs.length) (by omega) (fun q hq => by
          refine Int.mul_nonneg (h1 q) ?_
          split
          · have : 1 ≤ (lens gs).getD q 0 := lens_pos (by omega) (fun q hq _ => fits_at hfit q hq)
            omega
          · split
            · split <;> omega
            · omega)
        rw [hs] at hge
        rw [if_pos hj] at hge
        have h5 := h1 j
        have h6 : u.getD j 0 * 1 ≤ u.getD j 0 * (lens gs).getD j 0 := Int.mul_le_mul_of_nonneg_left hp h5
        omega
      have hwr : ∀ x y : Int, 0 ≤ x → x ≤ 4000000000000000 → 0 ≤ y → y ≤ 1000000000000000 → add64 x y = x + y := fun x y _ _ _ _ => by
        unfold add64
        rw [IntKind.wrap_i64]
        omega
      have e1 : add64 (u.getD a 0) (u.getD m 0) = u.getD a 0 + u.getD m 0 := hwr _ _ (h1 a) (by have := hbd a (by omega); omega) (h1 m) (hbd m (by omega))
      rw [ha, hb, Int.toNat_natCast, Int.toNat_natCast, e1]
      have e2 : ∀ j, (u.set a (u.getD a 0 + u.getD m 0)).getD j 0 = if j = a then u.getD a 0 + u.getD m 0 else u.getD j 0 := fun j => getD_set (by omega)
      have e3 : (u.set a (u.getD a 0 + u.getD m 0)).getD m 0 = u.getD m 0 := by rw [e2, if_neg (by omega)]
      have p2 : ∀ j, 0 ≤ (u.set a (u.getD a 0 + u.getD m 0)).getD j 0 := fun j => by
        rw [e2]
        have := h1 a
        have := h1 m
        split
        · omega
        · exact h1 j
      have e4 : add64 ((u.set a (u.getD a 0 + u.getD m 0)).getD b 0) (u.getD m 0) = (u.set a (u.getD a 0 + u.getD m 0)).getD b 0 + u.getD m 0 := hwr _ _ (p2 b) (by
        rw [e2]
        have := hbd a (by omega)
        have := hbd b (by omega)
        have := hbd m (by omega)
        split <;> omega) (h1 m) (hbd m (by omega))
      rw [e3, e4]
      have e5 : ∀ j, ((u.set a (u.getD a 0 + u.getD m 0)).set b ((u.set a (u.getD a 0 + u.getD m 0)).getD b 0 + u.getD m 0)).getD j 0 = if j = b then (u.set a (u.getD a 0 + u.getD m 0)).getD b 0 + u.getD m 0 else (u.set a (u.getD a 0 + u.getD m 0)).getD j 0 := fun j => getD_set (by simp; omega)
      refine ⟨fun j => by
        rw [e5]
        have := p2 b
        have := h1 m
        split
        · omega
        · exact p2 j, fun own c hc => ?_⟩
      have hs := h2 own c hc
      have hcm := hc.1 m a b hmg h0 ha hb
      have s1 := sumN_one (f := fun j => u.getD j 0 * (if j < m + 1 then c j else own j)) (g := fun j => u.getD j 0 * (if j < m then c j else own j)) (a := m) (d := u.getD m 0 * (own m - c m)) hmg (fun j _ hj => by
        show _ * _ = _ * _
        by_cases hjm : j < m
        · rw [if_pos hjm, if_pos (by omega)]
        · rw [if_neg hjm, if_neg (by omega)]) (by
        show _ * _ = _ * _ + _
        rw [if_neg (by omega), if_pos (by omega), ← Int.mul_add]
        congr 1
        omega)
      have s2 := sumN_one (f := fun j => u.getD j 0 * (if j < m then c j else own j)) (g := fun j => (u.set a (u.getD a 0 + u.getD m 0)).getD j 0 * (if j < m then c j else own j)) (a := a) (d := u.getD m 0 * c a) (n := gs.length) (by omega) (fun j _ hj => by
        show _ * _ = _ * _
        rw [e2, if_neg hj]) (by
        show _ * _ = _ * _ + _
        rw [e2, if_pos rfl, if_pos ham, Int.add_mul])
      have s3 := sumN_one (f := fun j => (u.set a (u.getD a 0 + u.getD m 0)).getD j 0 * (if j < m then c j else own j)) (g := fun j => ((u.set a (u.getD a 0 + u.getD m 0)).set b ((u.set a (u.getD a 0 + u.getD m 0)).getD b 0 + u.getD m 0)).getD j 0 * (if j < m then c j else own j)) (a := b) (d := u.getD m 0 * c b) (n := gs.length) (by omega) (fun j _ hj => by
        show _ * _ = _ * _
        rw [e5, if_neg hj]) (by
        show _ * _ = _ * _ + _
        rw [e5, if_pos rfl, if_pos hbm, Int.add_mul])
      rw [s3, s2, s1, hs]
      have : u.getD m 0 * (own m - c m) + u.getD m 0 * c a + u.getD m 0 * c b = 0 := by
        rw [← Int.mul_add, ← Int.mul_add, show own m - c m + c a + c b = 0 from by omega, Int.mul_zero]
      omega
    · rw [if_neg h0]
      refine ⟨h1, fun own c hc => ?_⟩
      rw [← h2 own c hc]
      refine sumN_congr (fun j hj => ?_)
      by_cases hjm : j < m
      · rw [if_pos hjm, if_pos (by omega)]
      · rw [if_neg hjm]
        by_cases hje : j = m
        · subst hje
          rw [if_pos (by omega), hc.2 j hmg h0]
        · rw [if_neg (by omega)]
theorem uses_pos {gs : List Rl} (hok : gOk gs = true) (j : Nat) : 0 ≤ (usesOf gs).getD j 0 := by
  by_cases h : 0 < gs.length
  · exact (uses_inv hok h gs.length (Nat.le_refl _)).1 j
  · have h0 : gs.length = 0 := by omega
    have hl := usesOf_len gs
    rw [List.getD_eq_getElem?_getD, List.getElem?_eq_none (by omega)]
    exact Int.le_refl _
theorem seam_pos (gs : List Rl) (i j k : Nat) : 0 ≤ seam gs i j k ∧ seam gs i j k ≤ 1 := by
  unfold seam
  split
  · split <;> omega
  · omega
/-- the pairs are the places of their pattern -/
theorem pairs_num {gs : List Rl} (hok : gOk gs = true) {i j : Nat} (hi : i < 4) (hj : j < 4) : prN gs i j = allV (visK (fun q => decide (q = 2)) (patNx [ltB i, ltB j]) gs gs.length) gs 0 := by
  unfold prN allV
  by_cases h : gs.length = 0
  · rw [if_pos h, h]
    rfl
  · rw [if_neg h]
    have h2 := (uses_inv hok (by omega) gs.length (Nat.le_refl _)).2 _ _ (two_cok (gOk_iff.1 hok).2.1 hi hj)
    simp only [Nat.sub_self, Nat.not_lt_zero, if_false] at h2
    exact h2
theorem pairs_bd {gs : List Rl} (hok : gOk gs = true) {i j : Nat} (hi : i < 4) (hj : j < 4) : 0 ≤ prN gs i j ∧ prN gs i j ≤ 1000000000000000 := by
  rw [pairs_num hok hi hj]
  exact all_bd _ (two_ok i j).1 (two_ok i j).2 (by decide) (by decide) hok (by omega)
end Go.Proofs.Ytaffachjopjbgaa
namespace Go.Proofs.Ytaffachjopjbgaa
open Go.RowKit
open Wd
set_option linter.unusedVariables false
namespace Wd
def edL (rt : Bool) (gs : List Rl) (k : Nat) : List Int := (List.range k).map fun j => ((edg rt gs j : Nat) : Int)
end Wd
theorem edL_len (rt : Bool) (gs : List Rl) (k : Nat) : (edL rt gs k).length = k := by simp [edL]
theorem edL_get {rt : Bool} {gs : List Rl} {k j : Nat} (h : j < k) : (edL rt gs k)[j]? = some ((edg rt gs j : Nat) : Int) := by simp [edL, h]
theorem edL_succ (rt : Bool) (gs : List Rl) (k : Nat) : edL rt gs (k + 1) = edL rt gs k ++ [((edg rt gs k : Nat) : Int)] := by simp [edL, List.range_succ]
theorem ed_snoc (xs : List Int) (z : Int) : iv (xs ++ [z]) = iv xs ++ [.int .i64 z] := by simp [iv]
/-- two rows of numbers that the call owns, in two blocks -/
structure Two (w : World) (f l : Value) (m n : Nat) (xs ys : List Int) (wr : World) : Prop where
  of : wr.ownsRow w.heap.size 2 1 f m (iv xs)
  ol : wr.ownsRow w.heap.size 2 1 l n (iv ys)
  ne : ∀ q, Value.ownBlock f = some q → Value.ownBlock l ≠ some q
  below : Below w.heap.size w wr
theorem Two.symm {w wr : World} {f l : Value} {m n : Nat} {xs ys : List Int} (h : Two w f l m n xs ys wr) : Two w l f n m ys xs wr := ⟨h.ol, h.of, fun q h1 h2 => h.ne q h2 h1, h.below⟩
theorem Two.kept {w wr w' : World} {f l : Value} {m n : Nat} {xs ys : List Int} (h : Two w f l m n xs ys wr) (hb : Below wr.heap.size wr w') : Two w f l m n xs ys w' :=
  ⟨own_below h.of hb (Nat.le_refl _), own_below h.ol hb (Nat.le_refl _), h.ne, h.below.trans (hb.mono h.below.size)⟩
theorem Two.step {w wr w1 : World} {f l f' : Value} {m n m' : Nat} {xs ys xs' : List Int} (h : Two w f l m n xs ys wr) (hf : w1.ownsRow w.heap.size 2 1 f' m' (iv xs')) (hg : wr.grownBy w1 f.ownBlock) (hat : f'.ownBlock = f.ownBlock ∨ f'.ownBlock = some wr.heap.size) : Two w f' l m' n xs' ys w1 := by
  refine ⟨hf, World.ownsRow.kept h.ol hg ?_, fun q h1 h2 => ?_, h.below.trans ⟨hg.os, hg.tape, hg.output, hg.size, fun k hk => hg.block k (Nat.lt_of_lt_of_le hk h.below.size) (fun e => ?_)⟩⟩
  · cases e : l.ownBlock with
    | none => exact .inl rfl
    | some q => exact .inr (fun e' => h.ne q e'.symm e)
  · rcases hat with e | e
    · exact h.ne q (e ▸ h1) h2
    · have h3 := (h.ol.lt q h2).2
      rw [e] at h1
      injection h1 with h1
      omega
  · have := (h.of.lt k e.symm).1
    omega
theorem rule3_cellsE {w : World} {R : Nat} {t : TypeId} {a b c : Value} (h : w.heap[R]? = some (.cells #[a, b, c] t (0, 0))) :
    w.cell? ⟨R, 0, none⟩ = some a ∧ w.cell? ⟨R, 1, none⟩ = some b ∧ w.cell? ⟨R, 2, none⟩ = some c := by
  have key : ∀ o, w.cell? ⟨R, o, none⟩ = (#[a, b, c] : Array Value)[o]? := fun o => by simp [World.cell?, h]
  exact ⟨by rw [key]; rfl, by rw [key]; rfl, by rw [key]; rfl⟩
set_option maxRecDepth 100000 in
set_option maxHeartbeats 6400000 in
theorem l05Edges_any (pg : Nat) (gs : List Rl) (w : World) (hok : gOk gs = true) (hg : GP w pg gs) :
    Calls Try.prog 172 #[.pointer (some ⟨pg, 0, none⟩)] w fun e w' => ∃ f l, e = .returned (.tuple #[f, l]) ∧ OwnsI w' w.heap.size f (edL false gs gs.length) ∧ OwnsI w' w.heap.size l (edL true gs gs.length) ∧ Below w.heap.size w w' := by
  obtain ⟨i0, hi, hz0, hz1, hz2⟩ := info_parts Try.info_i64
  obtain ⟨gv, hgv, A, c, rfl, hr⟩ := hg
  have hn := gOk_len hok
  have hfit := (gOk_iff.1 hok).2.1
  obtain ⟨n, hng⟩ : ∃ n, n = gs.length := ⟨_, rfl⟩
  rw [← hng] at hn hgv
  have HN := Lib.hid hng
  have HV := Lib.hid hgv
  have HR := Lib.hid hr
  have HF := Lib.hid hfit
  clear hng hr hok hfit
  have HST : Hid (Two w (.slice (some ⟨w.heap.size, 0, none⟩) 0 0) (.slice (some ⟨w.heap.size + 1, 0, none⟩) 0 0) 0 0 (edL false gs 0) (edL true gs 0) ((w.alloc (.cells #[] 2)).alloc (.cells #[] 2))) := Lib.hid (by
    have o1 := World.ownsRow_lit (base := w.heap.size) (e := 2) (size := 1) w #[] 0 (Nat.le_refl _) (by decide) rfl
    have b1 := (Below.refl _ w).alloc (Nat.le_refl _) (.cells #[] 2)
    have o2 := World.ownsRow_lit (base := w.heap.size) (e := 2) (size := 1) (w.alloc (.cells #[] 2)) #[] 0 b1.size (by decide) rfl
    have e : (w.alloc (.cells #[] 2)).heap.size = w.heap.size + 1 := by simp
    rw [e] at o2
    exact ⟨World.ownsRow.alloc o1 _, o2, fun q h1 h2 => by
      simp only [Value.ownBlock, Option.some.injEq] at h1 h2
      omega, b1.alloc b1.size _⟩)
  go_enter Try.func172, Try.ntmps172
  go_wp2_with fail
  go_loopw [4, 5, 6] (fun f l i wr => ∃ k : Nat, k ≤ n ∧ i = .int .i64 k ∧ Two w f l k k (edL false gs k) (edL true gs k) wr) (fun _ _ i _ => n - (intOf i).toNat)
  case atStart => exact ⟨0, Nat.zero_le _, rfl, HST.out⟩
  case round =>
    obtain ⟨k, hk, rfl, hst⟩ := hrel
    obtain ⟨wo, rfl⟩ : ∃ wo : World, wo = wr := ⟨_, rfl⟩
    have hgo := (hst.below.cell (lt_of_cell HV.out)).trans HV.out
    obtain ⟨Af, cf, hAf⟩ := own_slice hst.of
    obtain ⟨Al, cl, hAl⟩ := own_slice hst.ol
    subst hAf hAl
    have HS := Lib.hid hst
    clear hgv
    by_cases hkn : k < n
    · have hkg : k < gs.length := by rw [← HN.out]; exact hkn
      rcases HR.out with hn0 | ⟨g, rfl, hg, hc⟩
      · rw [hn0] at hkg; simp at hkg
      obtain ⟨a0, a1, a2⟩ := rules_cells hc hkg
      rw [← hst.below.cell (p := ⟨g, k * 3, none⟩) hg] at a0
      rw [← hst.below.cell (p := ⟨g, k * 3 + 1, none⟩) hg] at a1
      rw [← hst.below.cell (p := ⟨g, k * 3 + 2, none⟩) hg] at a2
      have hfk := fits_at HF.out k hkg
      have HFK := Lib.hid hfk
      have k0 : (0 : Int) ≤ (k : Int) := by omega
      have k1 : (k : Int) < (n : Int) := by omega
      by_cases h0 : gs[k].L.size = 0
      · have hp := (ok_pair h0).1 hfk
        have he := empty_arr h0
        obtain ⟨a, ha⟩ : ∃ a : Nat, gs[k].l = a := ⟨gs[k].l.toNat, by omega⟩
        obtain ⟨b, hb⟩ : ∃ b : Nat, gs[k].r = b := ⟨gs[k].r.toNat, by omega⟩
        have hak : a < k := by omega
        have hbk : b < k := by omega
        have HEF : Hid (edL false gs (k + 1) = edL false gs k ++ [((edg false gs a : Nat) : Int)]) := Lib.hid (by rw [edL_succ, edg_pair HF.out hkg h0 ha hb hak hbk]; rfl)
        have HEL : Hid (edL true gs (k + 1) = edL true gs k ++ [((edg true gs b : Nat) : Int)]) := Lib.hid (by rw [edL_succ, edg_pair HF.out hkg h0 ha hb hak hbk]; rfl)
        rw [he] at a0
        rw [ha] at a1
        rw [hb] at a2
        rcases own_addr hst.of (by omega) with ⟨gf, hgf, _, _⟩
        rcases own_addr hst.ol (by omega) with ⟨gl, hgl, _, _⟩
        subst hgf hgl
        have hb7 := (Below.refl _ wo).alloc (Nat.le_refl _) (.cells #[.string ⟨#[]⟩, .int .i64 (a : Int), .int .i64 (b : Int)] 127)
        have HS7 := Lib.hid (hst.kept hb7)
        have hK7 := heap_alloc_new wo (.cells #[.string ⟨#[]⟩, .int .i64 (a : Int), .int .i64 (b : Int)] 127)
        have hKf : gf ≠ wo.heap.size := fun e => by have := (hst.of.lt gf rfl).2; omega
        have hKl : gl ≠ wo.heap.size := fun e => by have := (hst.ol.lt gl rfl).2; omega
        generalize gs[k] = x at *
        obtain ⟨L, l, r⟩ := x
        simp only at he ha hb a0 a1 a2
        clear h0 hp hfk hst hc hb7
        go_upto_region 7 with fail
        obtain ⟨Kp, hKp⟩ : ∃ Kp, Kp = wo.heap.size := ⟨_, rfl⟩
        rw [← hKp] at hK7 hKf hKl ⊢
        generalize wo.alloc (.cells #[.string ⟨#[]⟩, .int .i64 (a : Int), .int .i64 (b : Int)] 127) = w7 at *
        obtain ⟨c0, c1, c2⟩ := rule3_cellsE hK7
        have HK7 := Lib.hid hK7
        have HSZ := Lib.hid HS7.out.below.size
        have a0' : (0 : Int) ≤ (a : Int) := by omega
        have a1' : (a : Int) < (k : Int) := by omega
        have b0' : (0 : Int) ≤ (b : Int) := by omega
        have b1' : (b : Int) < (k : Int) := by omega
        have o1 : w7.cell? ⟨gf, a, none⟩ = some (.int .i64 ((edg false gs a : Nat) : Int)) := by
          have := HS7.out.of.cellAt a (by omega)
          rw [this, iv, List.getElem?_map, edL_get hak]; rfl
        generalize edg false gs a = za at *
        obtain ⟨zb, hzb⟩ : ∃ zb, zb = edg true gs b := ⟨_, rfl⟩
        have HZB := Lib.hid hzb.symm
        clear hzb
        clear hKp hK7 hgo
        go_wp2_with (first | (at_builtin; refine wpList_append_own_at _ rfl _ _ 22 rfl w.heap.size 2 i0 (.int .i64 0) 1 8 Try.underlying22 hi hz0 hz1 hz2 rfl (by decide) _ _ _ rfl (World.ownsRow.alloc HS7.out.of _) ⟨w7.heap.size, 0, none⟩ 1 1 [.int .i64 (za : Int)] rfl rfl (one_new _ _ _) (one_int _ _) (by unfold maxLen; omega) (by omega) (base_alloc HSZ.out _) ?_))
        intro f' w8 hf8 hg8 _ hat8
        have HS8 : Hid (Two w f' (.slice (some ⟨gl, 0, none⟩) k cl) (k + 1) k (edL false gs (k + 1)) (edL true gs k) w8) := Lib.hid (Two.step (HS7.out.kept ((Below.refl _ w7).alloc (Nat.le_refl _) _)) (by rw [HEF.out, ed_snoc]; exact hf8) hg8 (by simpa using hat8))
        have hK8 : w8.heap[Kp]? = some (.cells #[.string ⟨#[]⟩, .int .i64 (a : Int), .int .i64 (b : Int)] 127 (0, 0)) := (hg8.block Kp (by have := (Array.getElem?_eq_some_iff.1 HK7.out).1; simp; omega) (fun e => hKf (by simpa [Value.ownBlock] using e.symm))).trans (by
          have := (Array.getElem?_eq_some_iff.1 HK7.out).1
          exact (((Below.refl _ w7).alloc (Nat.le_refl _) _).block Kp this).trans HK7.out)
        obtain ⟨d0, d1, d2⟩ := rule3_cellsE hK8
        have HSZ8 := Lib.hid HS8.out.below.size
        have o2 : w8.cell? ⟨gl, b, none⟩ = some (.int .i64 (zb : Int)) := by
          have := HS8.out.ol.cellAt b (by omega)
          rw [this, iv, List.getElem?_map, edL_get hbk, HZB.out]; rfl
        clear hf8 hg8 hat8 hK8 c0 c1 c2 o1
        go_wp2_with (first | (at_builtin; refine wpList_append_own_at _ rfl _ _ 22 rfl w.heap.size 2 i0 (.int .i64 0) 1 8 Try.underlying22 hi hz0 hz1 hz2 rfl (by decide) _ _ _ rfl (World.ownsRow.alloc HS8.out.ol _) ⟨w8.heap.size, 0, none⟩ 1 1 [.int .i64 (zb : Int)] rfl rfl (one_new _ _ _) (one_int _ _) (by unfold maxLen; omega) (by omega) (base_alloc HSZ8.out _) ?_))
        intro l' w9 hl9 hg9 _ hat9
        have HS9 : Hid (Two w f' l' (k + 1) (k + 1) (edL false gs (k + 1)) (edL true gs (k + 1)) w9) := Lib.hid (Two.step (HS8.out.kept ((Below.refl _ w8).alloc (Nat.le_refl _) _)).symm (by rw [HEL.out, ed_snoc, HZB.out]; exact hl9) hg9 (by simpa using hat9)).symm
        clear hl9 hg9 hat9 d0 d1 d2 o2
        go_wp2_with fail
        go_roundw
        case rel => exact ⟨k + 1, by omega, by go_num, HS9.out⟩
        case measure => simp [intOf]; omega
      · obtain ⟨c1, hL, hc1, hc2, hc3⟩ := letter_byte h0 hfk
        have he := full_list h0
        obtain ⟨d, hd⟩ : ∃ d, d = ltNo gs[k] := ⟨_, rfl⟩
        have hd4 : d < 4 := by omega
        have hd1 : c1.toNat = 97 + d := by omega
        have HEF : Hid (edL false gs (k + 1) = edL false gs k ++ [(d : Int)]) := Lib.hid (by rw [edL_succ, edg_letter hkg h0, hd])
        have HEL : Hid (edL true gs (k + 1) = edL true gs k ++ [(d : Int)]) := Lib.hid (by rw [edL_succ, edg_letter hkg h0, hd])
        have HLT : Hid (∀ W, Calls Try.prog 160 #[.int .u8 ((((⟨#[c1]⟩ : ByteArray)[0]'(Nat.zero_lt_one)).toNat : Nat) : Int)] W fun e w' => e = .returned (.int .i64 (d : Int)) ∧ w' = W) := Lib.hid (fun W => by
          show Calls Try.prog 160 #[.int .u8 ((c1.toNat : Nat) : Int)] W _
          rw [hd1]
          exact letterN_any d hd4 W)
        generalize gs[k] = x at *
        obtain ⟨L, l, r⟩ := x
        simp only at hL a0 a1 a2
        subst hL
        have hb7 := (Below.refl _ wo).alloc (Nat.le_refl _) (.cells #[.string ⟨#[c1]⟩, .int .i64 l, .int .i64 r] 127)
        have HS7 := Lib.hid (hst.kept hb7)
        have hK7 := heap_alloc_new wo (.cells #[.string ⟨#[c1]⟩, .int .i64 l, .int .i64 r] 127)
        have hKf : (Value.slice Af k cf).ownBlock ≠ some wo.heap.size := fun e => by have := (hst.of.lt _ e).2; omega
        clear hfk hst hc hb7 hd hc3
        go_upto_region 7 with fail
        obtain ⟨Kp, hKp⟩ : ∃ Kp, Kp = wo.heap.size := ⟨_, rfl⟩
        rw [← hKp] at hK7 hKf ⊢
        generalize wo.alloc (.cells #[.string ⟨#[c1]⟩, .int .i64 l, .int .i64 r] 127) = w7 at *
        have e0 := (rule3_cellsE hK7).1
        have HK7 := Lib.hid hK7
        have HSZ := Lib.hid HS7.out.below.size
        clear hKp hK7 hgo a0 a1 a2
        go_wp2_with fail
        refine (HLT.out _).mono ?_
        rintro e wx ⟨rfl, hwx⟩
        subst hwx
        go_wp2_with (first | (at_builtin; refine wpList_append_own_at _ rfl _ _ 22 rfl w.heap.size 2 i0 (.int .i64 0) 1 8 Try.underlying22 hi hz0 hz1 hz2 rfl (by decide) _ _ _ rfl (World.ownsRow.alloc HS7.out.of _) ⟨wx.heap.size, 0, none⟩ 1 1 [.int .i64 (d : Int)] rfl rfl (one_new _ _ _) (one_int _ _) (by unfold maxLen; omega) (by omega) (base_alloc HSZ.out _) ?_))
        intro f' w8 hf8 hg8 _ hat8
        have HS8 : Hid (Two w f' (.slice Al k cl) (k + 1) k (edL false gs (k + 1)) (edL true gs k) w8) := Lib.hid (Two.step (HS7.out.kept ((Below.refl _ wx).alloc (Nat.le_refl _) _)) (by rw [HEF.out, ed_snoc]; exact hf8) hg8 (by simpa using hat8))
        have hK8 : w8.heap[Kp]? = some (.cells #[.string ⟨#[c1]⟩, .int .i64 l, .int .i64 r] 127 (0, 0)) := (hg8.block Kp (by have := (Array.getElem?_eq_some_iff.1 HK7.out).1; simp; omega) (fun e => hKf e.symm)).trans (by
          have := (Array.getElem?_eq_some_iff.1 HK7.out).1
          exact (((Below.refl _ wx).alloc (Nat.le_refl _) _).block Kp this).trans HK7.out)
        have e1 := (rule3_cellsE hK8).1
        have HSZ8 := Lib.hid HS8.out.below.size
        clear hf8 hg8 hat8 hK8 e0
        go_wp2_with fail
        refine (HLT.out _).mono ?_
        rintro e wy ⟨rfl, hwy⟩
        subst hwy
        go_wp2_with (first | (at_builtin; refine wpList_append_own_at _ rfl _ _ 22 rfl w.heap.size 2 i0 (.int .i64 0) 1 8 Try.underlying22 hi hz0 hz1 hz2 rfl (by decide) _ _ _ rfl (World.ownsRow.alloc HS8.out.ol _) ⟨wy.heap.size, 0, none⟩ 1 1 [.int .i64 (d : Int)] rfl rfl (one_new _ _ _) (one_int _ _) (by unfold maxLen; omega) (by omega) (base_alloc HSZ8.out _) ?_))
        intro l' w9 hl9 hg9 _ hat9
        have HS9 : Hid (Two w f' l' (k + 1) (k + 1) (edL false gs (k + 1)) (edL true gs (k + 1)) w9) := Lib.hid (Two.step (HS8.out.kept ((Below.refl _ wy).alloc (Nat.le_refl _) _)).symm (by rw [HEL.out, ed_snoc]; exact hl9) hg9 (by simpa using hat9)).symm
        clear hl9 hg9 hat9 e1
        go_wp2_with fail
        go_roundw
        case rel => exact ⟨k + 1, by omega, by go_num, HS9.out⟩
        case measure => simp [intOf]; omega
    · have HKE : Hid (k = gs.length) := Lib.hid (by have := HN.out; omega)
      have k1 : ¬ ((k : Int) < (n : Int)) := by omega
      clear hkn hk hst
      go_wp2_with fail
      go_ret2
      refine ⟨_, _, rfl, ?_, ?_, HS.out.below⟩
      · unfold OwnsI; rw [edL_len, ← HKE.out]; exact HS.out.of
      · unfold OwnsI; rw [edL_len, ← HKE.out]; exact HS.out.ol
end Go.Proofs.Ytaffachjopjbgaa
namespace Go.Proofs.Ytaffachjopjbgaa
open Go.RowKit
open Wd
set_option linter.unusedVariables false

/-- what holds between two rounds -/
def URel (gs : List Rl) (w : World) (i : Value) (wr : World) : Prop :=
  ∃ (m : Nat) (v : Int), i = .int .i64 v ∧ v + 1 = m ∧ m ≤ gs.length ∧ wr.ownsRow w.heap.size 2 1 (.slice (some ⟨w.heap.size, 0, none⟩) gs.length gs.length) gs.length (iv (uAt gs (gs.length - m))) ∧ Below w.heap.size w wr


set_option maxRecDepth 100000 in
set_option maxHeartbeats 6400000 in
theorem specUses (p : Nat) (gs : List Rl) (w : World) (hok : gOk gs = true) (hf : FewR gs) (h : GP w p gs) :
    Calls Try.prog 171 #[.pointer (some ⟨p, 0, none⟩)] w fun e w' => ∃ x, e = .returned x ∧ OwnsI w' w.heap.size x (usesOf gs) ∧ Below w.heap.size w w' := by
  obtain ⟨i0, hi, hz0, hz1, hz2⟩ := info_parts Try.info_i64
  obtain ⟨v, hv, A, c, rfl, hr⟩ := h
  have hn := gOk_len hok
  have hfit := (gOk_iff.1 hok).2.1
  obtain ⟨n, hng⟩ : ∃ n, n = gs.length := ⟨_, rfl⟩
  rw [← hng] at hn hv
  have HN := Lib.hid hng
  have HV := Lib.hid hv
  have HR := Lib.hid hr
  have HF := Lib.hid hfit
  have lp := lt_of_cell hv
  clear hng hr hf hok hfit
  go_enter Try.func171, Try.ntmps171
  go_wp2_with (refine wpList_make_full _ rfl _ _ 22 rfl w.heap.size 2 i0 (.int .i64 0) 1 Try.underlying22 hi hz0 hz1 .i64 .i64 _ _ n rfl rfl rfl rfl (by rw [hz2]; omega) (by unfold maxLen; omega) (Nat.le_refl _) ?_)
  intro w1 hown hg
  rw [made_i64] at hown
  have hB1 : Below w.heap.size w w1 := below_of_grown hg
  have hv1 : w1.cell? ⟨p, 0, none⟩ = some (.slice A n c) := (hB1.cell (p := ⟨p, 0, none⟩) lp).trans hv
  by_cases h0 : n = 0
  · have hst : URel gs w (.int .i64 (-1)) w1 := ⟨0, -1, rfl, by omega, Nat.zero_le _, by
      have hg0 : gs = [] := List.eq_nil_of_length_eq_zero (by rw [← HN.out]; exact h0)
      subst h0; subst hg0; simpa [uAt] using hown, hB1⟩
    have HST := Lib.hid hst
    subst h0
    clear hown hg hB1 hst hv
    go_wp2_with fail
    go_loopw [4] (fun i wr => URel gs w i wr) (fun i _ => ((intOf i) + 1).toNat)
    case atStart => exact HST.out
    case round =>
      obtain ⟨m, v, rfl, hvm, hm, hown, hB⟩ := hrel
      have hm0 : m = 0 := by have := HN.out; omega
      subst hm0
      obtain rfl : v = -1 := by omega
      have HO : Hid (OwnsI wr w.heap.size (.slice (some ⟨w.heap.size, 0, none⟩) 0 0) (usesOf gs)) := Lib.hid (by
        unfold OwnsI
        rw [usesOf_len, ← HN.out]
        rw [← HN.out] at hown
        unfold usesOf
        rw [← HN.out]
        exact hown)
      clear hown
      go_wp2_with fail
      go_ret
      exact ⟨_, rfl, HO.out, hB⟩
  · obtain ⟨n', rfl⟩ : ∃ n', n = n' + 1 := ⟨n - 1, by omega⟩
    have hst : URel gs w (.int .i64 (n' : Int)) (w1.setCell ⟨w.heap.size, n', none⟩ (.int .i64 1)) := ⟨n' + 1, n', rfl, rfl, by rw [← HN.out]; exact Nat.le_refl _, by
      have h2 := u_store hown n' 1
      rw [← HN.out, Nat.sub_self, uAt, ← HN.out, Nat.add_sub_cancel]
      exact h2, hB1.setCell (Nat.le_refl _) _⟩
    have hcs : w1.cell? ⟨w.heap.size, n', none⟩ = some (.int .i64 0) := by
      rw [hown.cellAt n' (by omega), iv_atU (by simp)]; simp
    have hfs : w1.frozen? ⟨w.heap.size, n', none⟩ = false := hown.frozenAt _
    have hv2 : (w1.setCell ⟨w.heap.size, n', none⟩ (.int .i64 1)).cell? ⟨p, 0, none⟩ = some (.slice A (n' + 1) c) := by
      rw [World.cell?_setCell_other _ _ _ _ (fun e => by have := congrArg Addr.block e; simp only at this lp; omega)]; exact hv1
    have HST := Lib.hid hst
    clear hown hg hB1 hst hv
    go_wp2_with fail
    go_loopw [4] (fun i wr => URel gs w i wr) (fun i _ => ((intOf i) + 1).toNat)
    case atStart => exact HST.out
    case round =>
      obtain ⟨m, v, rfl, hvm, hm, hown, hB⟩ := hrel
      obtain ⟨wo, rfl⟩ : ∃ wo : World, wo = wr := ⟨_, rfl⟩
      have hv' : wo.cell? ⟨p, 0, none⟩ = some (.slice A (n' + 1) c) := (hB.cell (p := ⟨p, 0, none⟩) lp).trans HV.out
      rw [← HN.out] at hown hm
      by_cases hm0 : m = 0
      · subst hm0
        obtain rfl : v = -1 := by omega
        have HO : Hid (OwnsI wo w.heap.size (.slice (some ⟨w.heap.size, 0, none⟩) (n' + 1) (n' + 1)) (usesOf gs)) := Lib.hid (by
          unfold OwnsI
          rw [usesOf_len, ← HN.out]
          unfold usesOf
          rw [← HN.out]
          exact hown)
        clear hown
        go_wp2_with fail
        go_ret
        exact ⟨_, rfl, HO.out, hB⟩
      · obtain ⟨k, rfl⟩ : ∃ k, m = k + 1 := ⟨m - 1, by omega⟩
        obtain rfl : v = (k : Int) := by omega
        have hkg : k < gs.length := by rw [← HN.out]; omega
        have hkn : k < n' + 1 := by omega
        rcases HR.out with hn | ⟨g, rfl, hg, hc⟩
        · rw [hn] at hkg; simp at hkg
        obtain ⟨a0, a1, a2⟩ := rules_cells hc hkg
        rw [← hB.cell (p := ⟨g, k * 3, none⟩) hg] at a0
        rw [← hB.cell (p := ⟨g, k * 3 + 1, none⟩) hg] at a1
        rw [← hB.cell (p := ⟨g, k * 3 + 2, none⟩) hg] at a2
        have hnx := uAt_next gs k hkg
        have hul : (uAt gs (gs.length - (k + 1))).length = n' + 1 := by rw [uAt_len, HN.out]
        rw [← HN.out] at hnx hul
        generalize uAt gs (n' + 1 - (k + 1)) = u at *
        clear hc
        by_cases h0 : gs[k].L.size = 0
        · have he := empty_arr h0
          rw [he] at a0
          obtain ⟨⟨q1, q2⟩, q3, q4⟩ := (ok_pair h0).1 (fits_at HF.out k hkg)
          obtain ⟨a, ha⟩ : ∃ a : Nat, gs[k].l = a := ⟨gs[k].l.toNat, by omega⟩
          obtain ⟨b, hb⟩ : ∃ b : Nat, gs[k].r = b := ⟨gs[k].r.toNat, by omega⟩
          rw [ha] at a1 q2
          rw [hb] at a2 q4
          unfold uStep at hnx
          rw [if_pos h0, ha, hb, Int.toNat_natCast, Int.toNat_natCast] at hnx
          have hak : a < n' + 1 := by omega
          have hbk : b < n' + 1 := by omega
          have o1 : wo.cell? ⟨w.heap.size, a, none⟩ = some (.int .i64 (u.getD a 0)) := by rw [hown.cellAt a (by omega)]; exact iv_atU (by omega)
          have o2 : wo.cell? ⟨w.heap.size, k, none⟩ = some (.int .i64 (u.getD k 0)) := by rw [hown.cellAt k (by omega)]; exact iv_atU (by omega)
          have f1 : wo.frozen? ⟨w.heap.size, a, none⟩ = false := hown.frozenAt _
          obtain ⟨z, hz⟩ : ∃ z, z = add64 (u.getD a 0) (u.getD k 0) := ⟨_, rfl⟩
          have hw : IntKind.i64.wrap (u.getD a 0 + u.getD k 0) = z := hz.symm
          have own2 := u_store hown a z
          rw [← hz] at hnx
          have hB2 := hB.setCell (p := ⟨w.heap.size, a, none⟩) (Nat.le_refl _) (.int .i64 z)
          have b1 := (hB2.cell (p := ⟨g, k * 3 + 2, none⟩) hg).trans ((hB.cell (p := ⟨g, k * 3 + 2, none⟩) hg).symm.trans a2)
          have b2 := (hB2.cell (p := ⟨p, 0, none⟩) lp).trans HV.out
          have HNX := Lib.hid hnx
          have HB2 := Lib.hid hB2
          have HO2 := Lib.hid own2
          have HUL := Lib.hid hul
          generalize u.getD a 0 = x1 at *
          generalize u.getD k 0 = x2 at *
          have q0 : 0 ≤ (a : Int) := by omega
          have q5 : (a : Int) < (n' : Int) + 1 := by omega
          have q6 : 0 ≤ (k : Int) := by omega
          have q7 : (k : Int) < (n' : Int) + 1 := by omega
          have q8 : 0 ≤ (b : Int) := by omega
          have q9 : (b : Int) < (n' : Int) + 1 := by omega
          have HBR := Lib.hid b1
          have HBP := Lib.hid b2
          clear hnx hB2 own2 hul he h0 ha hb hz hown hB hm q1 q2 q3 q4 b1 b2
          go_wp2_with fail
          go_still_tail 17, (by kernel_rfl)
          change wpList _ _ _ _ _ wo.drew
          go_wp2_with fail
          have own3 : ((wo.setCell ⟨w.heap.size, a, none⟩ (.int .i64 z)).drew).ownsRow w.heap.size 2 1 (.slice (some ⟨w.heap.size, 0, none⟩) (n' + 1) (n' + 1)) (n' + 1) (iv (u.set a z)) := HO2.out
          have r2 : ((wo.setCell ⟨w.heap.size, a, none⟩ (.int .i64 z)).drew).cell? ⟨g, k * 3 + 2, none⟩ = some (.int .i64 b) := HBR.out
          have rp : ((wo.setCell ⟨w.heap.size, a, none⟩ (.int .i64 z)).drew).cell? ⟨p, 0, none⟩ = some (.slice (some ⟨g, 0, none⟩) (n' + 1) c) := HBP.out
          have hB3 : Below w.heap.size w ((wo.setCell ⟨w.heap.size, a, none⟩ (.int .i64 z)).drew) := HB2.out.drew
          generalize (wo.setCell ⟨w.heap.size, a, none⟩ (.int .i64 z)).drew = w5 at own3 r2 rp hB3 ⊢
          clear o1 o2 f1 hw
          have hul3 : (u.set a z).length = n' + 1 := by rw [List.length_set]; exact HUL.out
          generalize u.set a z = u3 at own3 hul3 HNX
          have o3 : w5.cell? ⟨w.heap.size, b, none⟩ = some (.int .i64 (u3.getD b 0)) := by rw [own3.cellAt b (by omega)]; exact iv_atU (by omega)
          have o4 : w5.cell? ⟨w.heap.size, k, none⟩ = some (.int .i64 (u3.getD k 0)) := by rw [own3.cellAt k (by omega)]; exact iv_atU (by omega)
          have f3 : w5.frozen? ⟨w.heap.size, b, none⟩ = false := own3.frozenAt _
          obtain ⟨y, hy⟩ : ∃ y, y = add64 (u3.getD b 0) (u3.getD k 0) := ⟨_, rfl⟩
          have hw3 : IntKind.i64.wrap (u3.getD b 0 + u3.getD k 0) = y := hy.symm
          rw [← hy] at HNX
          have HST2 : Hid (URel gs w (.int .i64 ((k : Int) - 1)) ((w5.drew).setCell ⟨w.heap.size, b, none⟩ (.int .i64 y))) := Lib.hid ⟨k, (k : Int) - 1, rfl, by omega, by omega, by
            rw [← HN.out, HNX.out]
            have h6 : (w5.drew).ownsRow w.heap.size 2 1 (.slice (some ⟨w.heap.size, 0, none⟩) (n' + 1) (n' + 1)) (n' + 1) (iv u3) := own3
            exact u_store h6 b y, hB3.drew.setCell (Nat.le_refl _) _⟩
          generalize u3.getD b 0 = y1 at *
          generalize u3.getD k 0 = y2 at *
          clear own3 hy hB3 hul3 HNX
          go_wp2_with fail
          go_still_tail 17, (by kernel_rfl)
          change wpList _ _ _ _ _ w5.drew
          go_wp2_with fail
          go_roundw
          case rel => first | exact HST2.out | ((repeat apply Exists.intro); exact ⟨HST2.out, rfl⟩)
          case measure => simp [intOf] <;> omega
        · have he := full_list h0
          unfold uStep at hnx
          rw [if_neg h0] at hnx
          have HST2 : Hid (URel gs w (.int .i64 ((k : Int) - 1)) wo) := Lib.hid ⟨k, (k : Int) - 1, rfl, by omega, by omega, by rw [← HN.out, hnx]; exact hown, hB⟩
          clear hnx hown hB h0 hul hm
          go_wp2_with fail
          go_roundw
          case rel => first | exact HST2.out | ((repeat apply Exists.intro); exact ⟨HST2.out, rfl⟩)
          case measure => simp [intOf] <;> omega
end Go.Proofs.Ytaffachjopjbgaa
namespace Go.Proofs.Ytaffachjopjbgaa
open Go.RowKit
open Wd
set_option linter.unusedVariables false
namespace Wd
/-- the pairs of the first rules -/
def prT (gs : List Rl) (r : Nat) (i j : Nat) : Int := sumN (fun q => (usesOf gs).getD q 0 * seam gs i j q) r
end Wd
theorem prT_all (gs : List Rl) : prT gs gs.length = prN gs := rfl
theorem prT_zero (gs : List Rl) : prT gs 0 = fun _ _ => 0 := rfl
theorem prT_letter {gs : List Rl} {r : Nat} (hr : r < gs.length) (h0 : gs[r].L.size ≠ 0) : prT gs (r + 1) = prT gs r := by
  funext i j
  unfold prT
  rw [sumN]
  have : seam gs i j r = 0 := by
    unfold seam
    rw [List.getElem?_eq_getElem hr]
    simp only [h0, false_and, if_false]
  rw [this, Int.mul_zero, Int.add_zero]
theorem prT_pair {gs : List Rl} {r a b : Nat} (hr : r < gs.length) (h0 : gs[r].L.size = 0) (ha : gs[r].l = a) (hb : gs[r].r = b) : prT gs (r + 1) = upd2 (prT gs r) (edg true gs a) (edg false gs b) ((usesOf gs).getD r 0) := by
  funext i j
  unfold prT upd2
  simp only [sumN]
  have : seam gs i j r = if i = edg true gs a ∧ j = edg false gs b then 1 else 0 := by
    unfold seam
    rw [List.getElem?_eq_getElem hr]
    simp only [h0, true_and, ha, hb, Int.toNat_natCast]
    by_cases h : i = edg true gs a ∧ j = edg false gs b
    · rw [if_pos h, if_pos ⟨h.1.symm, h.2.symm⟩]
    · rw [if_neg h, if_neg (fun h' => h ⟨h'.1.symm, h'.2.symm⟩)]
  rw [this]
  split
  · rw [Int.mul_one]
  · rw [Int.mul_zero, Int.add_zero]
theorem sumN_mono {f : Nat → Int} (h : ∀ i, 0 ≤ f i) {m : Nat} : ∀ {n}, m ≤ n → sumN f m ≤ sumN f n
  | 0, hm => by obtain rfl : m = 0 := by omega
                exact Int.le_refl _
  | n + 1, hm => by
    by_cases e : m = n + 1
    · subst e; exact Int.le_refl _
    · have := sumN_mono h (m := m) (n := n) (by omega)
      have := h n
      rw [sumN]
      omega
theorem prT_bd {gs : List Rl} (hok : gOk gs = true) {r i j : Nat} (hr : r ≤ gs.length) (hi : i < 4) (hj : j < 4) : 0 ≤ prT gs r i j ∧ prT gs r i j ≤ 1000000000000000 := by
  have hp : ∀ q, 0 ≤ (usesOf gs).getD q 0 * seam gs i j q := fun q => Int.mul_nonneg (uses_pos hok q) (seam_pos gs i j q).1
  exact ⟨sumN_pos (fun q _ => hp q), Int.le_trans (sumN_mono hp hr) (pairs_bd hok hi hj).2⟩
/-- a table of counts that the call owns -/
theorem tab_row {wr : World} {B : Nat} {y : Value} {U : List Value} {n N : Nat} {u : Nat → Nat → Int} (h : OwnM wr B y U (rowsF u n N)) (hN : 0 < N) {a : Nat} (ha : a < n) :
    ∃ ga ca, U[a]? = some (.slice (some ⟨ga, 0, none⟩) N ca) ∧ B ≤ ga ∧ ga < wr.heap.size ∧ (∀ t, t < N → wr.cell? ⟨ga, t, none⟩ = some (.int .i64 (u a t))) ∧ (∀ t, wr.frozen? ⟨ga, t, none⟩ = false) ∧
      ∀ t d, t < N → OwnM (wr.setCell ⟨ga, t, none⟩ (.int .i64 (u a t + d))) B y U (rowsF (upd2 u a t d) n N) := by
  have hl : U.length = n := by rw [h.len, rowsF_len]
  have hau : a < U.length := by omega
  have hr := h.rows.row a _ _ (List.getElem?_eq_getElem hau) (rowsF_get ha)
  unfold OwnsI at hr
  rw [rowF_len] at hr
  obtain ⟨A, c, hs⟩ := own_slice hr
  rw [hs] at hr
  obtain ⟨ga, hA, hg1, hg2⟩ := own_addr hr hN
  subst hA
  refine ⟨ga, c, by rw [List.getElem?_eq_getElem hau, hs], hg1, hg2, fun t ht => ?_, fun t => hr.frozenAt _, fun t d ht => ?_⟩
  · rw [hr.cellAt t (by omega)]
    unfold iv
    rw [List.getElem?_map, rowF_get ht]
    rfl
  · have hst := row_store hr t (by rw [rowF_len]; exact ht) (u a t + d)
    have hg : wr.grownBy (wr.setCell ⟨ga, t, none⟩ (.int .i64 (u a t + d))) (U[a]).ownBlock := by
      rw [hs]
      exact grownBy_set wr ⟨ga, t, none⟩ _
    have hne : y.ownBlock = none ∨ y.ownBlock ≠ (U[a]).ownBlock := by
      rcases h.ne _ (List.getElem_mem hau) with h1 | h1
      · rw [hs] at h1; simp [Value.ownBlock] at h1
      · exact .inr (fun e => h1 e.symm)
    refine ⟨World.ownsRow.kept h.outer hg hne, ?_⟩
    have := h.rows.mark (List.getElem?_eq_getElem hau) hg (zs := (rowF (u a) N).set t (u a t + d)) (by
      unfold OwnsI
      rw [List.length_set, rowF_len, hs]
      exact hst)
    rw [rowsF_set ha ht] at this
    exact this
theorem tab_outer {wr : World} {B : Nat} {y : Value} {U : List Value} {n N : Nat} {u : Nat → Nat → Int} (h : OwnM wr B y U (rowsF u n N)) (hn : 0 < n) :
    ∃ gy cy, y = .slice (some ⟨gy, 0, none⟩) n cy ∧ B ≤ gy ∧ gy < wr.heap.size ∧ ∀ j v, U[j]? = some v → wr.cell? ⟨gy, j, none⟩ = some v := by
  have hl : U.length = n := by rw [h.len, rowsF_len]
  rcases h.shape with ⟨_, h0⟩ | ⟨g, c, hv, hg1, hg2⟩
  · rw [h0] at hl; simp at hl; omega
  · refine ⟨g, c, by rw [hv, hl], hg1, hg2, fun j v hj => ?_⟩
    have ho := h.outer
    rw [hv] at ho
    have := ho.cellAt j (by have := (List.getElem?_eq_some_iff.1 hj).1; omega)
    rw [this, hj]
set_option maxRecDepth 100000 in
set_option maxHeartbeats 12800000 in
theorem l05Pairs_any (pg : Nat) (gs : List Rl) (w : World) (hok : gOk gs = true) (hf : FewR gs) (hg : GP w pg gs) :
    Calls Try.prog 120 #[.pointer (some ⟨pg, 0, none⟩)] w fun e w' => ∃ y U, e = .returned y ∧ OwnM w' w.heap.size y U (rowsF (prN gs) 4 4) ∧ Below w.heap.size w w' := by
  obtain ⟨i0, hi, hz0, hz1, hz2⟩ := info_parts Try.info_ints
  obtain ⟨j0, hj, hy0, hy1, hy2⟩ := info_parts Try.info_int64
  have hn := gOk_len hok
  have HGP := Lib.hid hg
  have HU := Lib.hid (fun W h => specUses pg gs W hok hf h)
  have HE := Lib.hid (fun W h => l05Edges_any pg gs W hok h)
  have HBD := Lib.hid (fun r i j (hr : r ≤ gs.length) (hi : i < 4) (hj : j < 4) => prT_bd hok (i := i) (j := j) hr hi hj)
  have HUP := Lib.hid (uses_pos hok)
  have HFIT := Lib.hid (gOk_iff.1 hok).2.1
  obtain ⟨gv, hgv, Av, cv, rfl, hrc⟩ := hg
  have HRC := Lib.hid hrc
  have HGV := Lib.hid hgv
  obtain ⟨n, hne⟩ : ∃ n, n = gs.length := ⟨_, rfl⟩
  rw [← hne] at hn hgv
  have HNE := Lib.hid hne
  have HS := Lib.hid (MSt.start w _ rfl)
  clear hrc hne hok hf
  go_enter Try.func120, Try.ntmps120
  go_wp2_with fail
  go_loopw [3, 4] (fun y i wr => ∃ k : Nat, k ≤ 4 ∧ i = .int .i64 k ∧ MSt w (rowsF (fun _ _ => 0) k 4) y wr) (fun _ i _ => 4 - (intOf i).toNat)
  case atStart => exact ⟨0, Nat.zero_le _, rfl, HS.out⟩
  case round =>
    obtain ⟨k, hk, rfl, U, hm, hB⟩ := hrel
    obtain ⟨wo, rfl⟩ : ∃ wo : World, wo = wr := ⟨_, rfl⟩
    have hlU : U.length = k := by rw [hm.len, rowsF_len]
    obtain ⟨Ay, cy, hAy⟩ := own_slice hm.outer
    rw [hlU] at hAy
    subst hAy
    by_cases hkn : k < 4
    · have HM := Lib.hid (And.intro hm hB)
      have HLU := Lib.hid hlU
      have HNX : Hid (rowsF (fun _ _ => (0 : Int)) (k + 1) 4 = rowsF (fun _ _ => 0) k 4 ++ [rowF (fun _ => 0) 4]) := Lib.hid (rowsF_snoc _ _ _)
      have hws : w.heap.size ≤ wo.heap.size := hB.size
      clear hm hB hlU
      go_wp2_with (first | (refine wpList_make_full _ rfl _ _ 22 rfl wo.heap.size 2 j0 (.int .i64 0) 1 Try.underlying22 hj hy0 hy1 .i64 .i64 _ _ 4 rfl rfl rfl rfl (by rw [hy2]; omega) (by unfold maxLen; omega) (Nat.le_refl _) ?_))
      intro w5 hown hgr
      have hown : w5.ownsRow wo.heap.size 2 1 (.slice (some ⟨wo.heap.size, 0, none⟩) 4 4) 4 (iv (rowF (fun _ => 0) 4)) := by rw [rowF_zero, ← made_i64]; simpa using hown
      have HU5 : Hid (OwnsI w5 wo.heap.size (.slice (some ⟨wo.heap.size, 0, none⟩) 4 4) (rowF (fun _ => 0) 4)) := Lib.hid (by unfold OwnsI; rw [rowF_len]; exact hown)
      have HB5 := Lib.hid (below_of_grown hgr)
      have hs5 : wo.heap.size ≤ w5.heap.size := (below_of_grown hgr).size
      have HOU : Hid (∀ o, (w5.alloc o).ownsRow w.heap.size 22 1 (.slice Ay k cy) k U) := Lib.hid (fun o => by
        have := (HM.out.1.kept HB5.out).outer
        rw [HLU.out] at this
        exact this.alloc o)
      clear hown hgr
      go_wp2_with (first | (at_builtin; refine wpList_append_own _ rfl _ _ 23 rfl w.heap.size 22 i0 (.slice none 0 0) 1 24 Try.underlying23 hi hz0 hz1 hz2 rfl (by decide) _ _ _ rfl (HOU.out _) ⟨w5.heap.size, 0, none⟩ 1 1 [.slice (some ⟨wo.heap.size, 0, none⟩) 4 4] rfl rfl (one_new _ _ _) (one_slice _ _ _) (by unfold maxLen; omega) (by omega) (by simp; omega) ?_))
      intro y' w6 hown' hg6 _
      have HST6 : Hid (MSt w (rowsF (fun _ _ => 0) (k + 1) 4) y' w6) := Lib.hid (by
        rw [HNX.out]
        exact MSt.append HM.out HB5.out HU5.out (by rw [HLU.out]; exact hown') hg6)
      clear hown' hg6
      go_wp2_with fail
      go_roundw
      all_goals first | exact ⟨k + 1, by omega, by go_num, HST6.out⟩ | ((repeat apply Exists.intro); exact ⟨⟨k + 1, by omega, by go_num, HST6.out⟩, rfl⟩) | (simp [intOf]; done) | (simp [intOf]; omega) | omega
    · obtain rfl : k = 4 := by omega
      have HM := Lib.hid (And.intro hm hB)
      have HLU := Lib.hid hlU
      have HGPo := Lib.hid (HGP.out.kept hB)
      clear hm hB hlU
      go_wp2_with fail
      refine (HU.out _ HGPo.out).mono ?_
      rintro e w7 ⟨us, rfl, hus, hB7⟩
      have HM7 := Lib.hid (HM.out.1.kept hB7)
      have HB7 := Lib.hid (HM.out.2.trans (hB7.mono HM.out.2.size))
      have HGP7 := Lib.hid (HGPo.out.kept hB7)
      have HUS7 := Lib.hid hus
      have HB78 := Lib.hid hB7.size
      clear hus hB7
      go_wp2_with fail
      refine (HE.out _ HGP7.out).mono ?_
      rintro e w8 ⟨f, l, rfl, hf8, hl8, hB8⟩
      have HM8 := Lib.hid (HM7.out.kept hB8)
      have HB8 := Lib.hid (HB7.out.trans (hB8.mono HB7.out.size))
      have HUS8 := Lib.hid (HUS7.out.below hB8 (Nat.le_refl _))
      have hge := HM.out.1.rows.ge
      have hap : ∀ {B : Nat} {v : Value} {zs : List Int}, wo.heap.size ≤ B → OwnsI w8 B v zs → ∀ W, OnlyIn U w8 W → OwnsI W B v zs := fun hB h W ho => own_only h ho (fun u hu => by
        cases e : u.ownBlock with
        | none => exact .inl rfl
        | some q => exact .inr (fun e' => by have h1 := (hge u hu q e).2; have h2 := (h.lt q e'.symm).1; omega))
      have HUW := Lib.hid (fun W (ho : OnlyIn U w8 W) => And.intro (hap (Nat.le_refl _) HUS8.out W ho) (And.intro (hap (by have := HB78.out; omega) hf8 W ho) (hap (by have := HB78.out; omega) hl8 W ho)))
      have HUB := Lib.hid (fun (u : Value) hu q (hq : u.ownBlock = some q) => show w.heap.size ≤ q ∧ q < w8.heap.size from ⟨(hge u hu q hq).1, by have h1 := (hge u hu q hq).2; have h2 := HB78.out; have h3 := hB8.size; omega⟩)
      obtain ⟨Au, cu, rfl⟩ := own_slice HUS8.out
      obtain ⟨Af, cf, rfl⟩ := own_slice hf8
      obtain ⟨Al, cl, rfl⟩ := own_slice hl8
      rw [usesOf_len, edL_len, edL_len, ← HNE.out]
      have HGV8 := Lib.hid ((HB8.out.cell (lt_of_cell HGV.out)).trans HGV.out)
      rw [← HNE.out] at HGV8
      clear hf8 hl8 hB8 hap hge hgv
      go_wp2_with fail
      go_loopw [8] (fun i wr => ∃ r : Nat, r ≤ n ∧ i = .int .i64 r ∧ OwnM wr w.heap.size (.slice Ay 4 cy) U (rowsF (prT gs r) 4 4) ∧ Below w.heap.size w wr ∧ OnlyIn U w8 wr) (fun i _ => n - (intOf i).toNat)
      case atStart => exact ⟨0, Nat.zero_le _, rfl, by rw [prT_zero]; exact HM8.out, HB8.out, OnlyIn.refl _ _⟩
      case round =>
        obtain ⟨r, hr, rfl, hm, hB, ho⟩ := hrel
        obtain ⟨wu, rfl⟩ : ∃ wu : World, wu = wr := ⟨_, rfl⟩
        have HM9 := Lib.hid hm
        have HB9 := Lib.hid hB
        have HO9 := Lib.hid ho
        have hgo := (hB.cell (lt_of_cell HGV.out)).trans HGV.out
        rw [← HNE.out] at hgo
        by_cases hrn : r < n
        · have hrg : r < gs.length := by rw [← HNE.out]; exact hrn
          rcases HRC.out with hn0 | ⟨g, rfl, hg, hc⟩
          · rw [hn0] at hrg; simp at hrg
          obtain ⟨a0, a1, a2⟩ := rules_cells hc hrg
          rw [← hB.cell (p := ⟨g, r * 3, none⟩) hg] at a0
          rw [← hB.cell (p := ⟨g, r * 3 + 1, none⟩) hg] at a1
          rw [← hB.cell (p := ⟨g, r * 3 + 2, none⟩) hg] at a2
          have hfk := fits_at HFIT.out r hrg
          have r0 : (0 : Int) ≤ (r : Int) := by omega
          have r1 : (r : Int) < (n : Int) := by omega
          by_cases h0 : gs[r].L.size = 0
          · have hp := (ok_pair h0).1 hfk
            have he := empty_arr h0
            obtain ⟨a, ha⟩ : ∃ a : Nat, gs[r].l = a := ⟨gs[r].l.toNat, by omega⟩
            obtain ⟨b, hb⟩ : ∃ b : Nat, gs[r].r = b := ⟨gs[r].r.toNat, by omega⟩
            have har : a < r := by omega
            have hbr : b < r := by omega
            have hnx := prT_pair hrg h0 ha hb
            have hla := edg_lt (rt := true) HFIT.out (a + 1) a (by omega) (by omega)
            have hfb := edg_lt (rt := false) HFIT.out (b + 1) b (by omega) (by omega)
            obtain ⟨i, hi'⟩ : ∃ i, i = edg true gs a := ⟨_, rfl⟩
            obtain ⟨j, hj'⟩ : ∃ j, j = edg false gs b := ⟨_, rfl⟩
            rw [← hi', ← hj'] at hnx
            rw [← hi'] at hla
            rw [← hj'] at hfb
            have hpos := HUP.out r
            have hbd := HBD.out (r + 1) i j (by omega) hla hfb
            rw [hnx, upd2_same] at hbd
            have hb7 := (Below.refl _ wu).alloc (Nat.le_refl _) (.cells #[.string ⟨#[]⟩, .int .i64 (a : Int), .int .i64 (b : Int)] 127)
            have HM7 := Lib.hid (hm.kept hb7)
            have HO7 := Lib.hid (ho.trans (OnlyIn.of_below (U := U) hb7))
            have HB7 := Lib.hid (hB.trans (hb7.mono hB.size))
            have hK7 := heap_alloc_new wu (.cells #[.string ⟨#[]⟩, .int .i64 (a : Int), .int .i64 (b : Int)] 127)
            generalize gs[r] = x at *
            obtain ⟨L, l, rr⟩ := x
            simp only at he ha hb a0 a1 a2
            rw [he] at a0
            rw [ha] at a1
            rw [hb] at a2
            clear h0 hp hfk hm hB ho hc hb7
            go_upto_region 12 with fail
            obtain ⟨Kp, hKp⟩ : ∃ Kp, Kp = wu.heap.size := ⟨_, rfl⟩
            rw [← hKp] at hK7 ⊢
            generalize wu.alloc (.cells #[.string ⟨#[]⟩, .int .i64 (a : Int), .int .i64 (b : Int)] 127) = w7' at *
            obtain ⟨c0, c1, c2⟩ := rule3_cellsE hK7
            obtain ⟨hu7, hf7, hl7⟩ := HUW.out _ HO7.out
            obtain ⟨gy, cy2, hy, _, _, hgyc⟩ := tab_outer HM7.out (by decide)
            obtain ⟨gi, ci, hUi, hgi1, hgi2, hgic, hgif, hgis⟩ := tab_row HM7.out (by decide) hla
            injection hy with hy1' hy2' hy3'
            subst hy1' hy3'
            clear hy2'
            have e0 := hgyc i _ hUi
            have e1 := hgic j hfb
            have e2 := hgif j
            unfold OwnsI at hu7 hf7 hl7
            rw [usesOf_len, ← HNE.out] at hu7
            rw [edL_len, ← HNE.out] at hf7 hl7
            obtain ⟨gu, hgu, _, _⟩ := own_addr hu7 (by omega)
            obtain ⟨gf, hgf, _, _⟩ := own_addr hf7 (by omega)
            obtain ⟨gl, hgl, _, _⟩ := own_addr hl7 (by omega)
            subst hgu hgf hgl
            have d0 : w7'.cell? ⟨gu, r, none⟩ = some (.int .i64 ((usesOf gs).getD r 0)) := by
              rw [hu7.cellAt r (by omega), iv_atU (by rw [usesOf_len]; exact hrg)]
            have d1 : w7'.cell? ⟨gf, b, none⟩ = some (.int .i64 (j : Int)) := by
              rw [hf7.cellAt b (by omega), iv, List.getElem?_map, edL_get (by omega), hj']; rfl
            have d2 : w7'.cell? ⟨gl, a, none⟩ = some (.int .i64 (i : Int)) := by
              rw [hl7.cellAt a (by omega), iv, List.getElem?_map, edL_get (by omega), hi']; rfl
            have hw1 : IntKind.i64.wrap (prT gs r i j + (usesOf gs).getD r 0) = prT gs r i j + (usesOf gs).getD r 0 := by rw [IntKind.wrap_i64]; omega
            have HNX : Hid (OwnM (w7'.setCell ⟨gi, j, none⟩ (.int .i64 (prT gs r i j + (usesOf gs).getD r 0))) w.heap.size (.slice (some ⟨gy, 0, none⟩) 4 cy) U (rowsF (prT gs (r + 1)) 4 4) ∧ Below w.heap.size w (w7'.setCell ⟨gi, j, none⟩ (.int .i64 (prT gs r i j + (usesOf gs).getD r 0))) ∧ OnlyIn U w8 (w7'.setCell ⟨gi, j, none⟩ (.int .i64 (prT gs r i j + (usesOf gs).getD r 0)))) := Lib.hid ⟨by rw [hnx]; exact hgis j _ hfb, HB7.out.setCell hgi1 _, HO7.out.trans (OnlyIn.of_grown (u := .slice (some ⟨gi, 0, none⟩) 4 ci) (grownBy_set w7' ⟨gi, j, none⟩ _) (List.mem_of_getElem? hUi))⟩
            have a0' : (0 : Int) ≤ (a : Int) := by omega
            have a1' : (a : Int) < (n : Int) := by omega
            have b0' : (0 : Int) ≤ (b : Int) := by omega
            have b1' : (b : Int) < (n : Int) := by omega
            have i0' : (0 : Int) ≤ (i : Int) := by omega
            have i1' : (i : Int) < 4 := by omega
            have j0' : (0 : Int) ≤ (j : Int) := by omega
            have j1' : (j : Int) < 4 := by omega
            clear hu7 hf7 hl7 hgyc hgic hgif hgis hnx hla hfb hpos hbd hi' hj' hKp hgo
            generalize prT gs r i j = pv at *
            generalize (usesOf gs).getD r 0 = uv at *
            go_upto_region 13 with fail
            go_still_tail 21, (by kernel_rfl)
            change wpList _ _ _ _ _ w7'.drew
            go_wp2_with fail
            have HND : Hid (OwnM (w7'.setCell ⟨gi, j, none⟩ (.int .i64 (pv + uv))).drew w.heap.size (.slice (some ⟨gy, 0, none⟩) 4 cy) U (rowsF (prT gs (r + 1)) 4 4) ∧ Below w.heap.size w (w7'.setCell ⟨gi, j, none⟩ (.int .i64 (pv + uv))).drew ∧ OnlyIn U w8 (w7'.setCell ⟨gi, j, none⟩ (.int .i64 (pv + uv))).drew) := Lib.hid (by
              have hb := below_drewN (Below.refl (w7'.setCell ⟨gi, j, none⟩ (.int .i64 (pv + uv))).heap.size (w7'.setCell ⟨gi, j, none⟩ (.int .i64 (pv + uv)))) 1
              exact ⟨HNX.out.1.kept hb, HNX.out.2.1.trans (hb.mono HNX.out.2.1.size), HNX.out.2.2.trans (OnlyIn.of_below (U := U) hb)⟩)
            go_roundw
            all_goals first | exact ⟨r + 1, by omega, by go_num, HND.out⟩ | exact ⟨⟨r + 1, by omega, by go_num, HND.out⟩, by simp [intOf]; omega⟩ | ((repeat apply Exists.intro); exact ⟨⟨r + 1, by omega, by go_num, HND.out⟩, rfl⟩) | (simp [intOf]; done) | (simp [intOf]; omega) | omega
          · have hne := full_list h0
            have HNX : Hid (prT gs (r + 1) = prT gs r) := Lib.hid (prT_letter hrg h0)
            have hb7 := (Below.refl _ wu).alloc (Nat.le_refl _) (.cells #[.string gs[r].L, .int .i64 gs[r].l, .int .i64 gs[r].r] 127)
            have HR7 : Hid (OwnM (wu.alloc (.cells #[.string gs[r].L, .int .i64 gs[r].l, .int .i64 gs[r].r] 127)) w.heap.size (.slice Ay 4 cy) U (rowsF (prT gs (r + 1)) 4 4) ∧ Below w.heap.size w (wu.alloc (.cells #[.string gs[r].L, .int .i64 gs[r].l, .int .i64 gs[r].r] 127)) ∧ OnlyIn U w8 (wu.alloc (.cells #[.string gs[r].L, .int .i64 gs[r].l, .int .i64 gs[r].r] 127))) := Lib.hid ⟨by rw [HNX.out]; exact hm.kept hb7, hB.trans (hb7.mono hB.size), ho.trans (OnlyIn.of_below (U := U) hb7)⟩
            generalize gs[r] = x at *
            obtain ⟨L, l, rr⟩ := x
            simp only at a0 a1 a2 hne
            clear hfk hm hB ho hc hb7 h0
            go_wp2_with fail
            go_roundw
            all_goals first | exact ⟨r + 1, by omega, by go_num, HR7.out⟩ | ((repeat apply Exists.intro); exact ⟨⟨r + 1, by omega, by go_num, HR7.out⟩, rfl⟩) | (simp [intOf]; done) | (simp [intOf]; omega) | omega
        · have HRE : Hid (r = gs.length) := Lib.hid (by have := HNE.out; omega)
          have r1 : ¬ ((r : Int) < (n : Int)) := by omega
          clear hrn hr hm hB ho
          go_wp2_with fail
          go_ret
          refine ⟨_, rfl, ⟨U, ?_⟩, HB9.out⟩
          rw [← prT_all, ← HRE.out]
          exact HM9.out
end Go.Proofs.Ytaffachjopjbgaa
namespace Go.Proofs.Ytaffachjopjbgaa
open Go.RowKit
open Wd
set_option linter.unusedVariables false
namespace Wd
/-- the pairs of a grammar -/
def pcA (gs : List Rl) : List (List Int) × Int := if gOk gs = true then (rowsF (prN gs) 4 4, 0) else ([], 1)
/-- the runs when so many letters' pairs are taken off -/
def rcS (gs : List Rl) (k : Nat) : Int := wordLen gs - sumN (fun q => prN gs q q) k
def rcA (gs : List Rl) : Int × Int := if gOk gs = true then (rcS gs 4, 0) else (0, 1)
end Wd
theorem pcA_few (gs : List Rl) : (pcA gs).1.length ≤ 1048576 ∧ ∀ r ∈ (pcA gs).1, r.length ≤ 24 := by
  unfold pcA
  split
  · refine ⟨by simp only [rowsF_len]; omega, fun r hr => ?_⟩
    simp only [rowsF, List.mem_map] at hr
    obtain ⟨m, _, rfl⟩ := hr
    rw [rowF_len]
    omega
  · simp
theorem rc_bd {gs : List Rl} (hok : gOk gs = true) {k : Nat} (hk : k ≤ 4) : -4000000000000000 ≤ rcS gs k ∧ rcS gs k ≤ 1000000000000000 := by
  have hw : 0 ≤ wordLen gs ∧ wordLen gs ≤ 1000000000000000 := by
    by_cases hg : gs.length = 0
    · rw [wordLen_zero hg]; omega
    · have h1 := small_at (gOk_iff.1 hok).2.2 (gs.length - 1) (by omega)
      have h2 : 1 ≤ (lens gs).getD (gs.length - 1) 0 := lens_pos (by omega) (fun q hq _ => fits_at (gOk_iff.1 hok).2.1 q hq)
      unfold wordLen; omega
  have h0 := pairs_bd hok (i := 0) (j := 0) (by omega) (by omega)
  have h1 := pairs_bd hok (i := 1) (j := 1) (by omega) (by omega)
  have h2 := pairs_bd hok (i := 2) (j := 2) (by omega) (by omega)
  have h3 := pairs_bd hok (i := 3) (j := 3) (by omega) (by omega)
  unfold rcS
  match k, hk with
  | 0, _ => simp only [sumN]; omega
  | 1, _ => simp only [sumN]; omega
  | 2, _ => simp only [sumN]; omega
  | 3, _ => simp only [sumN]; omega
  | 4, _ => simp only [sumN]; omega
theorem rc_next (gs : List Rl) (k : Nat) : rcS gs (k + 1) = rcS gs k - prN gs k k := by unfold rcS; rw [sumN]; omega
set_option maxRecDepth 100000 in
set_option maxHeartbeats 6400000 in
theorem specPairCounts (v : Value) (gs : List Rl) (w : World) (hf : FewR gs) (hr : Rules w v gs) :
    Calls Try.prog 50 #[.agg #[v]] w fun e w' => ∃ y U, e = .returned (.tuple #[y, .int .i64 (pcA gs).2]) ∧ OwnM w' w.heap.size y U (pcA gs).1 ∧ Below w.heap.size w w' := by
  have hg := rules_gpT hr 37
  have h1 := l02Ok_any w.heap.size gs _ hf hg
  have H1 := Lib.hid h1
  have H2 := Lib.hid (fun W (hW : GP W w.heap.size gs) hok => l05Pairs_any w.heap.size gs W hok hf hW)
  have HG := Lib.hid hg
  obtain ⟨A, c, rfl, _⟩ := hr
  have hb := (Below.refl _ w).alloc (Nat.le_refl _) (.cells #[.slice A gs.length c] 37)
  have HB := Lib.hid hb
  unfold pcA
  cases hok : gOk gs
  all_goals
    rw [hok] at H1
    have HK := Lib.hid hok
    clear hok h1 hg
    go_enter Try.func50, Try.ntmps50
    go_wp2_with fail
    refine H1.out.mono ?_
    rintro e w1 ⟨rfl, hB1⟩
    have HB1' := Lib.hid hB1
    have HB1 := Lib.hid (HB.out.trans (hB1.mono (by simp)))
    clear hB1
    go_wp2_with fail
  · go_ret2
    exact ⟨_, rfl, ⟨[], ⟨World.ownsRow_lit (base := w.heap.size) (e := 22) (size := 1) w1 #[] 0 HB1.out.size (by decide) rfl, Rws.nil _ _⟩⟩, HB1.out.alloc HB1.out.size _⟩
  · refine (H2.out _ (HG.out.kept HB1'.out) HK.out).mono ?_
    rintro e w2 ⟨x, U, rfl, ho, hB2⟩
    have HO := Lib.hid (ho.lower HB1.out.size)
    have HB2 := Lib.hid (HB1.out.trans (hB2.mono HB1.out.size))
    clear hB2 ho
    go_wp2_with fail
    go_ret2
    exact ⟨_, rfl, ⟨U, HO.out⟩, HB2.out⟩
set_option maxRecDepth 100000 in
set_option maxHeartbeats 6400000 in
theorem specRunCount (v : Value) (gs : List Rl) (w : World) (hf : FewR gs) (hr : Rules w v gs) :
    Calls Try.prog 55 #[.agg #[v]] w fun e w' => e = .returned (.tuple #[.int .i64 (rcA gs).1, .int .i64 (rcA gs).2]) ∧ Below w.heap.size w w' := by
  have hg := rules_gpT hr 37
  have h1 := l02Ok_any w.heap.size gs _ hf hg
  have H1 := Lib.hid h1
  have H2 := Lib.hid (fun W (hW : GP W w.heap.size gs) hok => l05Pairs_any w.heap.size gs W hok hf hW)
  have H3 := Lib.hid (fun W (hW : GP W w.heap.size gs) hok => l02Length_any w.heap.size gs W hf hW hok)
  have HG := Lib.hid hg
  obtain ⟨A, c, rfl, _⟩ := hr
  have hb := (Below.refl _ w).alloc (Nat.le_refl _) (.cells #[.slice A gs.length c] 37)
  have HB := Lib.hid hb
  unfold rcA
  cases hok : gOk gs
  all_goals
    rw [hok] at H1
    have HK := Lib.hid hok
    clear hok h1 hg
    go_enter Try.func55, Try.ntmps55
    go_wp2_with fail
    refine H1.out.mono ?_
    rintro e w1 ⟨rfl, hB1⟩
    have HB1' := Lib.hid hB1
    have HB1 := Lib.hid (HB.out.trans (hB1.mono (by simp)))
    clear hB1
    go_wp2_with fail
  · go_ret2
    exact ⟨rfl, HB1.out⟩
  · refine (H3.out _ (HG.out.kept HB1'.out) (gOk_fs HK.out)).mono ?_
    rintro e w2 ⟨rfl, hB2⟩
    have HG2 := Lib.hid ((HG.out.kept HB1'.out).kept hB2)
    have HB2 := Lib.hid (HB1.out.trans (hB2.mono HB1.out.size))
    clear hB2
    go_wp2_with fail
    refine (H2.out _ HG2.out HK.out).mono ?_
    rintro e w3 ⟨x, U, rfl, ho, hB3⟩
    have HO := Lib.hid ho
    have HB3 := Lib.hid (HB2.out.trans (hB3.mono HB2.out.size))
    obtain ⟨gy, cy, rfl, _, _, hgyc⟩ := tab_outer ho (by decide)
    have HYC := Lib.hid hgyc
    have HBD := Lib.hid (fun k (hk : k ≤ 4) => rc_bd HK.out hk)
    have hz : wordLen gs = rcS gs 0 := by unfold rcS; rw [sumN]; omega
    rw [hz]
    clear hB3 ho hgyc hz
    go_wp2_with fail
    go_loopw [4, 6] (fun n i wr => ∃ k : Nat, k ≤ 4 ∧ i = .int .i64 k ∧ n = .int .i64 (rcS gs k) ∧ wr = w3) (fun _ i _ => 4 - (intOf i).toNat)
    case atStart => exact ⟨0, Nat.zero_le _, rfl, rfl, rfl⟩
    case round =>
      obtain ⟨k, hk, rfl, rfl, rfl⟩ := hrel
      by_cases hk4 : k < 4
      · obtain ⟨gi, ci, hUi, _, _, hgic, _, _⟩ := tab_row HO.out (by decide) hk4
        have e0 := HYC.out k _ hUi
        have e1 := hgic k hk4
        have hbd := HBD.out (k + 1) (by omega)
        have hn := rc_next gs k
        rw [hn] at hbd
        have hw1 : IntKind.i64.wrap (rcS gs k - prN gs k k) = rcS gs k - prN gs k k := by rw [IntKind.wrap_i64]; omega
        have k0 : (0 : Int) ≤ (k : Int) := by omega
        have k1 : (k : Int) < 4 := by omega
        have HN := Lib.hid hn
        clear hn hbd hgic
        generalize prN gs k k = pv at *
        generalize rcS gs k = rv at *
        go_wp2_with fail
        go_roundw
        all_goals first | exact ⟨k + 1, by omega, by go_num, by rw [HN.out], by trivial⟩ | exact ⟨⟨k + 1, by omega, by go_num, by rw [HN.out], rfl⟩, by simp [intOf]; omega⟩ | ((repeat apply Exists.intro); exact ⟨⟨k + 1, by omega, by go_num, by rw [HN.out], rfl⟩, rfl⟩) | (simp [intOf]; done) | (simp [intOf]; omega) | omega
      · obtain rfl : k = 4 := by omega
        go_wp2_with fail
        go_ret2
        exact ⟨rfl, HB3.out⟩
end Go.Proofs.Ytaffachjopjbgaa
namespace Go.Proofs.Ytaffachjopjbgaa
open Go.RowKit
open Wd
set_option linter.unusedVariables false
/-- the pattern of two letters -/
theorem two_ask {gs : List Rl} (hok : gOk gs = true) {k l : Nat} (hk : k < 4) (hl : l < 4) (s : ByteArray) (hs : s = ⟨#[ltB k, ltB l]⟩) : cpA gs s = (prN gs k l, 0) := by
  subst hs
  have h0 : askN (gOk gs) (okL [ltB k, ltB l]) 2 = 0 := by
    rw [hok]
    match k, hk, l, hl with
    | 0, _, 0, _ => rfl
    | 0, _, 1, _ => rfl
    | 0, _, 2, _ => rfl
    | 0, _, 3, _ => rfl
    | 1, _, 0, _ => rfl
    | 1, _, 1, _ => rfl
    | 1, _, 2, _ => rfl
    | 1, _, 3, _ => rfl
    | 2, _, 0, _ => rfl
    | 2, _, 1, _ => rfl
    | 2, _, 2, _ => rfl
    | 2, _, 3, _ => rfl
    | 3, _, 0, _ => rfl
    | 3, _, 1, _ => rfl
    | 3, _, 2, _ => rfl
    | 3, _, 3, _ => rfl
  unfold cpA
  rw [pairs_num hok hk hl]
  show (if askN (gOk gs) (okL [ltB k, ltB l]) 2 = 0 then _ else _) = _
  rw [if_pos h0]
  rfl
set_option maxRecDepth 100000 in
set_option maxHeartbeats 3200000 in
theorem pairNo_any (gv : Value) (gs : List Rl) (P k l : Nat) (w : World) (hk : k < 4) (hl : l < 4) (hok : gOk gs = true) (hfr : FewR gs) (hr : Rules w gv gs) (hp : w.cell? ⟨P, 0, none⟩ = some gv) :
    Calls Try.prog 123 #[.int .i64 (k : Int), .int .i64 (l : Int), .pointer (some ⟨P, 0, none⟩)] w fun e w' => e = .returned (.int .i64 (prN gs k l)) ∧ Below w.heap.size w w' := by
  have HC := Lib.hid (fun W (hb : Below w.heap.size w W) s (hs : s = ⟨#[ltB k, ltB l]⟩) => (by
    have := implCountPattern gv gs s W hfr (hr.kept hb) (by rw [hs]; show 2 ≤ maxLen; unfold maxLen; omega)
    rw [two_ask hok hk hl s hs] at this
    exact this : Calls Try.prog 30 #[.agg #[gv], .string s] W fun e w' => e = .returned (.tuple #[.int .i64 (prN gs k l), .int .i64 0]) ∧ Below W.heap.size W w'))
  obtain ⟨A, c, rfl, _⟩ := hr
  have HP := Lib.hid hp
  have HB0 := Lib.hid (Below.refl w.heap.size w)
  clear hok hfr
  generalize hpv : prN gs k l = pv at *
  clear hpv
  have HK4 : Hid (k = 0 ∨ k = 1 ∨ k = 2 ∨ k = 3) := Lib.hid (by omega)
  have HL4 : Hid (l = 0 ∨ l = 1 ∨ l = 2 ∨ l = 3) := Lib.hid (by omega)
  have k0 : (0 : Int) ≤ (k : Int) := by omega
  have k1 : (k : Int) ≤ (k : Int) + 1 := by omega
  have k2 : (k : Int) + 1 ≤ 4 := by omega
  have k3 : IntKind.i64.wrap ((k : Int) + 1) = (k : Int) + 1 := by rw [IntKind.wrap_i64]; omega
  have l0 : (0 : Int) ≤ (l : Int) := by omega
  have l1 : (l : Int) ≤ (l : Int) + 1 := by omega
  have l2 : (l : Int) + 1 ≤ 4 := by omega
  have l3 : IntKind.i64.wrap ((l : Int) + 1) = (l : Int) + 1 := by rw [IntKind.wrap_i64]; omega
  have hsm : (9223372036854775807 < min (k + 1) 4 - k + (min (l + 1) 4 - l)) = False := eq_false (by omega)
  clear hk hl
  go_enter Try.func123, Try.ntmps123
  go_upto_region 1 with fail
  go_region_held3 (fun w' => w'.cell? ⟨P, 0, none⟩ = some (.slice A gs.length c))
    (first | (with_reducible exact HP.out) | (with_reducible exact HC1.out) | go_keep)
    (first
      | (go_at_call 30
         refine (HC.out _ ?_ _ ?_).mono ?_
         (first | exact HB0.out | exact below_drewN HB0.out 1 | exact below_drewN HB0.out _)
         rcases HK4.out with rfl | rfl | rfl | rfl <;> rcases HL4.out with rfl | rfl | rfl | rfl <;> rfl
         rintro e w1 ⟨rfl, hB1⟩
         try have hB1 := below_undrew hB1
         have HB1 := Lib.hid hB1
         have HC1 := Lib.hid ((hB1.cell (p := ⟨P, 0, none⟩) (lt_of_cell HP.out)).trans HP.out)
         clear hB1))
  all_goals
    go_wp2_with fail
    go_ret
    exact ⟨rfl, by first | exact HB1.out | exact below_drewN HB1.out 1⟩
end Go.Proofs.Ytaffachjopjbgaa
namespace Go.Proofs.Ytaffachjopjbgaa
open Go.RowKit
open Wd
set_option linter.unusedVariables false

theorem wordLen_bd' {gs : List Rl} (h : gOk gs = true) : 0 ≤ wordLen gs ∧ wordLen gs ≤ 1000000000000000 := by
  by_cases hg : gs.length = 0
  · rw [wordLen_zero hg]; omega
  · have h1 := lens_pos (show gs.length - 1 < gs.length by omega) fun q hq _ => fits_at (gOk_iff.1 h).2.1 q hq
    have h2 := small_at (gOk_iff.1 h).2.2 (gs.length - 1) (by omega)
    unfold wordLen; omega

/-- impl.wordLength of the lengths of all words -/
theorem wordLength_any (x : Value) (gs : List Rl) (B : Nat) (w : World) (hn : gs.length ≤ 1048576) (h : OwnsI w B x (lens gs)) :
    Calls Try.prog 102 #[x] w fun e w' => e = .returned (.int .i64 (wordLen gs)) ∧ w = w' := by
  by_cases h0 : gs.length = 0
  · have hz := wordLen_zero h0
    have hl : (lens gs).length = 0 := by rw [lens_len]; exact h0
    obtain ⟨A, c, rfl⟩ := own_slice h
    rw [hl]
    have HZ := Lib.hid hz
    clear h h0 hz hl
    go_enter Try.func102, Try.ntmps102
    go_wp2
    go_ret
    exact ⟨ret_int HZ.out.symm, rfl⟩
  · obtain ⟨m, hm⟩ : ∃ m, gs.length = m + 1 := ⟨gs.length - 1, by omega⟩
    have hl : (lens gs).length = m + 1 := by rw [lens_len]; exact hm
    rcases h.shape with ⟨_, h'⟩ | ⟨g, cap, rfl, _⟩
    · rw [h'] at hl; simp at hl
    have hc := h.cell m (by omega)
    have hw : wordLen gs = (lens gs)[m] := by
      unfold wordLen
      rw [hm, Nat.add_sub_cancel, List.getD_eq_getElem?_getD, List.getElem?_eq_getElem (by omega), Option.getD_some]
    rw [← hw] at hc
    rw [hl]
    have hm' : m ≤ 1048576 := by omega
    clear h h0 hw hl hm hn
    go_enter Try.func102, Try.ntmps102
    go_wp2
    go_ret
    exact ⟨rfl, rfl⟩

end Go.Proofs.Ytaffachjopjbgaa
namespace Go.Proofs.Ytaffachjopjbgaa
open Go.RowKit
open Wd
set_option linter.unusedVariables false

/-- behind a parameter's box -/
theorem rules_gp {w : World} {v : Value} {gs : List Rl} (h : Rules w v gs) (t : TypeId) : GP (w.alloc (.cells #[v] t)) w.heap.size gs :=
  ⟨v, cell_new w v t, h.kept ((Below.refl _ w).alloc (Nat.le_refl _) _)⟩

/-- the answer of LengthOf -/
def lenAns (gs : List Rl) : Int × Int := if gOk gs then (wordLen gs, 0) else (0, 1)

theorem implLengthOf (v : Value) (gs : List Rl) (w : World) (hf : FewR gs) (hr : Rules w v gs) :
    Calls Try.prog 124 #[.agg #[v]] w fun e w' => e = .returned (.tuple #[.int .i64 (lenAns gs).1, .int .i64 (lenAns gs).2]) ∧ Below w.heap.size w w' := by
  have hb := (Below.refl _ w).alloc (Nat.le_refl _) (.cells #[v] 37)
  have h1 := len.vlen_any v gs _ hf (hr.kept hb)
  have H1 := Lib.hid h1
  have HB := Lib.hid hb
  have hn := hf.len
  obtain ⟨A, c, rfl, _⟩ := hr
  clear h1 hb
  unfold lenAns
  cases hok : gOk gs
  all_goals
    have HK := Lib.hid hok
    unfold LensPost at H1
    rw [hok] at H1
    clear hok
    go_enter Try.func124, Try.ntmps124
    go_wp2_with fail
    refine H1.out.mono ?_
    rintro e w1 ⟨x, rfl, ho, hB1⟩
    have HO := Lib.hid ho
    have HB1 := Lib.hid hB1
    clear hB1 ho
    go_wp2_with fail
  · go_ret2
    exact ⟨rfl, HB.out.trans (HB1.out.mono (by simp))⟩
  · refine (wordLength_any x gs _ w1 hn (HO.out trivial)).mono ?_
    rintro e w2 ⟨rfl, rfl⟩
    go_wp2_with fail
    go_ret2
    exact ⟨rfl, HB.out.trans (HB1.out.mono (by simp))⟩
end Go.Proofs.Ytaffachjopjbgaa
namespace Go.Proofs.Ytaffachjopjbgaa
open Go.RowKit
open Wd
set_option linter.unusedVariables false
/-- a row being filled in its place in a row of rows -/
def MxIn (xss : List (List Int)) (B i G s : Nat) (f : Nat → Int) (wr : World) : Prop :=
  ∃ vs : List Value, vs.length = 4 ∧ wr.ownsRow B 22 1 (.slice (some ⟨B, 0, none⟩) 4 4) 4 vs ∧ vs[i]? = some (.slice (some ⟨G, 0, none⟩) 4 4) ∧ Rws wr (B + 1) (vs.take i) (xss.take i) ∧ (∀ u ∈ vs.take i, ∀ q, u.ownBlock = some q → q < G) ∧ B < G ∧ wr.ownsRow G 2 1 (.slice (some ⟨G, 0, none⟩) 4 4) 4 (iv (rowF (fun j => if j < s then f j else 0) 4))
theorem MxIn.start {xss : List (List Int)} {wo w5 : World} {B i : Nat} {f : Nat → Int} (h : LLW xss B i wo) (hl : xss.length = 4) (hi : i < 4) (hb : Below wo.heap.size wo w5) (ho : w5.ownsRow wo.heap.size 2 1 (.slice (some ⟨wo.heap.size, 0, none⟩) 4 4) 4 (iv (rowF (fun j => if j < 0 then f j else 0) 4))) : MxIn xss B i wo.heap.size 0 f (w5.setCell ⟨B, i, none⟩ (.slice (some ⟨wo.heap.size, 0, none⟩) 4 4)) := by
  obtain ⟨vs, h1, h2, h3⟩ := h
  rw [hl] at h1 h2
  have h2' := own_below h2 hb (Nat.le_refl _)
  have hlt := (h2.lt B rfl).2
  refine ⟨vs.set i (.slice (some ⟨wo.heap.size, 0, none⟩) 4 4), by simpa using h1, (h2'.stored i _).1, by rw [List.getElem?_set, if_pos rfl, if_pos (by omega)], ?_, ?_, hlt, own_setLow ho _ _ hlt⟩
  · rw [List.take_set_of_le (Nat.le_refl _)]; exact (h3.kept hb).setLow ⟨B, i, none⟩ _ (by simp)
  · rw [List.take_set_of_le (Nat.le_refl _)]
    intro u hu q hq
    exact (h3.ge u hu q hq).2
theorem MxIn.kept {xss : List (List Int)} {wr w' : World} {B i G s : Nat} {f : Nat → Int} (h : MxIn xss B i G s f wr) (hb : Below wr.heap.size wr w') : MxIn xss B i G s f w' := by
  obtain ⟨vs, h1, h2, h3, h4, h5, h6, h7⟩ := h
  exact ⟨vs, h1, own_below h2 hb (Nat.le_refl _), h3, h4.kept hb, h5, h6, own_below h7 hb (Nat.le_refl _)⟩
theorem MxIn.store {xss : List (List Int)} {wr : World} {B i G s : Nat} {f : Nat → Int} (h : MxIn xss B i G s f wr) (hs : s < 4) : MxIn xss B i G (s + 1) f (wr.setCell ⟨G, s, none⟩ (.int .i64 (f s))) := by
  obtain ⟨vs, h1, h2, h3, h4, h5, h6, h7⟩ := h
  have hg := grownBy_set wr ⟨G, s, none⟩ (.int .i64 (f s))
  refine ⟨vs, h1, World.ownsRow.kept h2 hg (.inr (by simp [Value.ownBlock]; omega)), h3, ⟨h4.len, fun j u zs a b => World.ownsRow.kept (h4.row j u zs a b) hg ?_, h4.ne⟩, h5, h6, ?_⟩
  · cases e : u.ownBlock with
    | none => exact .inl rfl
    | some q => exact .inr (fun e' => by have e2 : q = G := by simpa using e'
                                         have := h5 u (List.mem_of_getElem? a) q e
                                         omega)
  · have := row_store h7 s (by rw [rowF_len]; exact hs) (f s)
    have e : (rowF (fun j => if j < s then f j else 0) 4).set s (f s) = rowF (fun j => if j < s + 1 then f j else 0) 4 := by
      have h9 := rowF_set (f := fun j => if j < s then f j else 0) (d := f s) hs
      simp only [Nat.lt_irrefl, if_false, Int.zero_add] at h9
      rw [h9]
      refine rowF_congr (fun j hj => ?_)
      by_cases e : j = s
      · subst e; rw [upd1_same, if_neg (by omega), if_pos (by omega), Int.zero_add]
      · rw [upd1_ne _ _ e]
        by_cases h8 : j < s
        · rw [if_pos h8, if_pos (by omega)]
        · rw [if_neg h8, if_neg (by omega)]
    rw [e] at this
    exact this
theorem MxIn.done {xss : List (List Int)} {wr : World} {B i G : Nat} {f : Nat → Int} (h : MxIn xss B i G 4 f wr) (hl : xss.length = 4) (hi : i < 4) (hx : xss[i] = rowF f 4) : LLW xss B (i + 1) wr := by
  obtain ⟨vs, h1, h2, h3, h4, h5, h6, h7⟩ := h
  refine ⟨vs, by omega, by rw [hl]; exact h2, ?_⟩
  have e1 : vs.take (i + 1) = vs.take i ++ [.slice (some ⟨G, 0, none⟩) 4 4] := by
    rw [List.take_add_one, h3]; rfl
  rw [e1, List.take_succ_eq_append_getElem (by omega)]
  have e2 : rowF (fun j => if j < 4 then f j else 0) 4 = rowF f 4 := rowF_congr (fun j hj => by rw [if_pos hj])
  refine Rws.snoc h4 ?_ (fun y hy => ?_)
  · rw [hx]
    unfold OwnsI
    rw [rowF_len]
    rw [e2] at h7
    exact own_lower h7 (by omega)
  · cases e : y.ownBlock with
    | none => exact .inl rfl
    | some q => exact .inr fun e' => by have h8 := h5 y hy q e; simp only [Value.ownBlock, Option.some.injEq] at e'; omega
theorem MxIn.cells {xss : List (List Int)} {wr : World} {B i G s : Nat} {f : Nat → Int} (h : MxIn xss B i G s f wr) (hi : i < 4) : wr.cell? ⟨B, i, none⟩ = some (.slice (some ⟨G, 0, none⟩) 4 4) ∧ (∀ j, j < 4 → ∃ z, wr.cell? ⟨G, j, none⟩ = some z) ∧ ∀ j, wr.frozen? ⟨G, j, none⟩ = false := by
  obtain ⟨vs, h1, h2, h3, h4, h5, h6, h7⟩ := h
  refine ⟨(h2.cellAt i (by omega)).trans h3, fun j hj => ?_, fun j => h7.frozenAt _⟩
  rw [h7.cellAt j (by omega)]
  exact ⟨_, List.getElem?_eq_getElem (by rw [iv_len, rowF_len]; exact hj)⟩
set_option maxRecDepth 100000 in
set_option maxHeartbeats 6400000 in
theorem matrixOf_any (gv : Value) (gs : List Rl) (P : Nat) (w : World) (hok : gOk gs = true) (hfr : FewR gs) (hr : Rules w gv gs) (hp : w.cell? ⟨P, 0, none⟩ = some gv) :
    Calls Try.prog 122 #[.int .i64 4, .func (.func 123) #[] #[.pointer (some ⟨P, 0, none⟩)]] w fun e w' => ∃ y U, e = .returned y ∧ OwnM w' w.heap.size y U (rowsF (prN gs) 4 4) ∧ Below w.heap.size w w' := by
  obtain ⟨i0, hi, hz0, hz1, hz2⟩ := info_parts Try.info_ints
  obtain ⟨j0, hj, hy0, hy1, hy2⟩ := info_parts Try.info_int64
  have HPN := Lib.hid (fun W k l hk hl (hb : Below w.heap.size w W) => pairNo_any gv gs P k l W hk hl hok hfr (hr.kept hb) ((hb.cell (lt_of_cell hp)).trans hp))
  obtain ⟨xss, hxs⟩ : ∃ xss, xss = rowsF (prN gs) 4 4 := ⟨_, rfl⟩
  rw [← hxs]
  have hxl : xss.length = 4 := by rw [hxs, rowsF_len]
  have HXI := Lib.hid (fun i (hi : i < 4) (hil : i < xss.length) => show xss[i]'hil = rowF (prN gs i) 4 from by
    have := rowsF_get (u := prN gs) (N := 4) hi
    subst hxs
    rw [List.getElem?_eq_getElem (by rw [rowsF_len]; exact hi)] at this
    injection this)
  have HXL := Lib.hid hxl
  clear hok hfr hr hp hxs
  go_enter Try.func122, Try.ntmps122
  go_wp2_with (refine wpList_make_full _ rfl _ _ 155 rfl w.heap.size 22 i0 (.slice none 0 0) 1 Try.underlying155 hi hz0 hz1 .i64 .i64 _ _ 4 rfl rfl rfl rfl (by rw [hz2]; omega) (by unfold maxLen; omega) (Nat.le_refl _) ?_)
  intro w1 hown hg
  have hB1 := below_of_grown hg
  obtain ⟨B, hBe⟩ : ∃ B, B = w.heap.size := ⟨_, rfl⟩
  rw [← hBe] at hown ⊢
  have HST : Hid (LLW xss B 0 w1) := Lib.hid ⟨List.replicate 4 (.slice none 0 0), by simp [hxl], by
    have h := hown
    rw [made_nil] at h
    rw [hxl]; exact h, by rw [List.take_zero, List.take_zero]; exact Rws.nil _ _⟩
  have HBE := Lib.hid hBe
  have HB1 : Hid (Below B w w1) := Lib.hid (by rw [hBe]; exact hB1)
  clear hown hg hB1 hBe hxl
  go_wp2_with fail
  go_loopw [12] (fun i wr => ∃ k : Nat, k ≤ 4 ∧ i = .int .i64 k ∧ LLW xss B k wr ∧ Below B w wr) (fun i _ => 4 - (intOf i).toNat)
  case atStart => exact ⟨0, Nat.zero_le _, rfl, HST.out, HB1.out⟩
  case round =>
    obtain ⟨k, hk, rfl, hll, hB⟩ := hrel
    obtain ⟨wo, rfl⟩ : ∃ wo : World, wo = wr := ⟨_, rfl⟩
    by_cases hkn : k < 4
    · have HLL := Lib.hid hll
      have HBO := Lib.hid hB
      obtain ⟨u0, c0, f0⟩ := hll.cell k (by rw [HXL.out]; exact hkn)
      have k0 : (0 : Int) ≤ (k : Int) := by omega
      have k1 : (k : Int) < 4 := by omega
      clear hll hB
      go_wp2_with (refine wpList_make_full _ rfl _ _ 22 rfl wo.heap.size 2 j0 (.int .i64 0) 1 Try.underlying22 hj hy0 hy1 .i64 .i64 _ _ 4 rfl rfl rfl rfl (by rw [hy2]; omega) (by unfold maxLen; omega) (Nat.le_refl _) ?_)
      intro w5 hown hgr
      have hown : w5.ownsRow wo.heap.size 2 1 (.slice (some ⟨wo.heap.size, 0, none⟩) 4 4) 4 (iv (rowF (fun j => if j < 0 then prN gs k j else 0) 4)) := by
        rw [rowF_congr (g := fun _ => 0) (fun j hj => by rw [if_neg (by omega)]), rowF_zero, ← made_i64]; simpa using hown
      have HM5 := Lib.hid (MxIn.start HLL.out HXL.out hkn (below_of_grown hgr) hown)
      have hb5 := below_of_grown hgr
      have c5 := (hb5.cell (lt_of_cell c0)).trans c0
      have f5 : w5.frozen? ⟨B, k, none⟩ = false := by
        have := hb5.block B (lt_of_cell c0)
        unfold World.frozen? at f0 ⊢
        simp only at f0 ⊢
        rw [this]
        exact f0
      have HB5 : Hid (Below B w (w5.setCell ⟨B, k, none⟩ (.slice (some ⟨wo.heap.size, 0, none⟩) 4 4))) := Lib.hid ((HBO.out.trans (hb5.mono (Nat.le_of_lt (lt_of_cell c0)))).setCell (Nat.le_refl _) _)
      obtain ⟨G, hG⟩ : ∃ G, G = wo.heap.size := ⟨_, rfl⟩
      rw [← hG] at HM5 HB5 ⊢
      clear hown hgr hb5 c0 f0 hG
      go_upto_region 6 with fail
      generalize w5.setCell ⟨B, k, none⟩ (.slice (some ⟨G, 0, none⟩) 4 4) = w6 at *
      have e6 := (HM5.out.cells hkn).1
      clear c5 f5
      go_wp2_with fail
      clear e6
      go_loopw [25] (fun i wr => ∃ s : Nat, s ≤ 4 ∧ i = .int .i64 s ∧ MxIn xss B k G s (prN gs k) wr ∧ Below B w wr) (fun i _ => 4 - (intOf i).toNat)
      case atStart => exact ⟨0, Nat.zero_le _, rfl, HM5.out, HB5.out⟩
      case round =>
        obtain ⟨s, hs, rfl, hmx, hB⟩ := hrel
        obtain ⟨wu, rfl⟩ : ∃ wu : World, wu = wr := ⟨_, rfl⟩
        have HMX := Lib.hid hmx
        have HBU := Lib.hid hB
        clear hmx hB
        by_cases hsn : s < 4
        · have s0 : (0 : Int) ≤ (s : Int) := by omega
          have s1 : (s : Int) < 4 := by omega
          have c6 := (HMX.out.cells hkn).1
          have HC6 := Lib.hid c6
          have HBW : Hid (Below w.heap.size w wu) := Lib.hid (by rw [← HBE.out]; exact HBU.out)
          obtain ⟨pv, hpv⟩ : ∃ pv, pv = prN gs k s := ⟨_, rfl⟩
          have HPV := Lib.hid hpv
          clear hpv
          go_upto_region 9 with fail
          go_region_held3 (fun w' => w'.cell? ⟨B, k, none⟩ = some (.slice (some ⟨G, 0, none⟩) 4 4))
            (first | (with_reducible exact HC6.out) | (with_reducible exact HC7.out) | exact HCS.out _ | go_keep)
            (first
              | (go_at_call 123
                 refine (HPN.out _ k s hkn hsn ?_).mono ?_
                 (first | exact HBW.out | exact below_drewN HBW.out 1 | exact below_drewN HBW.out _)
                 rintro e w7 ⟨rfl, hB7⟩
                 try have hB7 := below_undrew hB7
                 rw [← HPV.out]
                 have HM7 := Lib.hid (HMX.out.kept hB7)
                 have HB7 := Lib.hid (HBU.out.trans (hB7.mono (Nat.le_of_lt (lt_of_cell HC6.out))))
                 have HC7 := Lib.hid (HM7.out.cells hkn).1
                 obtain ⟨z7, c7⟩ := (HM7.out.cells hkn).2.1 s hsn
                 have f7 := (HM7.out.cells hkn).2.2 s
                 have HCS : Hid (∀ d, (w7.setCell ⟨G, s, none⟩ d).cell? ⟨B, k, none⟩ = some (.slice (some ⟨G, 0, none⟩) 4 4)) := Lib.hid (fun d => by
                   have hne : B ≠ G := by obtain ⟨vs, h1, h2, h3, h4, h5, h6, h7⟩ := HM7.out; omega
                   exact (World.cell?_of_block (a := ⟨B, k, none⟩) (Below.heap_setCell w7 ⟨G, s, none⟩ d B hne)).trans HC7.out)
                 clear hB7))
          all_goals
            have HM8 : Hid (MxIn xss B k G (s + 1) (prN gs k) (w7.setCell ⟨G, s, none⟩ (.int .i64 pv))) := Lib.hid (by rw [HPV.out]; exact HM7.out.store hsn)
            have HB8 : Hid (Below B w (w7.setCell ⟨G, s, none⟩ (.int .i64 pv))) := Lib.hid (HB7.out.setCell (by obtain ⟨vs, h1, h2, h3, h4, h5, h6, h7⟩ := HM7.out; exact Nat.le_of_lt h6) _)
            go_wp2_with fail
            go_roundw
            case rel => exact ⟨s + 1, by omega, by go_num, HM8.out, HB8.out⟩
            case measure => simp [intOf]; omega
        · obtain rfl : s = 4 := by omega
          have HL7 := Lib.hid (HMX.out.done HXL.out hkn (HXI.out k hkn _))
          go_wp2_with fail
          go_roundw
          case rel => exact ⟨k + 1, by omega, by go_num, HL7.out, HBU.out⟩
          case measure => simp [intOf]; omega
    · obtain rfl : k = 4 := by omega
      have HEND : Hid (∃ U, OwnM wo w.heap.size (.slice (some ⟨B, 0, none⟩) 4 4) U xss) := Lib.hid (by
        have e := HXL.out
        have hll' : LLW xss B xss.length wo := by rw [e]; exact hll
        obtain ⟨U, hU⟩ := hll'.all
        rw [e] at hU
        exact ⟨U, by rw [← HBE.out]; exact hU⟩)
      have HBD : Hid (Below w.heap.size w wo) := Lib.hid (by rw [← HBE.out]; exact hB)
      clear hll hB
      go_wp2_with fail
      go_ret
      first | exact ⟨_, rfl, HEND.out, HBD.out⟩ | (obtain ⟨U, hU⟩ := HEND.out; exact ⟨_, U, rfl, hU, HBD.out⟩)
set_option maxRecDepth 100000 in
set_option maxHeartbeats 6400000 in
theorem implPairCounts (gv : Value) (gs : List Rl) (w : World) (hfr : FewR gs) (hr : Rules w gv gs) :
    Calls Try.prog 51 #[.agg #[gv]] w fun e w' => ∃ y U, e = .returned (.tuple #[y, .int .i64 (pcA gs).2]) ∧ OwnM w' w.heap.size y U (pcA gs).1 ∧ Below w.heap.size w w' := by
  have hb := (Below.refl _ w).alloc (Nat.le_refl _) (.cells #[gv] 37)
  have hg := cell_new w gv 37
  have HV := Lib.hid (implValidGrammar gv gs _ hfr (hr.kept hb))
  have HMX := Lib.hid (fun W (h : gOk gs = true) (hb' : Below w.heap.size w W) hp => matrixOf_any gv gs w.heap.size W h hfr (hr.kept hb') hp)
  have HB := Lib.hid hb
  have HG := Lib.hid hg
  obtain ⟨Ag, cg, rfl, _⟩ := hr
  clear hb
  unfold pcA
  cases hok : gOk gs
  · rw [hok] at HV
    rw [if_neg (by simp)]
    clear hok
    go_enter Try.func51, Try.ntmps51
    go_wp2_with fail
    refine HV.out.mono ?_
    rintro e w3 ⟨rfl, hB3⟩
    have HB3 := Lib.hid (HB.out.trans (hB3.mono HB.out.size))
    clear hB3 hg
    go_wp2_with fail
    go_ret2
    exact ⟨_, [], rfl, ⟨World.ownsRow_nil _ _ _ _, Rws.nil _ _⟩, HB3.out⟩
  · rw [hok] at HV
    rw [if_pos rfl]
    have HMX := Lib.hid (fun W => HMX.out W hok)
    clear hok
    go_enter Try.func51, Try.ntmps51
    go_wp2_with fail
    refine HV.out.mono ?_
    rintro e w3 ⟨rfl, hB3⟩
    have HB3 := Lib.hid (HB.out.trans (hB3.mono HB.out.size))
    have HG3 := Lib.hid ((hB3.cell (lt_of_cell HG.out)).trans HG.out)
    clear hB3 hg
    go_wp2_with fail
    refine (HMX.out _ HB3.out HG3.out).mono ?_
    rintro e w4 ⟨y, U, rfl, ho, hB4⟩
    have HO := Lib.hid (ho.lower HB3.out.size)
    have HB4 := Lib.hid (HB3.out.trans (hB4.mono HB3.out.size))
    clear ho hB4
    go_wp2_with fail
    go_ret2
    exact ⟨_, U, rfl, HO.out, HB4.out⟩
set_option maxRecDepth 100000 in
set_option maxHeartbeats 6400000 in
theorem implRunCount (gv : Value) (gs : List Rl) (w : World) (hfr : FewR gs) (hr : Rules w gv gs) :
    Calls Try.prog 56 #[.agg #[gv]] w fun e w' => e = .returned (.tuple #[.int .i64 (rcA gs).1, .int .i64 (rcA gs).2]) ∧ Below w.heap.size w w' := by
  have HPC := Lib.hid (fun W (hb : Below w.heap.size w W) => implPairCounts gv gs W hfr (hr.kept hb))
  have HLN := Lib.hid (fun W (hb : Below w.heap.size w W) => implLengthOf gv gs W hfr (hr.kept hb))
  have HB0 := Lib.hid (Below.refl w.heap.size w)
  obtain ⟨Ag, cg, rfl, _⟩ := hr
  have hb1 := (Below.refl _ w).alloc (Nat.le_refl _) (.cells #[.slice Ag gs.length cg] 37)
  have HB1 := Lib.hid hb1
  have HG1 := Lib.hid (cell_new w (.slice Ag gs.length cg) 37)
  clear hb1
  unfold rcA
  unfold pcA at HPC
  unfold lenAns at HLN
  cases hok : gOk gs
  · rw [hok] at HPC
    rw [if_neg (by simp)]
    simp only [Bool.false_eq_true, if_false] at HPC
    clear hok
    go_enter Try.func56, Try.ntmps56
    go_wp2_with fail
    refine (HPC.out _ HB1.out).mono ?_
    rintro e w2 ⟨y, U, rfl, ho, hB2⟩
    have HB2 := Lib.hid (HB1.out.trans (hB2.mono HB1.out.size))
    clear ho hB2
    go_wp2_with fail
    go_ret2
    exact ⟨rfl, HB2.out⟩
  · rw [hok] at HPC HLN
    rw [if_pos rfl]
    simp only [if_true] at HPC HLN
    have HBD := Lib.hid (fun k (hk : k ≤ 4) => rc_bd hok hk)
    clear hok
    go_enter Try.func56, Try.ntmps56
    go_wp2_with fail
    refine (HPC.out _ HB1.out).mono ?_
    rintro e w2 ⟨y, U, rfl, ho, hB2⟩
    have HO := Lib.hid ho
    have HB2 := Lib.hid (HB1.out.trans (hB2.mono HB1.out.size))
    have HG2 := Lib.hid ((hB2.cell (lt_of_cell HG1.out)).trans HG1.out)
    have g2 := HG2.out
    obtain ⟨gy, cy, rfl, _, _, hgyc⟩ := tab_outer ho (by decide)
    clear ho hB2 hgyc
    go_wp2_with fail
    refine (HLN.out _ HB2.out).mono ?_
    rintro e w3 ⟨rfl, hB3⟩
    have HO3 := Lib.hid (HO.out.kept hB3)
    have HB3 := Lib.hid (HB2.out.trans (hB3.mono HB2.out.size))
    have hz : wordLen gs = rcS gs 0 := by unfold rcS; rw [sumN]; omega
    rw [hz]
    clear hB3 hz g2
    go_wp2_with fail
    go_loopw [6, 24] (fun n i wr => ∃ k : Nat, k ≤ 4 ∧ i = .int .i64 k ∧ n = .int .i64 (rcS gs k) ∧ wr = w3) (fun _ i _ => 4 - (intOf i).toNat)
    case atStart => exact ⟨0, Nat.zero_le _, rfl, rfl, rfl⟩
    case round =>
      obtain ⟨k, hk, rfl, rfl, rfl⟩ := hrel
      by_cases hk4 : k < 4
      · obtain ⟨gi, ci, hUi, _, _, hgic, _, _⟩ := tab_row HO3.out (by decide) hk4
        obtain ⟨gy', cy', hy, _, _, hgyc⟩ := tab_outer HO3.out (by decide)
        injection hy with hy1' hy2' hy3'
        injection hy1' with hy1'
        injection hy1' with hy1'
        subst hy1' hy3'
        clear hy2'
        have e0 := hgyc k _ hUi
        have e1 := hgic k hk4
        have hbd := HBD.out (k + 1) (by omega)
        have hn := rc_next gs k
        rw [hn] at hbd
        have hw1 : IntKind.i64.wrap (rcS gs k - prN gs k k) = rcS gs k - prN gs k k := by rw [IntKind.wrap_i64]; omega
        have k0 : (0 : Int) ≤ (k : Int) := by omega
        have k1 : (k : Int) < 4 := by omega
        have HN := Lib.hid hn
        clear hn hbd hgic hgyc
        generalize prN gs k k = pv at *
        generalize rcS gs k = rv at *
        go_wp2_with fail
        go_roundw
        all_goals first | exact ⟨k + 1, by omega, by go_num, by rw [HN.out], by trivial⟩ | exact ⟨⟨k + 1, by omega, by go_num, by rw [HN.out], rfl⟩, by simp [intOf]; omega⟩ | (simp [intOf]; done) | (simp [intOf]; omega) | omega
      · obtain rfl : k = 4 := by omega
        go_wp2_with fail
        go_ret2
        exact ⟨rfl, HB3.out⟩
end Go.Proofs.Ytaffachjopjbgaa
