/-
  Contracts and numbers of the functions that the laws of this place call, one text behind the other. No condition beyond those that each theorem names.
-/
import Derived.Test.YtapemoehcohjgaaZ1
import Derived.StillTailTactics
import Derived.Deep.Cut
import Derived.BigQuiet
import Derived.Shelf.Strings.Search1
import Derived.Shelf.Strings.Search2
import Derived.Shelf.Strings.Search3
import Derived.Test.YtapemoehcohjgaaProg
import Derived.Lib.SliceRun
import Derived.WalkSpells
import Derived.Deep.RegionHeld3
import Derived.Deep.RegionLaw
import Derived.Deep.AppendLies
import Derived.Deep.MidRow
import Derived.Deep.WholeRow
namespace Go.Proofs.Ytapemoehcohjgaa
open Go.RowKit
open Wd
set_option linter.unusedVariables false
namespace Wd
/-- a cell of a table -/
def at2 (t : List (List Int)) (k : Nat) (s : Nat) : Int := (t.getD k []).getD s 0
/-- the visits of a rule, 24 wide: wa tells which states are wanted -/
def visR (wa : Int → Bool) (ms vs : List (List Int)) (x : Rl) (m : List Int) : List Int :=
  (List.range 24).map fun s => if x.L.size = 0 then at2 vs x.l.toNat s + at2 vs x.r.toNat (at2 ms x.l.toNat s).toNat else if wa (m.getD s 0) = true then 1 else 0
/-- those of the first rules -/
def visK (wa : Int → Bool) (nx : List (List Int)) (gs : List Rl) : Nat → List (List Int)
  | 0 => []
  | k + 1 => visK wa nx gs k ++ [visR wa (mapsK nx gs k) (visK wa nx gs k) (gs.getD k ⟨ByteArray.empty, 0, 0⟩) ((mapsK nx gs (k + 1)).getD k [])]
/-- behind how many letters the first visit is, -1 if there is none -/
def firR (wa : Int → Bool) (ln : List Int) (ms vs : List (List Int)) (x : Rl) (m : List Int) : List Int :=
  (List.range 24).map fun s => if x.L.size = 0 then (if at2 vs x.l.toNat s < 0 ∧ 0 ≤ at2 vs x.r.toNat (at2 ms x.l.toNat s).toNat then ln.getD x.l.toNat 0 + at2 vs x.r.toNat (at2 ms x.l.toNat s).toNat else at2 vs x.l.toNat s) else if wa (m.getD s 0) = true then 1 else -1
def firK (wa : Int → Bool) (nx : List (List Int)) (gs : List Rl) : Nat → List (List Int)
  | 0 => []
  | k + 1 => firK wa nx gs k ++ [firR wa (lens gs) (mapsK nx gs k) (firK wa nx gs k) (gs.getD k ⟨ByteArray.empty, 0, 0⟩) ((mapsK nx gs (k + 1)).getD k [])]
/-- the visit with a number, downwards -/
def fndF (wa : Int → Bool) (nx : List (List Int)) (gs : List Rl) : Nat → Nat → Nat → Int → Int
  | 0, _, _, _ => 1
  | f + 1, k, s, c =>
    if (gs.getD k ⟨ByteArray.empty, 0, 0⟩).L.size = 0 then
      (if c < at2 (visK wa nx gs gs.length) (gs.getD k ⟨ByteArray.empty, 0, 0⟩).l.toNat s then fndF wa nx gs f (gs.getD k ⟨ByteArray.empty, 0, 0⟩).l.toNat s c
       else (lens gs).getD (gs.getD k ⟨ByteArray.empty, 0, 0⟩).l.toNat 0 + fndF wa nx gs f (gs.getD k ⟨ByteArray.empty, 0, 0⟩).r.toNat (at2 (mapsK nx gs gs.length) (gs.getD k ⟨ByteArray.empty, 0, 0⟩).l.toNat s).toNat (c - at2 (visK wa nx gs gs.length) (gs.getD k ⟨ByteArray.empty, 0, 0⟩).l.toNat s))
    else 1
end Wd
theorem visK_len (wa : Int → Bool) (nx : List (List Int)) (gs : List Rl) : ∀ k, (visK wa nx gs k).length = k
  | 0 => rfl
  | k + 1 => by rw [visK, List.length_append, visK_len wa nx gs k]; rfl
theorem firK_len (wa : Int → Bool) (nx : List (List Int)) (gs : List Rl) : ∀ k, (firK wa nx gs k).length = k
  | 0 => rfl
  | k + 1 => by rw [firK, List.length_append, firK_len wa nx gs k]; rfl
theorem getD_snoc_lt {α : Type} (l : List α) (x d : α) (j : Nat) (h : j < l.length) : (l ++ [x]).getD j d = l.getD j d := by
  rw [List.getD_eq_getElem?_getD, List.getD_eq_getElem?_getD, List.getElem?_append_left h]
theorem getD_snoc_eq {α : Type} (l : List α) (x d : α) (j : Nat) (h : j = l.length) : (l ++ [x]).getD j d = x := by
  subst h; rw [List.getD_eq_getElem?_getD, List.getElem?_append_right (Nat.le_refl _)]; simp
theorem visK_at (wa : Int → Bool) (nx : List (List Int)) (gs : List Rl) (j s : Nat) : ∀ k, j < k → at2 (visK wa nx gs k) j s = at2 (visK wa nx gs (j + 1)) j s
  | 0, h => by omega
  | k + 1, h => by
    by_cases e : j = k
    · subst e; rfl
    · have := visK_at wa nx gs j s k (by omega)
      rw [← this]
      unfold at2
      rw [visK, getD_snoc_lt _ _ _ _ (by rw [visK_len]; omega)]
theorem firK_at (wa : Int → Bool) (nx : List (List Int)) (gs : List Rl) (j s : Nat) : ∀ k, j < k → at2 (firK wa nx gs k) j s = at2 (firK wa nx gs (j + 1)) j s
  | 0, h => by omega
  | k + 1, h => by
    by_cases e : j = k
    · subst e; rfl
    · have := firK_at wa nx gs j s k (by omega)
      rw [← this]
      unfold at2
      rw [firK, getD_snoc_lt _ _ _ _ (by rw [firK_len]; omega)]
theorem mapsK_at (nx : List (List Int)) (gs : List Rl) (j s : Nat) {k n : Nat} (h1 : j < k) (h2 : j < n) : at2 (mapsK nx gs k) j s = at2 (mapsK nx gs n) j s := by
  unfold at2
  rw [mapsK_getD nx gs j k h1, mapsK_getD nx gs j n h2]
/-- the equations of a rule, over the whole tables -/
theorem vis_pair (wa : Int → Bool) (nx : List (List Int)) {gs : List Rl} {k a b s : Nat} (hk : k < gs.length) (hz : gs[k].L.size = 0) (ha : gs[k].l = a) (hb : gs[k].r = b) (hak : a < k) (hbk : b < k) (hs : s < 24) :
    at2 (visK wa nx gs gs.length) k s = at2 (visK wa nx gs gs.length) a s + at2 (visK wa nx gs gs.length) b (at2 (mapsK nx gs gs.length) a s).toNat := by
  rw [visK_at wa nx gs k s _ hk, visK_at wa nx gs a _ _ (Nat.lt_trans hak hk), visK_at wa nx gs b _ _ (Nat.lt_trans hbk hk), ← visK_at wa nx gs a s k hak, ← visK_at wa nx gs b _ k hbk, mapsK_at nx gs a s (Nat.lt_trans hak hk) hak]
  conv => lhs; unfold at2
  rw [visK, getD_snoc_eq _ _ _ _ (visK_len wa nx gs k).symm]
  unfold visR
  rw [List.getD_eq_getElem?_getD, List.getElem?_map, List.getElem?_range hs, List.getD_eq_getElem?_getD, List.getElem?_eq_getElem hk]
  simp only [Option.map_some, Option.getD_some, if_pos hz, ha, hb, Int.toNat_natCast]
theorem vis_letter (wa : Int → Bool) (nx : List (List Int)) {gs : List Rl} {k s : Nat} (hk : k < gs.length) (hz : gs[k].L.size ≠ 0) (hs : s < 24) :
    at2 (visK wa nx gs gs.length) k s = if wa (at2 (mapsK nx gs gs.length) k s) = true then 1 else 0 := by
  rw [visK_at wa nx gs k s _ hk, mapsK_at nx gs k s hk (Nat.lt_succ_self k)]
  conv => lhs; unfold at2
  rw [visK, getD_snoc_eq _ _ _ _ (visK_len wa nx gs k).symm]
  unfold visR
  rw [List.getD_eq_getElem?_getD, List.getElem?_map, List.getElem?_range hs, List.getD_eq_getElem?_getD (l := gs), List.getElem?_eq_getElem hk]
  simp only [Option.map_some, Option.getD_some, if_neg hz]
  rfl
theorem fir_pair (wa : Int → Bool) (nx : List (List Int)) {gs : List Rl} {k a b s : Nat} (hk : k < gs.length) (hz : gs[k].L.size = 0) (ha : gs[k].l = a) (hb : gs[k].r = b) (hak : a < k) (hbk : b < k) (hs : s < 24) :
    at2 (firK wa nx gs gs.length) k s = if at2 (firK wa nx gs gs.length) a s < 0 ∧ 0 ≤ at2 (firK wa nx gs gs.length) b (at2 (mapsK nx gs gs.length) a s).toNat then (lens gs).getD a 0 + at2 (firK wa nx gs gs.length) b (at2 (mapsK nx gs gs.length) a s).toNat else at2 (firK wa nx gs gs.length) a s := by
  rw [firK_at wa nx gs k s _ hk, firK_at wa nx gs a _ _ (Nat.lt_trans hak hk), firK_at wa nx gs b _ _ (Nat.lt_trans hbk hk), ← firK_at wa nx gs a s k hak, ← firK_at wa nx gs b _ k hbk, mapsK_at nx gs a s (Nat.lt_trans hak hk) hak]
  conv => lhs; unfold at2
  rw [firK, getD_snoc_eq _ _ _ _ (firK_len wa nx gs k).symm]
  unfold firR
  rw [List.getD_eq_getElem?_getD, List.getElem?_map, List.getElem?_range hs, List.getD_eq_getElem?_getD (l := gs), List.getElem?_eq_getElem hk]
  simp only [Option.map_some, Option.getD_some, if_pos hz, ha, hb, Int.toNat_natCast]
theorem fir_letter (wa : Int → Bool) (nx : List (List Int)) {gs : List Rl} {k s : Nat} (hk : k < gs.length) (hz : gs[k].L.size ≠ 0) (hs : s < 24) :
    at2 (firK wa nx gs gs.length) k s = if wa (at2 (mapsK nx gs gs.length) k s) = true then 1 else -1 := by
  rw [firK_at wa nx gs k s _ hk, mapsK_at nx gs k s hk (Nat.lt_succ_self k)]
  conv => lhs; unfold at2
  rw [firK, getD_snoc_eq _ _ _ _ (firK_len wa nx gs k).symm]
  unfold firR
  rw [List.getD_eq_getElem?_getD, List.getElem?_map, List.getElem?_range hs, List.getD_eq_getElem?_getD (l := gs), List.getElem?_eq_getElem hk]
  simp only [Option.map_some, Option.getD_some, if_neg hz]
  rfl
/-- what is right of a grammar's rule -/
theorem rule_cases {gs : List Rl} (hfit : fits gs = true) {k : Nat} (hk : k < gs.length) : gs[k].L.size ≠ 0 ∨ (gs[k].L.size = 0 ∧ ∃ a b : Nat, gs[k].l = a ∧ gs[k].r = b ∧ a < k ∧ b < k) := by
  by_cases hz : gs[k].L.size = 0
  · obtain ⟨⟨a1, a2⟩, b1, b2⟩ := (ok_pair hz).1 (fits_at hfit k hk)
    exact .inr ⟨hz, gs[k].l.toNat, gs[k].r.toNat, by omega, by omega, by omega, by omega⟩
  · exact .inl hz
theorem map_lt {nx : List (List Int)} {st : Int} {gs : List Rl} (h : nx.all (rowOk st) = true) (hl : (nx.length : Int) = st) (h1 : 1 ≤ st) (h24 : st ≤ 24) (hfit : fits gs = true) {k s : Nat} (hk : k < gs.length) (hs : s < 24) : (at2 (mapsK nx gs gs.length) k s).toNat < 24 := by
  obtain ⟨m1, m2⟩ := mapsK_ok h hl h1 h24 hfit gs.length (Nat.le_refl _) k hk
  unfold at2
  rw [List.getD_eq_getElem?_getD (i := s), List.getElem?_eq_getElem (by omega), Option.getD_some]
  have := m2 _ (List.getElem_mem (show s < ((mapsK nx gs gs.length).getD k []).length by omega))
  omega
/-- visits are counted upwards from 0; there is a first one where there is one -/
theorem vis_fir {nx : List (List Int)} {st : Int} {gs : List Rl} (wa : Int → Bool) (h : nx.all (rowOk st) = true) (hl : (nx.length : Int) = st) (h1 : 1 ≤ st) (h24 : st ≤ 24) (hfit : fits gs = true) : ∀ m k s, k < m → k < gs.length → s < 24 →
    0 ≤ at2 (visK wa nx gs gs.length) k s ∧ (at2 (visK wa nx gs gs.length) k s = 0 ∧ at2 (firK wa nx gs gs.length) k s = -1 ∨ 0 < at2 (visK wa nx gs gs.length) k s ∧ 1 ≤ at2 (firK wa nx gs gs.length) k s)
  | 0, k, s, hm, _, _ => by omega
  | m + 1, k, s, hm, hk, hs => by
    rcases rule_cases hfit hk with hz | ⟨hz, a, b, ha, hb, hak, hbk⟩
    · rw [vis_letter wa nx hk hz hs, fir_letter wa nx hk hz hs]
      split
      · omega
      · omega
    · have ia := vis_fir wa h hl h1 h24 hfit m a s (by omega) (by omega) hs
      have ib := vis_fir wa h hl h1 h24 hfit m b (at2 (mapsK nx gs gs.length) a s).toNat (by omega) (by omega) (map_lt h hl h1 h24 hfit (by omega) hs)
      have lp := lens_pos (gs := gs) (k := a) (by omega) (fun j hj _ => fits_at hfit j hj)
      rw [vis_pair wa nx hk hz ha hb hak hbk hs, fir_pair wa nx hk hz ha hb hak hbk hs]
      split <;> omega
/-- the first visit lies in the word -/
theorem fir_bd {nx : List (List Int)} {st : Int} {gs : List Rl} (wa : Int → Bool) (h : nx.all (rowOk st) = true) (hl : (nx.length : Int) = st) (h1 : 1 ≤ st) (h24 : st ≤ 24) (hfit : fits gs = true) : ∀ m k s, k < m → k < gs.length → s < 24 →
    -1 ≤ at2 (firK wa nx gs gs.length) k s ∧ at2 (firK wa nx gs gs.length) k s ≤ (lens gs).getD k 0
  | 0, k, s, hm, _, _ => by omega
  | m + 1, k, s, hm, hk, hs => by
    have lk := lens_pos (gs := gs) (k := k) hk (fun j hj _ => fits_at hfit j hj)
    rcases rule_cases hfit hk with hz | ⟨hz, a, b, ha, hb, hak, hbk⟩
    · rw [fir_letter wa nx hk hz hs]
      split <;> omega
    · have ia := fir_bd wa h hl h1 h24 hfit m a s (by omega) (by omega) hs
      have ib := fir_bd wa h hl h1 h24 hfit m b (at2 (mapsK nx gs gs.length) a s).toNat (by omega) (by omega) (map_lt h hl h1 h24 hfit (by omega) hs)
      have lp := lens_pos (gs := gs) (k := a) (by omega) (fun j hj _ => fits_at hfit j hj)
      have hok := fits_at hfit k hk
      have hsum : (lens gs).getD k 0 = (lens gs).getD a 0 + (lens gs).getD b 0 := by
        have := vals_pair (fun a b => a + b) gs k hk hz hok
        rw [ha, hb, Int.toNat_natCast, Int.toNat_natCast] at this
        exact this
      have lb := lens_pos (gs := gs) (k := b) (by omega) (fun j hj _ => fits_at hfit j hj)
      rw [fir_pair wa nx hk hz ha hb hak hbk hs]
      split <;> omega
/-- the visit with the number 0 is the first one -/
theorem fnd_fir {nx : List (List Int)} {st : Int} {gs : List Rl} (wa : Int → Bool) (h : nx.all (rowOk st) = true) (hl : (nx.length : Int) = st) (h1 : 1 ≤ st) (h24 : st ≤ 24) (hfit : fits gs = true) : ∀ f k s, k < f → k < gs.length → s < 24 → 0 < at2 (visK wa nx gs gs.length) k s →
    fndF wa nx gs f k s 0 = at2 (firK wa nx gs gs.length) k s
  | 0, k, s, hm, _, _, _ => by omega
  | f + 1, k, s, hm, hk, hs, hv => by
    have hg : gs.getD k ⟨ByteArray.empty, 0, 0⟩ = gs[k] := by rw [List.getD_eq_getElem?_getD, List.getElem?_eq_getElem hk]; rfl
    rcases rule_cases hfit hk with hz | ⟨hz, a, b, ha, hb, hak, hbk⟩
    · rw [fndF, hg, if_neg hz]
      rw [vis_letter wa nx hk hz hs] at hv
      rw [fir_letter wa nx hk hz hs]
      split at hv
      · next hw => rw [if_pos hw]
      · omega
    · have hmb := map_lt h hl h1 h24 hfit (show a < gs.length by omega) hs
      have ia := vis_fir wa h hl h1 h24 hfit (a + 1) a s (by omega) (by omega) hs
      have ib := vis_fir wa h hl h1 h24 hfit (b + 1) b (at2 (mapsK nx gs gs.length) a s).toNat (by omega) (by omega) hmb
      rw [vis_pair wa nx hk hz ha hb hak hbk hs] at hv
      rw [fndF, hg, if_pos hz, ha, hb, Int.toNat_natCast, Int.toNat_natCast, fir_pair wa nx hk hz ha hb hak hbk hs]
      by_cases hp : 0 < at2 (visK wa nx gs gs.length) a s
      · rw [if_pos hp, if_neg (by omega), fnd_fir wa h hl h1 h24 hfit f a s (by omega) (by omega) hs hp]
      · have h0 : at2 (visK wa nx gs gs.length) a s = 0 := by omega
        rw [if_neg hp, h0, Int.sub_zero, if_pos (by omega), fnd_fir wa h hl h1 h24 hfit f b _ (by omega) (by omega) hmb (by omega)]
theorem fnd_pair (wa : Int → Bool) (nx : List (List Int)) {gs : List Rl} {k a b s f : Nat} {c : Int} (hk : k < gs.length) (hz : gs[k].L.size = 0) (ha : gs[k].l = a) (hb : gs[k].r = b) :
    fndF wa nx gs (f + 1) k s c = if c < at2 (visK wa nx gs gs.length) a s then fndF wa nx gs f a s c else (lens gs).getD a 0 + fndF wa nx gs f b (at2 (mapsK nx gs gs.length) a s).toNat (c - at2 (visK wa nx gs gs.length) a s) := by
  have hg : gs.getD k ⟨ByteArray.empty, 0, 0⟩ = gs[k] := by rw [List.getD_eq_getElem?_getD, List.getElem?_eq_getElem hk]; rfl
  rw [fndF, hg, if_pos hz, ha, hb, Int.toNat_natCast, Int.toNat_natCast]
theorem fnd_letter (wa : Int → Bool) (nx : List (List Int)) {gs : List Rl} {k s f : Nat} {c : Int} (hk : k < gs.length) (hz : gs[k].L.size ≠ 0) : fndF wa nx gs (f + 1) k s c = 1 := by
  have hg : gs.getD k ⟨ByteArray.empty, 0, 0⟩ = gs[k] := by rw [List.getD_eq_getElem?_getD, List.getElem?_eq_getElem hk]; rfl
  rw [fndF, hg, if_neg hz]
theorem fnd_stable {gs : List Rl} (wa : Int → Bool) (nx : List (List Int)) (hfit : fits gs = true) : ∀ f1 f2 k s c, k < gs.length → k < f1 → k < f2 → fndF wa nx gs f1 k s c = fndF wa nx gs f2 k s c
  | 0, f2, k, s, c, hk, h1, h2 => by omega
  | f1 + 1, 0, k, s, c, hk, h1, h2 => by omega
  | f1 + 1, f2 + 1, k, s, c, hk, h1, h2 => by
    rcases rule_cases hfit hk with hz | ⟨hz, a, b, ha, hb, hak, hbk⟩
    · rw [fnd_letter wa nx hk hz, fnd_letter wa nx hk hz]
    · rw [fnd_pair wa nx hk hz ha hb, fnd_pair wa nx hk hz ha hb, fnd_stable wa nx hfit f1 f2 a s c (by omega) (by omega) (by omega), fnd_stable wa nx hfit f1 f2 b _ _ (by omega) (by omega) (by omega)]
/-- there are no more visits than letters, and each lies in the word -/
theorem fnd_bd {nx : List (List Int)} {st : Int} {gs : List Rl} (wa : Int → Bool) (h : nx.all (rowOk st) = true) (hl : (nx.length : Int) = st) (h1 : 1 ≤ st) (h24 : st ≤ 24) (hfit : fits gs = true) : ∀ m k s (c : Int), k < m → k < gs.length → s < 24 →
    at2 (visK wa nx gs gs.length) k s ≤ (lens gs).getD k 0 ∧ (0 ≤ c → c < at2 (visK wa nx gs gs.length) k s → 1 ≤ fndF wa nx gs m k s c ∧ fndF wa nx gs m k s c ≤ (lens gs).getD k 0)
  | 0, k, s, c, hm, _, _ => by omega
  | m + 1, k, s, c, hm, hk, hs => by
    have lk := lens_pos (gs := gs) (k := k) hk (fun j hj _ => fits_at hfit j hj)
    rcases rule_cases hfit hk with hz | ⟨hz, a, b, ha, hb, hak, hbk⟩
    · rw [vis_letter wa nx hk hz hs, fnd_letter wa nx hk hz]
      split <;> omega
    · have hmb := map_lt h hl h1 h24 hfit (show a < gs.length by omega) hs
      have ia := fnd_bd wa h hl h1 h24 hfit m a s c (by omega) (by omega) hs
      have ib := fnd_bd wa h hl h1 h24 hfit m b (at2 (mapsK nx gs gs.length) a s).toNat (c - at2 (visK wa nx gs gs.length) a s) (by omega) (by omega) hmb
      have lp := lens_pos (gs := gs) (k := a) (by omega) (fun j hj _ => fits_at hfit j hj)
      have lb := lens_pos (gs := gs) (k := b) (by omega) (fun j hj _ => fits_at hfit j hj)
      have hsum : (lens gs).getD k 0 = (lens gs).getD a 0 + (lens gs).getD b 0 := by
        have := vals_pair (fun a b => a + b) gs k hk hz (fits_at hfit k hk)
        rw [ha, hb, Int.toNat_natCast, Int.toNat_natCast] at this
        exact this
      rw [vis_pair wa nx hk hz ha hb hak hbk hs, fnd_pair wa nx hk hz ha hb]
      refine ⟨by omega, fun h0 hc => ?_⟩
      split
      · have := ia.2 h0 (by omega); omega
      · have := ib.2 (by omega) (by omega); omega
end Go.Proofs.Ytapemoehcohjgaa
namespace Go.Proofs.Ytapemoehcohjgaa
open Go.RowKit
open Wd
set_option linter.unusedVariables false
namespace Wd
/-- the sum of the first numbers of a row -/
def sumN (f : Nat → Int) : Nat → Int
  | 0 => 0
  | k + 1 => sumN f k + f k
/-- one more at a place -/
def upd1 (f : Nat → Int) (a : Nat) (d : Int) : Nat → Int := fun i => if i = a then f i + d else f i
def upd2 (u : Nat → Nat → Int) (a t : Nat) (d : Int) : Nat → Nat → Int := fun j s => if j = a ∧ s = t then u j s + d else u j s
/-- where a rule leads -/
def qAt (nx : List (List Int)) (gs : List Rl) (k t : Nat) : Nat := (at2 (mapsK nx gs gs.length) k t).toNat
/-- what is counted for rules: the sum of its parts, the weight of the state behind a letter -/
def VOk (nx : List (List Int)) (gs : List Rl) (N : Nat) (V : Nat → Nat → Int) (w : Nat → Int) : Prop :=
  (∀ k a b t, k < gs.length → t < N → (gs.getD k ⟨ByteArray.empty, 0, 0⟩).L.size = 0 → (gs.getD k ⟨ByteArray.empty, 0, 0⟩).l = ((a : Nat) : Int) → (gs.getD k ⟨ByteArray.empty, 0, 0⟩).r = ((b : Nat) : Int) → V k t = V a t + V b (qAt nx gs a t)) ∧
  (∀ k t, k < gs.length → t < N → (gs.getD k ⟨ByteArray.empty, 0, 0⟩).L.size ≠ 0 → V k t = w (qAt nx gs k t))
/-- the sum over the first rules -/
def sumR (N : Nat) (u V : Nat → Nat → Int) (k : Nat) : Int := sumN (fun j => sumN (fun s => u j s * V j s) N) k
/-- what of a rule is not yet taken apart -/
def tailR (N : Nat) (u V : Nat → Nat → Int) (r t : Nat) : Int := sumN (fun s => if t ≤ s then u r s * V r s else 0) N
/-- what does not change, between two states of a rule -/
def VcI (nx : List (List Int)) (gs : List Rl) (N go r t : Nat) (u : Nat → Nat → Int) (o : Nat → Int) : Prop :=
  (∀ j s, 0 ≤ u j s) ∧ (∀ s, 0 ≤ o s) ∧ ∀ V w, VOk nx gs N V w → sumN (fun s => w s * o s) N + sumR N u V r + tailR N u V r t = V (gs.length - 1) go
end Wd
theorem sumN_congr {f g : Nat → Int} : ∀ {n}, (∀ i, i < n → f i = g i) → sumN f n = sumN g n
  | 0, _ => rfl
  | n + 1, h => by rw [sumN, sumN, sumN_congr (fun i hi => h i (by omega)), h n (by omega)]
theorem sumN_zero {f : Nat → Int} : ∀ {n}, (∀ i, i < n → f i = 0) → sumN f n = 0
  | 0, _ => rfl
  | n + 1, h => by rw [sumN, sumN_zero (fun i hi => h i (by omega)), h n (by omega)]; rfl
theorem sumN_pos {f : Nat → Int} : ∀ {n}, (∀ i, i < n → 0 ≤ f i) → 0 ≤ sumN f n
  | 0, _ => Int.le_refl _
  | n + 1, h => by have h1 := sumN_pos (n := n) (fun i hi => h i (by omega)); have h2 := h n (by omega); rw [sumN]; omega
theorem sumN_one {f g : Nat → Int} {a : Nat} {d : Int} : ∀ {n}, a < n → (∀ i, i < n → i ≠ a → g i = f i) → g a = f a + d → sumN g n = sumN f n + d
  | 0, h, _, _ => by omega
  | n + 1, h, h1, h2 => by
    rw [sumN, sumN]
    by_cases e : a = n
    · subst e
      rw [sumN_congr (n := a) (f := g) (g := f) (fun i hi => h1 i (by omega) (by omega)), h2]
      omega
    · rw [sumN_one (n := n) (by omega) (fun i hi => h1 i (by omega)) h2, h1 n (by omega) (by omega)]
      omega
theorem sumN_ge {f : Nat → Int} {a n : Nat} (ha : a < n) (h : ∀ i, i < n → 0 ≤ f i) : f a ≤ sumN f n := by
  have h1 := sumN_one (f := fun i => if i = a then 0 else f i) (g := f) (a := a) (d := f a) ha (fun i _ hi => by simp [hi]) (by simp)
  have h2 := sumN_pos (f := fun i => if i = a then 0 else f i) (n := n) (fun i hi => by
    show 0 ≤ if i = a then 0 else f i
    split
    · omega
    · exact h i hi)
  omega
theorem upd1_same (f : Nat → Int) (a : Nat) (d : Int) : upd1 f a d a = f a + d := by simp [upd1]
theorem upd1_ne (f : Nat → Int) {a i : Nat} (d : Int) (h : i ≠ a) : upd1 f a d i = f i := by simp [upd1, h]
theorem upd2_same (u : Nat → Nat → Int) (a t : Nat) (d : Int) : upd2 u a t d a t = u a t + d := by simp [upd2]
theorem upd2_ne (u : Nat → Nat → Int) {a t j s : Nat} (d : Int) (h : ¬ (j = a ∧ s = t)) : upd2 u a t d j s = u j s := by simp [upd2, h]
theorem upd2_zero (u : Nat → Nat → Int) (a t : Nat) : upd2 u a t 0 = u := by
  funext j s
  unfold upd2
  split
  · omega
  · rfl
theorem upd1_zero (f : Nat → Int) (a : Nat) : upd1 f a 0 = f := by
  funext j
  unfold upd1
  split
  · omega
  · rfl
/-- one more at a place of the first rules -/
theorem sumR_upd {N a t k : Nat} {u V : Nat → Nat → Int} {d : Int} (ha : a < k) (ht : t < N) : sumR N (upd2 u a t d) V k = sumR N u V k + d * V a t := by
  unfold sumR
  refine sumN_one ha (fun i hi hne => sumN_congr (fun s hs => by rw [upd2_ne u d (fun h => hne h.1)])) ?_
  refine sumN_one ht (fun s hs hne => by rw [upd2_ne u d (fun h => hne h.2)]) ?_
  show upd2 u a t d a t * V a t = u a t * V a t + d * V a t
  rw [upd2_same, Int.add_mul]
theorem tailR_far {N a t r s : Nat} {u V : Nat → Nat → Int} {d : Int} (h : a ≠ r) : tailR N (upd2 u a t d) V r s = tailR N u V r s := by
  unfold tailR
  refine sumN_congr (fun i hi => ?_)
  rw [upd2_ne u d (fun e => h e.1.symm)]
theorem tailR_step {N r t : Nat} {u V : Nat → Nat → Int} (ht : t < N) : tailR N u V r t = tailR N u V r (t + 1) + u r t * V r t := by
  unfold tailR
  refine sumN_one (f := fun s => if t + 1 ≤ s then u r s * V r s else 0) ht (fun i hi hne => ?_) ?_
  · by_cases h : t ≤ i
    · rw [if_pos h, if_pos (by omega)]
    · rw [if_neg h, if_neg (by omega)]
  · show (if t ≤ t then u r t * V r t else 0) = (if t + 1 ≤ t then u r t * V r t else 0) + u r t * V r t
    rw [if_pos (Nat.le_refl t), if_neg (by omega)]
    omega
theorem tailR_end {N r : Nat} {u V : Nat → Nat → Int} : tailR N u V r N = 0 := by
  unfold tailR
  exact sumN_zero (fun i hi => by rw [if_neg (by omega)])
theorem tailR_zero {N r : Nat} {u V : Nat → Nat → Int} : tailR N u V r 0 = sumN (fun s => u r s * V r s) N := by
  unfold tailR
  exact sumN_congr (fun i hi => by rw [if_pos (Nat.zero_le _)])
/-- the start: the last rule is met once -/
theorem VcI.start {nx : List (List Int)} {gs : List Rl} {N go : Nat} (hg : go < N) : VcI nx gs N go (gs.length - 1) 0 (upd2 (fun _ _ => 0) (gs.length - 1) go 1) (fun _ => 0) := by
  refine ⟨fun j s => ?_, fun s => Int.le_refl _, fun V w hV => ?_⟩
  · unfold upd2
    show 0 ≤ if j = gs.length - 1 ∧ s = go then (0 : Int) + 1 else 0
    split <;> omega
  · rw [sumN_zero (fun i hi => by show w i * 0 = 0; rw [Int.mul_zero]), tailR_zero]
    have h1 : sumR N (upd2 (fun _ _ => 0) (gs.length - 1) go 1) V (gs.length - 1) = 0 := by
      unfold sumR
      refine sumN_zero (fun i hi => sumN_zero (fun s hs => ?_))
      rw [upd2_ne _ _ (fun h => by omega), Int.zero_mul]
    have h2 : sumN (fun s => upd2 (fun _ _ => (0 : Int)) (gs.length - 1) go 1 (gs.length - 1) s * V (gs.length - 1) s) N = sumN (fun _ => (0 : Int)) N + V (gs.length - 1) go := by
      refine sumN_one hg (fun i hi hne => ?_) ?_
      · rw [upd2_ne _ _ (fun h => hne h.2), Int.zero_mul]
      · rw [upd2_same]; omega
    rw [h1, h2, sumN_zero (fun _ _ => rfl)]
    omega
/-- the next rule -/
theorem VcI.down {nx : List (List Int)} {gs : List Rl} {N go r : Nat} {u : Nat → Nat → Int} {o : Nat → Int} (h : VcI nx gs N go (r + 1) N u o) : VcI nx gs N go r 0 u o := by
  refine ⟨h.1, h.2.1, fun V w hV => ?_⟩
  have := h.2.2 V w hV
  rw [tailR_end] at this
  rw [tailR_zero, ← this]
  unfold sumR
  rw [sumN]
  omega
/-- a letter in a state -/
theorem VcI.letter {nx : List (List Int)} {gs : List Rl} {N go r t : Nat} {u : Nat → Nat → Int} {o : Nat → Int} (h : VcI nx gs N go r t u o) (hr : r < gs.length) (ht : t < N) (hq : qAt nx gs r t < N) (hz : (gs.getD r ⟨ByteArray.empty, 0, 0⟩).L.size ≠ 0) : VcI nx gs N go r (t + 1) u (upd1 o (qAt nx gs r t) (u r t)) := by
  refine ⟨h.1, fun s => ?_, fun V w hV => ?_⟩
  · have h1 := h.2.1 s
    have h2 := h.1 r t
    unfold upd1
    split <;> omega
  · have h1 := h.2.2 V w hV
    rw [tailR_step ht, hV.2 r t hr ht hz] at h1
    have h2 : sumN (fun s => w s * upd1 o (qAt nx gs r t) (u r t) s) N = sumN (fun s => w s * o s) N + u r t * w (qAt nx gs r t) := by
      refine sumN_one hq (fun i hi hne => by rw [upd1_ne _ _ hne]) ?_
      rw [upd1_same, Int.mul_add, Int.mul_comm (u r t)]
    omega
/-- a pair in a state -/
theorem VcI.pair {nx : List (List Int)} {gs : List Rl} {N go r t a b : Nat} {u : Nat → Nat → Int} {o : Nat → Int} (h : VcI nx gs N go r t u o) (hr : r < gs.length) (ht : t < N) (hq : qAt nx gs a t < N) (hz : (gs.getD r ⟨ByteArray.empty, 0, 0⟩).L.size = 0) (ha : (gs.getD r ⟨ByteArray.empty, 0, 0⟩).l = (a : Int)) (hb : (gs.getD r ⟨ByteArray.empty, 0, 0⟩).r = (b : Int)) (har : a < r) (hbr : b < r) :
    VcI nx gs N go r (t + 1) (upd2 (upd2 u a t (u r t)) b (qAt nx gs a t) (u r t)) o := by
  have hn := h.1 r t
  refine ⟨fun j s => ?_, h.2.1, fun V w hV => ?_⟩
  · have h1 := h.1 j s
    unfold upd2
    split <;> split <;> omega
  · have h1 := h.2.2 V w hV
    rw [tailR_step ht, hV.1 r a b t hr ht hz ha hb, Int.mul_add] at h1
    rw [sumR_upd hbr hq, sumR_upd har ht, tailR_far (by omega), tailR_far (by omega)]
    omega
/-- behind all rules: what was counted -/
theorem VcI.done {nx : List (List Int)} {gs : List Rl} {N go : Nat} {u : Nat → Nat → Int} {o : Nat → Int} (h : VcI nx gs N go 0 N u o) {V : Nat → Nat → Int} {w : Nat → Int} (hV : VOk nx gs N V w) : sumN (fun s => w s * o s) N = V (gs.length - 1) go := by
  have := h.2.2 V w hV
  rw [tailR_end] at this
  have h0 : sumR N u V 0 = 0 := rfl
  omega
theorem getD_rl {gs : List Rl} {k : Nat} (hk : k < gs.length) : gs.getD k ⟨ByteArray.empty, 0, 0⟩ = gs[k] := by rw [List.getD_eq_getElem?_getD, List.getElem?_eq_getElem hk]; rfl
/-- the lengths are such a count, and so are the visits -/
theorem vok_lens {nx : List (List Int)} {gs : List Rl} {N : Nat} (hfit : fits gs = true) : VOk nx gs N (fun k _ => (lens gs).getD k 0) (fun _ => 1) := by
  refine ⟨fun k a b t hk _ hz ha hb => ?_, fun k t hk _ hz => ?_⟩
  · rw [getD_rl hk] at hz ha hb
    have := vals_pair (fun a b => a + b) gs k hk hz (fits_at hfit k hk)
    rw [ha, hb, Int.toNat_natCast, Int.toNat_natCast] at this
    exact this
  · rw [getD_rl hk] at hz
    exact vals_letter (fun a b => a + b) gs k hk hz
theorem vok_vis {nx : List (List Int)} {gs : List Rl} {N : Nat} (wa : Int → Bool) (hfit : fits gs = true) (hN : N ≤ 24) (hm : ∀ k t, k < gs.length → t < N → 0 ≤ at2 (mapsK nx gs gs.length) k t) : VOk nx gs N (fun k t => at2 (visK wa nx gs gs.length) k t) (fun s => if wa (s : Int) = true then 1 else 0) := by
  refine ⟨fun k a b t hk ht hz ha hb => ?_, fun k t hk ht hz => ?_⟩
  · rw [getD_rl hk] at hz ha hb
    obtain ⟨⟨a1, a2⟩, b1, b2⟩ := (ok_pair hz).1 (fits_at hfit k hk)
    exact vis_pair wa nx hk hz ha hb (by omega) (by omega) (by omega)
  · rw [getD_rl hk] at hz
    show at2 (visK wa nx gs gs.length) k t = if wa ((qAt nx gs k t : Nat) : Int) = true then 1 else 0
    rw [vis_letter wa nx hk hz (by omega)]
    unfold qAt
    rw [Int.toNat_of_nonneg (hm k t hk ht)]
/-- no count passes the length -/
theorem VcI.bound {nx : List (List Int)} {gs : List Rl} {N go r t : Nat} {u : Nat → Nat → Int} {o : Nat → Int} (h : VcI nx gs N go r t u o) (hfit : fits gs = true) (hr : r < gs.length) {s : Nat} (hs : s < N) :
    o s ≤ (lens gs).getD (gs.length - 1) 0 ∧ (∀ j, j < r → u j s ≤ (lens gs).getD (gs.length - 1) 0) ∧ (t ≤ s → u r s ≤ (lens gs).getD (gs.length - 1) 0) := by
  have h1 := h.2.2 _ _ (vok_lens (N := N) (nx := nx) hfit)
  have lp : ∀ j, j < gs.length → 1 ≤ (lens gs).getD j 0 := fun j hj => by
    have := lens_pos (gs := gs) (k := j) hj (fun j hj _ => fits_at hfit j hj); omega
  have up : ∀ j s', j < gs.length → u j s' ≤ u j s' * (lens gs).getD j 0 := fun j s' hj => by
    have h2 := Int.mul_le_mul_of_nonneg_left (lp j hj) (h.1 j s')
    rw [Int.mul_one] at h2
    exact h2
  have un : ∀ j s', j < gs.length → 0 ≤ u j s' * (lens gs).getD j 0 := fun j s' hj => by have := up j s' hj; have := h.1 j s'; omega
  have p1 : 0 ≤ sumN (fun s => (1 : Int) * o s) N := sumN_pos (fun i _ => by have := h.2.1 i; omega)
  have p2 : 0 ≤ sumR N u (fun k _ => (lens gs).getD k 0) r := sumN_pos (fun j hj => sumN_pos (fun i _ => un j i (by omega)))
  have p3 : 0 ≤ tailR N u (fun k _ => (lens gs).getD k 0) r t := sumN_pos (fun i _ => by
    show 0 ≤ if t ≤ i then u r i * (lens gs).getD r 0 else 0
    split
    · exact un r i hr
    · omega)
  refine ⟨?_, fun j hj => ?_, fun hts => ?_⟩
  · have := sumN_ge (f := fun s => (1 : Int) * o s) hs (fun i _ => by have := h.2.1 i; omega)
    have e : (1 : Int) * o s = o s := Int.one_mul _
    simp only [e] at this
    omega
  · have g1 : u j s * (lens gs).getD j 0 ≤ sumN (fun s => u j s * (lens gs).getD j 0) N := sumN_ge (f := fun s => u j s * (lens gs).getD j 0) hs (fun i _ => un j i (by omega))
    have g2 : sumN (fun s => u j s * (lens gs).getD j 0) N ≤ sumR N u (fun k _ => (lens gs).getD k 0) r := sumN_ge (f := fun j => sumN (fun s => u j s * (lens gs).getD j 0) N) hj (fun i hi => sumN_pos (fun i' _ => un i i' (by omega)))
    have := up j s (by omega)
    omega
  · have g1 : (if t ≤ s then u r s * (lens gs).getD r 0 else 0) ≤ tailR N u (fun k _ => (lens gs).getD k 0) r t := sumN_ge (f := fun s => if t ≤ s then u r s * (lens gs).getD r 0 else 0) hs (fun i _ => by
      show 0 ≤ if t ≤ i then u r i * (lens gs).getD r 0 else 0
      split
      · exact un r i hr
      · omega)
    rw [if_pos hts] at g1
    have := up r s hr
    omega
/-- how often a state is met -/
theorem VcI.count {nx : List (List Int)} {gs : List Rl} {N go : Nat} {u : Nat → Nat → Int} {o : Nat → Int} (h : VcI nx gs N go 0 N u o) (hfit : fits gs = true) (hN : N ≤ 24) (hm : ∀ k t, k < gs.length → t < N → 0 ≤ at2 (mapsK nx gs gs.length) k t) {s : Nat} (hs : s < N) :
    o s = at2 (visK (fun q => decide (q = (s : Int))) nx gs gs.length) (gs.length - 1) go := by
  have h1 := VcI.done h (vok_vis (fun q => decide (q = (s : Int))) hfit hN hm)
  rw [← h1]
  have h2 := sumN_one (f := fun _ => (0 : Int)) (g := fun s' => (if (fun q => decide (q = (s : Int))) (s' : Int) = true then (1 : Int) else 0) * o s') (a := s) (d := o s) hs (fun i _ hne => by
    show (if decide ((i : Int) = (s : Int)) = true then (1 : Int) else 0) * o i = 0
    rw [if_neg (by simp; omega), Int.zero_mul]) (by
    show (if decide ((s : Int) = (s : Int)) = true then (1 : Int) else 0) * o s = 0 + o s
    rw [if_pos (by simp)]; omega)
  rw [h2, sumN_zero (fun _ _ => rfl)]
  omega
end Go.Proofs.Ytapemoehcohjgaa
namespace Go.Proofs.Ytapemoehcohjgaa
open Go.RowKit
open Wd
set_option linter.unusedVariables false
namespace Wd
def sum2 (f : Nat → Nat → Int) (n N : Nat) : Int := sumN (fun j => sumN (fun s => f j s) N) n
def rlAt (gs : List Rl) (j : Nat) : Rl := gs.getD j ⟨ByteArray.empty, 0, 0⟩
def isPr (gs : List Rl) (j : Nat) : Bool := decide ((rlAt gs j).L.size = 0)
/-- taken apart already: m rules are left, the last of them up to a state -/
def gone (gs : List Rl) (m t j s : Nat) : Bool := isPr gs j && (decide (m ≤ j) || (decide (j + 1 = m) && decide (s < t)))
/-- what is left, weighed -/
def restW (gs : List Rl) (u V : Nat → Nat → Int) (m t : Nat) : Int := sum2 (fun j s => if gone gs m t j s = true then 0 else u j s * V j s) gs.length 24
/-- a pair weighs what its two rules weigh -/
def PAdd (nx : List (List Int)) (gs : List Rl) (V : Nat → Nat → Int) : Prop :=
  ∀ k a b t, k < gs.length → t < 24 → (rlAt gs k).L.size = 0 → (rlAt gs k).l = ((a : Nat) : Int) → (rlAt gs k).r = ((b : Nat) : Int) → V k t = V a t + V b (qAt nx gs a t)
/-- between two states of a rule -/
structure MtI (nx : List (List Int)) (gs : List Rl) (st go m t : Nat) (u : Nat → Nat → Int) : Prop where
  pos : ∀ j s, 0 ≤ u j s
  out : ∀ j s, st ≤ s → u j s = 0
  sum : ∀ V, PAdd nx gs V → restW gs u V m t = V (gs.length - 1) go
/-- the table of what is met, flat -/
def metL (u : Nat → Nat → Int) (n : Nat) : List Int := (List.range (n * 24)).map fun c => u (c / 24) (c % 24)
/-- how long what is written for a letter is -/
def oL (ou : List (List ByteArray)) (s l : Nat) : Int := (((ou.getD s []).getD l ByteArray.empty).size : Int)
def cdV (ou : List (List ByteArray)) (nx : List (List Int)) (gs : List Rl) : Nat → Nat → Nat → Int
  | 0, _, _ => 0
  | k + 1, j, s => if j = k then (if (rlAt gs k).L.size = 0 then cdV ou nx gs k (rlAt gs k).l.toNat s + cdV ou nx gs k (rlAt gs k).r.toNat (qAt nx gs (rlAt gs k).l.toNat s) else oL ou s (ltNo (rlAt gs k))) else cdV ou nx gs k j s
/-- the length of the code of a rule in a state -/
def cd (ou : List (List ByteArray)) (nx : List (List Int)) (gs : List Rl) (j s : Nat) : Int := cdV ou nx gs gs.length j s
/-- what the letters of the first rules add -/
def lenK (gs : List Rl) (u V : Nat → Nat → Int) (k : Nat) : Int := sumN (fun j => if isPr gs j = true then 0 else sumN (fun s => u j s * V j s) 24) k
end Wd
theorem rlAt_eq {gs : List Rl} {k : Nat} (hk : k < gs.length) : rlAt gs k = gs[k] := getD_rl hk
theorem sum2_one {f g : Nat → Nat → Int} {j0 s0 n N : Nat} {d : Int} (hj : j0 < n) (hs : s0 < N) (h : ∀ j s, j < n → s < N → ¬ (j = j0 ∧ s = s0) → g j s = f j s) (h0 : g j0 s0 = f j0 s0 + d) : sum2 g n N = sum2 f n N + d := by
  unfold sum2
  refine sumN_one hj (fun j hj' hne => sumN_congr (fun s hs' => h j s hj' hs' (fun e => hne e.1))) ?_
  exact sumN_one hs (fun s hs' hne => h j0 s hj hs' (fun e => hne e.2)) h0
theorem sum2_ge {f : Nat → Nat → Int} {j0 s0 n N : Nat} (hj : j0 < n) (hs : s0 < N) (h : ∀ j s, j < n → s < N → 0 ≤ f j s) : f j0 s0 ≤ sum2 f n N := by
  have h1 : f j0 s0 ≤ sumN (fun s => f j0 s) N := sumN_ge (f := fun s => f j0 s) hs (fun s hs' => h j0 s hj hs')
  have h2 : sumN (fun s => f j0 s) N ≤ sum2 f n N := sumN_ge (f := fun j => sumN (fun s => f j s) N) hj (fun j hj' => sumN_pos (fun s hs' => h j s hj' hs'))
  omega
theorem gone_low {gs : List Rl} {m t j s : Nat} (h : j + 1 < m) : gone gs m t j s = false := by
  unfold gone
  rw [show decide (m ≤ j) = false from decide_eq_false (by omega), show decide (j + 1 = m) = false from decide_eq_false (by omega)]
  simp
theorem gone_letter {gs : List Rl} {m t j s : Nat} (h : isPr gs j = false) : gone gs m t j s = false := by
  unfold gone; rw [h]; rfl
theorem gone_now {gs : List Rl} {r t s : Nat} : gone gs (r + 1) t r s = (isPr gs r && decide (s < t)) := by
  unfold gone
  rw [show decide (r + 1 ≤ r) = false from decide_eq_false (by omega), show decide (r + 1 = r + 1) = true from decide_eq_true rfl]
  simp
theorem gone_other {gs : List Rl} {r t t' j s : Nat} (h : j ≠ r) : gone gs (r + 1) t j s = gone gs (r + 1) t' j s := by
  unfold gone
  rw [show decide (j + 1 = r + 1) = false from decide_eq_false (by omega)]
  simp
theorem MtI.start {nx : List (List Int)} {gs : List Rl} {st go : Nat} (hg : go < st) (h24 : st ≤ 24) (hn : 0 < gs.length) : MtI nx gs st go gs.length 0 (upd2 (fun _ _ => 0) (gs.length - 1) go 1) := by
  refine ⟨fun j s => ?_, fun j s hs => ?_, fun V hV => ?_⟩
  · unfold upd2
    show 0 ≤ if j = gs.length - 1 ∧ s = go then (0 : Int) + 1 else 0
    split <;> omega
  · rw [upd2_ne _ _ (fun h => by omega)]
  · unfold restW
    have h1 := sum2_one (f := fun _ _ => 0) (g := fun j s => if gone gs gs.length 0 j s = true then 0 else upd2 (fun _ _ => (0 : Int)) (gs.length - 1) go 1 j s * V j s) (j0 := gs.length - 1) (s0 := go) (n := gs.length) (N := 24) (d := V (gs.length - 1) go) (by omega) (by omega)
      (fun j s hj hs hne => by
        show (if gone gs gs.length 0 j s = true then 0 else upd2 (fun _ _ => (0 : Int)) (gs.length - 1) go 1 j s * V j s) = 0
        split
        · rfl
        · rw [upd2_ne _ _ hne, Int.zero_mul])
      (by
        show (if gone gs gs.length 0 (gs.length - 1) go = true then 0 else upd2 (fun _ _ => (0 : Int)) (gs.length - 1) go 1 (gs.length - 1) go * V (gs.length - 1) go) = 0 + V (gs.length - 1) go
        have e : gs.length = (gs.length - 1) + 1 := by omega
        rw [if_neg (by rw [e, Nat.add_sub_cancel, gone_now]; simp), upd2_same]
        omega)
    rw [h1]
    have : sum2 (fun _ _ => (0 : Int)) gs.length 24 = 0 := sumN_zero (fun _ _ => sumN_zero (fun _ _ => rfl))
    omega
/-- the next rule, behind a pair -/
theorem MtI.down {nx : List (List Int)} {gs : List Rl} {st go r : Nat} {u : Nat → Nat → Int} (h : MtI nx gs st go (r + 1) 24 u) : MtI nx gs st go r 0 u := by
  refine ⟨h.pos, h.out, fun V hV => ?_⟩
  rw [← h.sum V hV]
  refine sumN_congr (fun j hj => sumN_congr (fun s hs => ?_))
  have e : gone gs r 0 j s = gone gs (r + 1) 24 j s := by
    unfold gone
    congr 1
    rw [Bool.eq_iff_iff]
    simp only [Bool.or_eq_true, Bool.and_eq_true, decide_eq_true_eq]
    omega
  dsimp only
  rw [e]
/-- the next rule, behind a letter -/
theorem MtI.skip {nx : List (List Int)} {gs : List Rl} {st go r : Nat} {u : Nat → Nat → Int} (h : MtI nx gs st go (r + 1) 0 u) (hz : (rlAt gs r).L.size ≠ 0) : MtI nx gs st go r 0 u := by
  refine ⟨h.pos, h.out, fun V hV => ?_⟩
  rw [← h.sum V hV]
  refine sumN_congr (fun j hj => sumN_congr (fun s hs => ?_))
  have e : gone gs r 0 j s = gone gs (r + 1) 0 j s := by
    by_cases e : j = r
    · subst e
      have : isPr gs j = false := decide_eq_false hz
      rw [gone_letter this, gone_letter this]
    · unfold gone
      congr 1
      rw [Bool.eq_iff_iff]
      simp only [Bool.or_eq_true, Bool.and_eq_true, decide_eq_true_eq]
      omega
  dsimp only
  rw [e]
/-- a pair in a state -/
theorem MtI.pair {nx : List (List Int)} {gs : List Rl} {st go r t a b : Nat} {u : Nat → Nat → Int} (h : MtI nx gs st go (r + 1) t u) (hr : r < gs.length) (ht : t < 24) (hst : st ≤ 24) (hq : qAt nx gs a t < st) (hz : (rlAt gs r).L.size = 0) (ha : (rlAt gs r).l = (a : Int)) (hb : (rlAt gs r).r = (b : Int)) (har : a < r) (hbr : b < r) :
    MtI nx gs st go (r + 1) (t + 1) (upd2 (upd2 u a t (u r t)) b (qAt nx gs a t) (u r t)) := by
  have hn := h.pos r t
  refine ⟨fun j s => ?_, fun j s hs => ?_, fun V hV => ?_⟩
  · have h1 := h.pos j s
    unfold upd2
    split <;> split <;> omega
  · have h1 := h.out j s hs
    by_cases e : s = t
    · subst e
      have h2 := h.out r s hs
      unfold upd2
      split <;> split <;> omega
    · unfold upd2
      rw [if_neg (by omega), if_neg (by omega)]
      exact h1
  · have h0 := h.sum V hV
    have hp : isPr gs r = true := decide_eq_true hz
    unfold restW at h0 ⊢
    have g1 := sum2_one (f := fun j s => if gone gs (r + 1) t j s = true then 0 else u j s * V j s) (g := fun j s => if gone gs (r + 1) t j s = true then 0 else upd2 u a t (u r t) j s * V j s) (j0 := a) (s0 := t) (n := gs.length) (N := 24) (d := u r t * V a t) (by omega) ht
      (fun j s hj hs hne => by rw [upd2_ne _ _ hne])
      (by rw [gone_low (by omega), upd2_same]; simp only [Bool.false_eq_true, if_false]; rw [Int.add_mul])
    have g2 := sum2_one (f := fun j s => if gone gs (r + 1) t j s = true then 0 else upd2 u a t (u r t) j s * V j s) (g := fun j s => if gone gs (r + 1) t j s = true then 0 else upd2 (upd2 u a t (u r t)) b (qAt nx gs a t) (u r t) j s * V j s) (j0 := b) (s0 := qAt nx gs a t) (n := gs.length) (N := 24) (d := u r t * V b (qAt nx gs a t)) (by omega) (by omega)
      (fun j s hj hs hne => by rw [upd2_ne (upd2 u a t (u r t)) _ hne])
      (by rw [gone_low (by omega), upd2_same]; simp only [Bool.false_eq_true, if_false]; rw [Int.add_mul])
    have e : upd2 (upd2 u a t (u r t)) b (qAt nx gs a t) (u r t) r t = u r t := by rw [upd2_ne _ _ (by omega), upd2_ne _ _ (by omega)]
    have g3 := sum2_one (f := fun j s => if gone gs (r + 1) (t + 1) j s = true then 0 else upd2 (upd2 u a t (u r t)) b (qAt nx gs a t) (u r t) j s * V j s) (g := fun j s => if gone gs (r + 1) t j s = true then 0 else upd2 (upd2 u a t (u r t)) b (qAt nx gs a t) (u r t) j s * V j s) (j0 := r) (s0 := t) (n := gs.length) (N := 24) (d := u r t * V r t) hr ht
      (fun j s hj hs hne => by
        have e2 : gone gs (r + 1) t j s = gone gs (r + 1) (t + 1) j s := by
          by_cases ej : j = r
          · subst ej
            rw [gone_now, gone_now]
            congr 1
            rw [Bool.eq_iff_iff]
            simp only [decide_eq_true_eq]
            omega
          · exact gone_other ej
        rw [e2])
      (by
        rw [gone_now, gone_now, hp, show decide (t < t) = false from decide_eq_false (by omega), show decide (t < t + 1) = true from decide_eq_true (by omega), e]
        simp)
    have hv := hV r a b t hr ht hz ha hb
    rw [hv, Int.mul_add] at g3
    omega
/-- the lengths are such a count -/
theorem padd_lens {nx : List (List Int)} {gs : List Rl} (hfit : fits gs = true) : PAdd nx gs (fun k _ => (lens gs).getD k 0) := by
  intro k a b t hk _ hz ha hb
  rw [rlAt_eq hk] at hz ha hb
  have := vals_pair (fun a b => a + b) gs k hk hz (fits_at hfit k hk)
  rw [ha, hb, Int.toNat_natCast, Int.toNat_natCast] at this
  exact this
/-- no count that is left passes the length -/
theorem MtI.bound {nx : List (List Int)} {gs : List Rl} {st go m t : Nat} {u : Nat → Nat → Int} (h : MtI nx gs st go m t u) (hfit : fits gs = true) {j s : Nat} (hj : j < gs.length) (hs : s < 24) (hg : gone gs m t j s = false) : u j s ≤ (lens gs).getD (gs.length - 1) 0 := by
  rw [← h.sum _ (padd_lens hfit)]
  have lp : ∀ j, j < gs.length → 1 ≤ (lens gs).getD j 0 := fun j hj => by
    have := lens_pos (gs := gs) (k := j) hj (fun j hj _ => fits_at hfit j hj); omega
  have up : ∀ j s', j < gs.length → u j s' ≤ u j s' * (lens gs).getD j 0 := fun j s' hj => by
    have h2 := Int.mul_le_mul_of_nonneg_left (lp j hj) (h.pos j s')
    rw [Int.mul_one] at h2
    exact h2
  have h1 := sum2_ge (f := fun j s => if gone gs m t j s = true then 0 else u j s * (lens gs).getD j 0) hj hs (fun j s hj hs => by
    show 0 ≤ if gone gs m t j s = true then 0 else u j s * (lens gs).getD j 0
    split
    · omega
    · have := up j s hj; have := h.pos j s; omega)
  simp only [hg, Bool.false_eq_true, if_false] at h1
  have := up j s hj
  have e : restW gs u (fun k _ => (lens gs).getD k 0) m t = sum2 (fun j s => if gone gs m t j s = true then 0 else u j s * (lens gs).getD j 0) gs.length 24 := rfl
  rw [e]
  omega
/-! the table in memory -/
theorem metL_len (u : Nat → Nat → Int) (n : Nat) : (metL u n).length = n * 24 := by simp [metL]
theorem metL_get {u : Nat → Nat → Int} {n j s : Nat} (hj : j < n) (hs : s < 24) : (metL u n)[j * 24 + s]? = some (u j s) := by
  unfold metL
  rw [List.getElem?_map, List.getElem?_range (by omega)]
  simp only [Option.map_some]
  rw [show (j * 24 + s) / 24 = j from by omega, show (j * 24 + s) % 24 = s from by omega]
theorem metL_set {u : Nat → Nat → Int} {n a t : Nat} {d : Int} (ha : a < n) (ht : t < 24) : (metL u n).set (a * 24 + t) (u a t + d) = metL (upd2 u a t d) n := by
  apply List.ext_getElem?
  intro c
  by_cases hc : c < n * 24
  · have e1 : c = (c / 24) * 24 + c % 24 := by omega
    rw [List.getElem?_set]
    by_cases e : a * 24 + t = c
    · rw [if_pos e, if_pos (by rw [metL_len]; omega), ← e, metL_get ha ht, upd2_same]
    · rw [if_neg e, e1, metL_get (by omega) (by omega), metL_get (by omega) (by omega), upd2_ne]
      intro h
      apply e
      rw [← h.1, ← h.2]
      omega
  · rw [List.getElem?_eq_none (by rw [List.length_set, metL_len]; omega), List.getElem?_eq_none (by rw [metL_len]; omega)]
theorem metL_zero (n : Nat) : metL (fun _ _ => 0) n = List.replicate (n * 24) 0 := by
  apply List.ext_getElem?
  intro c
  by_cases hc : c < n * 24
  · rw [show c = (c / 24) * 24 + c % 24 from by omega, metL_get (by omega) (by omega), List.getElem?_replicate, if_pos (by omega)]
  · rw [List.getElem?_eq_none (by rw [metL_len]; omega), List.getElem?_eq_none (by simp; omega)]
/-- a row of the table -/
def metR (u : Nat → Nat → Int) (j : Nat) : List Int := (List.range 24).map fun s => u j s
theorem metR_len (u : Nat → Nat → Int) (j : Nat) : (metR u j).length = 24 := by simp [metR]
theorem metR_get {u : Nat → Nat → Int} {j s : Nat} (h : s < 24) : (metR u j)[s]? = some (u j s) := by simp [metR, h]
theorem metR_getD {u : Nat → Nat → Int} {j s : Nat} (h : s < 24) : (metR u j).getD s 0 = u j s := by rw [List.getD_eq_getElem?_getD, metR_get h]; rfl
/-! the lengths of codes -/
theorem cdV_at (ou : List (List ByteArray)) (nx : List (List Int)) (gs : List Rl) (j s : Nat) : ∀ k, j < k → cdV ou nx gs k j s = cdV ou nx gs (j + 1) j s
  | 0, h => by omega
  | k + 1, h => by
    by_cases e : j = k
    · rw [e]
    · rw [cdV, if_neg e, cdV_at ou nx gs j s k (by omega)]
theorem cd_pair {ou : List (List ByteArray)} {nx : List (List Int)} {gs : List Rl} {k a b t : Nat} (hk : k < gs.length) (hz : (rlAt gs k).L.size = 0) (ha : (rlAt gs k).l = (a : Int)) (hb : (rlAt gs k).r = (b : Int)) (hak : a < k) (hbk : b < k) :
    cd ou nx gs k t = cd ou nx gs a t + cd ou nx gs b (qAt nx gs a t) := by
  unfold cd
  rw [cdV_at ou nx gs k t gs.length hk, cdV, if_pos rfl, if_pos hz, ha, hb, Int.toNat_natCast, Int.toNat_natCast, cdV_at ou nx gs a t k hak, cdV_at ou nx gs b _ k hbk, cdV_at ou nx gs a t gs.length (by omega), cdV_at ou nx gs b _ gs.length (by omega)]
theorem cd_letter {ou : List (List ByteArray)} {nx : List (List Int)} {gs : List Rl} {k t : Nat} (hk : k < gs.length) (hz : (rlAt gs k).L.size ≠ 0) : cd ou nx gs k t = oL ou t (ltNo (rlAt gs k)) := by
  unfold cd
  rw [cdV_at ou nx gs k t gs.length hk, cdV, if_pos rfl, if_neg hz]
theorem cd_padd {ou : List (List ByteArray)} {nx : List (List Int)} {gs : List Rl} (hfit : fits gs = true) : PAdd nx gs (cd ou nx gs) := by
  intro k a b t hk _ hz ha hb
  have hz' := hz
  have ha' := ha
  have hb' := hb
  rw [rlAt_eq hk] at hz ha hb
  obtain ⟨⟨a1, a2⟩, b1, b2⟩ := (ok_pair hz).1 (fits_at hfit k hk)
  exact cd_pair hk hz' ha' hb' (by omega) (by omega)
theorem oL_bd {ou : List (List ByteArray)} (h : ∀ r ∈ ou, ∀ s ∈ r, s.size ≤ 6) (s l : Nat) : 0 ≤ oL ou s l ∧ oL ou s l ≤ 6 := by
  unfold oL
  refine ⟨by omega, ?_⟩
  by_cases h1 : s < ou.length
  · rw [List.getD_eq_getElem?_getD (i := s), List.getElem?_eq_getElem h1, Option.getD_some]
    by_cases h2 : l < (ou[s]).length
    · rw [List.getD_eq_getElem?_getD, List.getElem?_eq_getElem h2, Option.getD_some]
      have := h _ (List.getElem_mem h1) _ (List.getElem_mem h2)
      omega
    · rw [List.getD_eq_getElem?_getD, List.getElem?_eq_none (by omega), Option.getD_none]
      decide
  · rw [List.getD_eq_getElem?_getD (i := s), List.getElem?_eq_none (by omega), Option.getD_none]
    simp
theorem cd_bd {ou : List (List ByteArray)} {nx : List (List Int)} {gs : List Rl} (hfit : fits gs = true) (h : ∀ r ∈ ou, ∀ s ∈ r, s.size ≤ 6) : ∀ m k s, k < m → k < gs.length → 0 ≤ cd ou nx gs k s ∧ cd ou nx gs k s ≤ 6 * (lens gs).getD k 0
  | 0, k, s, h1, _ => by omega
  | m + 1, k, s, h1, hk => by
    by_cases hz : (rlAt gs k).L.size = 0
    · have hz' := hz
      rw [rlAt_eq hk] at hz'
      obtain ⟨⟨a1, a2⟩, b1, b2⟩ := (ok_pair hz').1 (fits_at hfit k hk)
      obtain ⟨a, ha⟩ : ∃ a : Nat, gs[k].l = a := ⟨gs[k].l.toNat, by omega⟩
      obtain ⟨b, hb⟩ : ∃ b : Nat, gs[k].r = b := ⟨gs[k].r.toNat, by omega⟩
      have hc := cd_pair (ou := ou) (nx := nx) (t := s) hk hz (by rw [rlAt_eq hk]; exact ha) (by rw [rlAt_eq hk]; exact hb) (by omega) (by omega)
      have h3 := cd_bd hfit h (nx := nx) m a s (by omega) (by omega)
      have h4 := cd_bd hfit h (nx := nx) m b (qAt nx gs a s) (by omega) (by omega)
      have h5 := padd_lens (nx := nx) hfit k a b 0 hk (by omega) hz (by rw [rlAt_eq hk]; exact ha) (by rw [rlAt_eq hk]; exact hb)
      simp only at h5
      omega
    · rw [cd_letter hk hz]
      have h3 := oL_bd h s (ltNo (rlAt gs k))
      have := lens_pos (gs := gs) (k := k) hk (fun j hj _ => fits_at hfit j hj)
      omega
/-- behind all rules -/
theorem MtI.total {nx : List (List Int)} {gs : List Rl} {st go : Nat} {u V : Nat → Nat → Int} (h : MtI nx gs st go 0 0 u) (hV : PAdd nx gs V) : lenK gs u V gs.length = V (gs.length - 1) go := by
  rw [← h.sum V hV]
  unfold lenK restW sum2
  refine sumN_congr (fun j hj => ?_)
  cases hp : isPr gs j
  · rw [if_neg (by simp)]
    exact sumN_congr (fun s hs => by dsimp only; rw [gone_letter hp]; simp)
  · rw [if_pos rfl]
    exact (sumN_zero (fun s hs => by dsimp only; unfold gone; rw [hp]; simp)).symm
theorem sumN_mono {f : Nat → Int} {k n : Nat} (hk : k ≤ n) (h : ∀ i, i < n → 0 ≤ f i) : sumN f k ≤ sumN f n := by
  induction n with
  | zero => obtain rfl : k = 0 := by omega
            exact Int.le_refl _
  | succ n ih =>
    by_cases e : k = n + 1
    · subst e; exact Int.le_refl _
    · have := ih (by omega) (fun i hi => h i (by omega))
      have h2 := h n (by omega)
      rw [sumN]
      omega
theorem lenK_step {gs : List Rl} {u V : Nat → Nat → Int} {k : Nat} : lenK gs u V (k + 1) = lenK gs u V k + (if isPr gs k = true then 0 else sumN (fun s => u k s * V k s) 24) := rfl
theorem lenK_mono {gs : List Rl} {u V : Nat → Nat → Int} {k n : Nat} (hk : k ≤ n) (h : ∀ j s, j < n → 0 ≤ u j s * V j s) : lenK gs u V k ≤ lenK gs u V n :=
  sumN_mono hk (fun i hi => by
    show 0 ≤ if isPr gs i = true then 0 else sumN (fun s => u i s * V i s) 24
    split
    · omega
    · exact sumN_pos (fun s _ => h i s hi))
end Go.Proofs.Ytapemoehcohjgaa
namespace Go.Proofs.Ytapemoehcohjgaa
open Go.RowKit
open Wd
set_option linter.unusedVariables false
set_option maxRecDepth 100000 in
set_option maxHeartbeats 1600000 in
theorem szS_any (v : Value) (zs : List ByteArray) (left : Int) (w : World) (hn : zs.length ≤ maxLen) (ht : ∀ s ∈ zs, s.size ≤ maxLen) (h : IsSL w v zs) (h0 : 0 ≤ left) (h1 : left ≤ 1048576) :
    Calls Try.prog 67 #[v, .int .i64 left] w fun e w' => ∃ y, e = .returned (.int .i64 y) ∧ w = w' ∧ Paid left y (zs.length ≤ 1048576) := by
  unfold maxLen at hn
  obtain ⟨A, c, rfl, hin⟩ := h
  by_cases hbig : left - (zs.length : Int) < 0
  · clear hin
    go_enter Try.func67, Try.ntmps67
    go_wp2_with fail
    go_ret
    exact ⟨_, rfl, rfl, .inl rfl⟩
  · have HI := Lib.hid hin
    have HT := Lib.hid ht
    clear hin ht
    go_enter Try.func67, Try.ntmps67
    go_wp2_with fail
    go_loopw [1, 5] (fun p i wr => ∃ k : Nat, k ≤ zs.length ∧ i = .int .i64 k ∧ (∃ q : Int, p = .int .i64 q ∧ 0 ≤ q ∧ q ≤ left) ∧ w = wr) (fun _ i _ => zs.length - (intOf i).toNat)
    case atStart => exact ⟨0, Nat.zero_le _, rfl, ⟨_, rfl, by omega, by omega⟩, rfl⟩
    case round =>
      obtain ⟨k, hk, rfl, ⟨q, rfl, hq0, hq1⟩, rfl⟩ := hrel
      by_cases hlt : k < zs.length
      · rcases HI.out with hn' | ⟨a, rfl, hc⟩
        · rw [hn'] at hlt; simp at hlt
        have c0 := hc k hlt
        have hm := HT.out zs[k] (List.getElem_mem hlt)
        generalize zs[k] = s at *
        unfold maxLen at hm
        clear hc
        by_cases hneg : q - (s.size : Int) < 0
        · go_wp2_with fail
          go_ret
          exact ⟨_, rfl, rfl, .inl rfl⟩
        · go_wp2_with fail
          go_roundw
          all_goals first | exact ⟨k + 1, by omega, by go_num, ⟨_, rfl, by omega, by omega⟩, by first | rfl | trivial⟩ | (simp [intOf]; done) | (simp [intOf]; omega) | omega
      · obtain rfl : k = zs.length := by omega
        go_wp2_with fail
        go_ret
        exact ⟨_, rfl, rfl, .inr ⟨hq0, hq1, by omega⟩⟩
set_option maxRecDepth 100000 in
set_option maxHeartbeats 1600000 in
theorem szSS_any (v : Value) (xss : List (List ByteArray)) (left : Int) (w : World) (hn : xss.length ≤ maxLen) (hr : ∀ r ∈ xss, r.length ≤ maxLen) (ht : ∀ r ∈ xss, ∀ s ∈ r, s.size ≤ maxLen) (h : IsSLL w v xss) (h0 : 0 ≤ left) (h1 : left ≤ 1048576) :
    Calls Try.prog 33 #[v, .int .i64 left] w fun e w' => ∃ y, e = .returned (.int .i64 y) ∧ w = w' ∧ Paid left y (xss.length ≤ 1048576 ∧ ∀ r ∈ xss, r.length ≤ 1048576) := by
  unfold maxLen at hn
  obtain ⟨A, c, rfl, hin⟩ := h
  by_cases hbig : left - (xss.length : Int) < 0
  · clear hin ht
    go_enter Try.func33, Try.ntmps33
    go_wp2_with fail
    go_ret
    exact ⟨_, rfl, rfl, .inl rfl⟩
  · have HI := Lib.hid hin
    have HR := Lib.hid hr
    have HTX := Lib.hid ht
    clear hin hr ht
    go_enter Try.func33, Try.ntmps33
    go_wp2_with fail
    go_loopw [1, 5] (fun p i wr => ∃ k : Nat, k ≤ xss.length ∧ i = .int .i64 k ∧ (∃ q : Int, p = .int .i64 q ∧ 0 ≤ q ∧ q ≤ left) ∧ (∀ j (hj : j < xss.length), j < k → xss[j].length ≤ 1048576) ∧ w = wr) (fun _ i _ => xss.length - (intOf i).toNat)
    case atStart => exact ⟨0, Nat.zero_le _, rfl, ⟨_, rfl, by omega, by omega⟩, fun j hj h => by omega, rfl⟩
    case round =>
      obtain ⟨k, hk, rfl, ⟨q, rfl, hq0, hq1⟩, hle, rfl⟩ := hrel
      by_cases hlt : k < xss.length
      · rcases HI.out with hn' | ⟨a, rfl, hc⟩
        · rw [hn'] at hlt; simp at hlt
        obtain ⟨u, c0, hu⟩ := hc k hlt
        obtain ⟨A2, c2, rfl⟩ := hu.shape
        have hm := HR.out xss[k] (List.getElem_mem hlt)
        have HZ := Lib.hid (szS_any _ xss[k] q _ hm (HTX.out _ (List.getElem_mem hlt)) hu hq0 (by omega))
        have HLE := Lib.hid (fun (hh : xss[k].length ≤ 1048576) => (fun j (hj : j < xss.length) (h : j < k + 1) => by
          by_cases e : j = k
          · subst e; exact hh
          · exact hle j hj (by omega) : ∀ j (hj : j < xss.length), j < k + 1 → xss[j].length ≤ 1048576))
        generalize xss[k].length = m at *
        clear hu hc hle
        go_wp2_with fail
        refine HZ.out.mono ?_
        rintro e w2 ⟨y, rfl, rfl, rfl | ⟨hy0, hy1, hml⟩⟩
        · go_wp2_with fail
          go_ret
          exact ⟨_, rfl, rfl, .inl rfl⟩
        · have hny : ¬ y < 0 := by omega
          go_wp2_with fail
          go_roundw
          all_goals first | exact ⟨k + 1, by omega, by go_num, ⟨_, rfl, by omega, by omega⟩, HLE.out hml, by first | rfl | trivial⟩ | (simp [intOf]; done) | (simp [intOf]; omega) | omega
      · obtain rfl : k = xss.length := by omega
        go_wp2_with fail
        go_ret
        exact ⟨_, rfl, rfl, .inr ⟨hq0, hq1, by omega, fun r hr => by obtain ⟨j, hj, e⟩ := List.getElem_of_mem hr; rw [← e]; exact hle j hj hj⟩⟩

set_option maxRecDepth 100000 in
set_option maxHeartbeats 1600000 in
theorem szCoder_any (v : Value) (x : Co) (left : Int) (w : World) (hm : MaxC x) (h : IsCo w v x) (h0 : 0 ≤ left) (h1 : left ≤ 1048576) :
    Calls Try.prog 8 #[v, .int .i64 left] w fun e w' => ∃ y, e = .returned (.int .i64 y) ∧ Below w.heap.size w w' ∧ Paid left y (FewC x) := by
  obtain ⟨n, o, rfl, hn, ho⟩ := h
  have hB := (Below.refl _ w).alloc (Nat.le_refl _) (.cells #[.int .i64 x.st, .int .i64 x.go, n, o] 25)
  have HZ := Lib.hid (szLL_any n x.nx left _ hm.nx hm.row (hn.kept hB) h0 h1)
  have HO := Lib.hid (fun q (h0 : 0 ≤ q) (h1 : q ≤ 1048576) => szSS_any o x.ou q _ hm.ou hm.orow hm.txt (ho.kept hB) h0 h1)
  have HM := Lib.hid hm
  have HB := Lib.hid hB
  obtain ⟨An, cn, rfl, hx⟩ := hn
  obtain ⟨Ao, co, rfl, hx'⟩ := ho
  clear hx hx' hm hB
  go_enter Try.func8, Try.ntmps8
  go_wp2_with fail
  refine HZ.out.mono ?_
  rintro e w2 ⟨y, rfl, rfl, rfl | ⟨hy0, hy1, hl, hr⟩⟩
  · go_wp2_with fail
    go_ret
    exact ⟨_, rfl, HB.out, .inl rfl⟩
  · have hny : ¬ y < 0 := by omega
    have HL := Lib.hid (And.intro hl hr)
    clear hl hr
    go_wp2_with fail
    refine (HO.out y hy0 (by omega)).mono ?_
    rintro e w2 ⟨z, rfl, rfl, rfl | ⟨hz0, hz1, hl', hr'⟩⟩
    · go_wp2_with fail
      go_ret
      exact ⟨_, rfl, HB.out, .inl rfl⟩
    · have hnz : ¬ z < 0 := by omega
      go_wp2_with fail
      go_ret
      exact ⟨_, rfl, HB.out, .inr ⟨hz0, by omega, HL.out.1, HL.out.2, hl', hr', HM.out.txt⟩⟩
end Go.Proofs.Ytapemoehcohjgaa
namespace Go.Proofs.Ytapemoehcohjgaa
open Go.RowKit
open Wd
set_option linter.unusedVariables false
theorem Try.info_str : (Try.prog.info? 9).map (fun i => (i.zero, i.size, i.bytes)) = some (some (.string ⟨#[]⟩), 1, 16) := by kernel_rfl
theorem Try.info_strs : (Try.prog.info? 88).map (fun i => (i.zero, i.size, i.bytes)) = some (some (.slice none 0 0), 1, 24) := by kernel_rfl
theorem made_str (n : Nat) : (madeCells #[.string ⟨#[]⟩] n).toList = (List.replicate n (⟨#[]⟩ : ByteArray)).map Value.string := by
  apply List.ext_getElem
  · simp [madeCells]
  · intro i h1 h2
    simp [madeCells, Nat.mod_one]
namespace Wd
def toKS (zs : List ByteArray) (k : Nat) : List ByteArray := zs.take k ++ List.replicate (zs.length - k) ⟨#[]⟩
theorem toKS_len (zs : List ByteArray) (k : Nat) (h : k ≤ zs.length) : (toKS zs k).length = zs.length := by simp [toKS]; omega
theorem toKS_set (zs : List ByteArray) (k : Nat) (h : k < zs.length) : (toKS zs k).set k zs[k] = toKS zs (k + 1) := by
  unfold toKS
  have h1 : (zs.take k).length = k := by simp; omega
  rw [List.set_append_right _ _ (by omega), h1, Nat.sub_self, show zs.length - k = (zs.length - (k + 1)) + 1 from by omega, List.replicate_succ, List.set_cons_zero, List.take_succ_eq_append_getElem h, List.append_assoc]
  rfl
theorem toKS_zero (zs : List ByteArray) : toKS zs 0 = List.replicate zs.length ⟨#[]⟩ := by simp [toKS]
theorem toKS_all (zs : List ByteArray) : toKS zs zs.length = zs := by simp [toKS]
end Wd
set_option maxRecDepth 100000 in
set_option maxHeartbeats 1600000 in
theorem toS_any (v : Value) (zs : List ByteArray) (w : World) (hn : zs.length ≤ 1048576) (h : IsSL w v zs) :
    Calls Try.prog 74 #[v] w fun e w' => ∃ y, e = .returned y ∧ OwnsSL w' w.heap.size y zs ∧ Below w.heap.size w w' := by
  obtain ⟨i0, hi, hz0, hz1, hz2⟩ := info_parts Try.info_str
  obtain ⟨A, c, rfl, hin⟩ := h
  have HI := Lib.hid hin
  obtain ⟨n, hn'⟩ : ∃ n, n = zs.length := ⟨_, rfl⟩
  rw [← hn'] at hn ⊢
  have HN := Lib.hid hn'
  clear hin hn'
  go_enter Try.func74, Try.ntmps74
  go_wp2_with (refine wpList_make_full _ rfl _ _ 88 rfl w.heap.size 9 i0 (.string ⟨#[]⟩) 1 Try.underlying88 hi hz0 hz1 .i64 .i64 _ _ n rfl rfl rfl rfl (by rw [hz2]; omega) (by unfold maxLen; omega) (Nat.le_refl _) ?_)
  intro w1 hown hg
  have hB1 := below_of_grown hg
  rw [made_str, show List.replicate n (⟨#[]⟩ : ByteArray) = toKS zs 0 from by rw [toKS_zero, HN.out]] at hown
  obtain ⟨B, hBe⟩ : ∃ B, B = w.heap.size := ⟨_, rfl⟩
  rw [← hBe] at hown ⊢
  have HBE := Lib.hid hBe
  clear hg hBe
  go_wp2
  go_loopw [4] (fun i wr => ∃ k : Nat, k ≤ n ∧ i = .int .i64 k ∧ wr.ownsRow B 9 1 (.slice (some ⟨B, 0, none⟩) n n) n ((toKS zs k).map Value.string) ∧ Below w.heap.size w wr) (fun i _ => n - (intOf i).toNat)
  case atStart => exact ⟨0, Nat.zero_le _, rfl, hown, hB1⟩
  case round =>
    obtain ⟨k, hk, rfl, hown, hB⟩ := hrel
    by_cases hlt : k < n
    · have hkg : k < zs.length := by rw [← HN.out]; exact hlt
      rcases HI.out with hn | ⟨x, rfl, hc⟩
      · rw [hn] at hkg; simp at hkg
      have c0 := hc k hkg
      have d0 := (hB.cell (lt_of_cell c0)).trans c0
      have e0 := (hown.cellAt k (by omega)).trans (List.getElem?_eq_getElem (by simp [toKS_len zs k (by omega)]; exact hkg))
      have f0 : wr.frozen? ⟨B, k, none⟩ = false := hown.frozenAt _
      have hs := (hown.stored k (.string zs[k])).1
      rw [show ((toKS zs k).map Value.string).set k (.string zs[k]) = (toKS zs (k + 1)).map Value.string from by rw [← toKS_set zs k hkg]; simp [List.map_set]] at hs
      have HS := Lib.hid hs
      have HB := Lib.hid (hB.setCell (p := ⟨B, k, none⟩) (by rw [← HBE.out]; exact Nat.le_refl _) (.string zs[k]))
      generalize zs[k] = z at *
      clear c0 hc hown hB hs
      generalize ((toKS zs k).map Value.string)[k]'_ = u0 at *
      go_wp2
      go_roundw
      case rel => exact ⟨k + 1, by omega, by go_num, HS.out, HB.out⟩
      case measure => simp [intOf]; omega
    · obtain rfl : k = n := by omega
      go_wp2
      go_ret
      refine ⟨_, rfl, ?_, hB⟩
      unfold OwnsSL
      rw [← HN.out]
      have := hown
      rw [HN.out, toKS_all, ← HN.out] at this
      rw [HBE.out] at this ⊢
      exact this
/-- rows of the call's own, at most so many yet -/
def SLLK (xss : List (List ByteArray)) (w : World) (B k : Nat) (wr : World) : Prop :=
  ∃ vs : List Value, vs.length = xss.length ∧ wr.ownsRow B 88 1 (.slice (some ⟨B, 0, none⟩) xss.length xss.length) xss.length vs ∧ ∀ j (hj : j < xss.length), j < k → ∃ u, vs[j]? = some u ∧ OwnsSL wr (B + 1) u xss[j]
theorem SLLK.kept {xss : List (List ByteArray)} {w wr w1 : World} {B k : Nat} (h : SLLK xss w B k wr) (hb : Below wr.heap.size wr w1) : SLLK xss w B k w1 := by
  obtain ⟨vs, h1, h2, h3⟩ := h
  refine ⟨vs, h1, own_below h2 hb (Nat.le_refl _), fun j hj hk => ?_⟩
  obtain ⟨u, h4, h5⟩ := h3 j hj hk
  exact ⟨u, h4, own_below h5 hb (Nat.le_refl _)⟩
theorem SLLK.store {xss : List (List ByteArray)} {w wr : World} {B k : Nat} {u : Value} (h : SLLK xss w B k wr) (hk : k < xss.length) (hu : OwnsSL wr (B + 1) u xss[k]) : SLLK xss w B (k + 1) (wr.setCell ⟨B, k, none⟩ u) := by
  obtain ⟨vs, h1, h2, h3⟩ := h
  refine ⟨vs.set k u, by simpa using h1, (h2.stored k u).1, fun j hj hjk => ?_⟩
  by_cases e : j = k
  · subst e
    exact ⟨u, by rw [List.getElem?_set_self (by omega)], own_setLow hu _ _ (by simp)⟩
  · obtain ⟨y, h4, h5⟩ := h3 j hj (by omega)
    exact ⟨y, by rw [List.getElem?_set_ne (by omega)]; exact h4, own_setLow h5 _ _ (by simp)⟩
theorem SLLK.cell {xss : List (List ByteArray)} {w wr : World} {B k : Nat} (h : SLLK xss w B k wr) (j : Nat) (hj : j < xss.length) : ∃ u, wr.cell? ⟨B, j, none⟩ = some u ∧ wr.frozen? ⟨B, j, none⟩ = false := by
  obtain ⟨vs, h1, h2, h3⟩ := h
  exact ⟨_, (h2.cellAt j (by omega)).trans (List.getElem?_eq_getElem (by omega)), h2.frozenAt j⟩
/-- a slice of slices, all of them from a block on -/
def OwnSLL (w : World) (lo : Nat) (v : Value) (xss : List (List ByteArray)) : Prop :=
  ∃ (A : Option Addr) (c : Nat), v = .slice A xss.length c ∧ (xss = [] ∨ ∃ B, A = some ⟨B, 0, none⟩ ∧ lo ≤ B ∧ ∀ j (hj : j < xss.length), ∃ u, w.cell? ⟨B, j, none⟩ = some u ∧ OwnsSL w lo u xss[j])
theorem OwnSLL.isLL {w : World} {lo : Nat} {v : Value} {xss : List (List ByteArray)} (h : OwnSLL w lo v xss) : IsSLL w v xss := by
  obtain ⟨A, c, hv, h | ⟨B, hA, _, hc⟩⟩ := h
  · exact ⟨A, c, hv, .inl h⟩
  · refine ⟨A, c, hv, .inr ⟨_, hA, fun j hj => ?_⟩⟩
    obtain ⟨u, h1, h2⟩ := hc j hj
    exact ⟨u, by rw [add_zero']; exact h1, IsSL.of_own h2⟩
theorem OwnSLL.far {w : World} {lo : Nat} {v : Value} {xss : List (List ByteArray)} (h : OwnSLL w lo v xss) (p : Addr) (u : Value) (hp : p.block < lo) : OwnSLL (w.setCell p u) lo v xss := by
  obtain ⟨A, c, hv, h | ⟨B, hA, hB, hc⟩⟩ := h
  · exact ⟨A, c, hv, .inl h⟩
  · refine ⟨A, c, hv, .inr ⟨B, hA, hB, fun j hj => ?_⟩⟩
    obtain ⟨y, h1, h2⟩ := hc j hj
    exact ⟨y, (World.cell?_of_block (a := ⟨B, j, none⟩) (Below.heap_setCell w p u B (by omega))).trans h1, own_setLow h2 _ _ hp⟩
theorem SLLK.all {xss : List (List ByteArray)} {w wr : World} {B : Nat} (h : SLLK xss w B xss.length wr) : OwnSLL wr B (.slice (some ⟨B, 0, none⟩) xss.length xss.length) xss := by
  obtain ⟨vs, h1, h2, h3⟩ := h
  refine ⟨_, _, rfl, .inr ⟨B, rfl, Nat.le_refl _, fun j hj => ?_⟩⟩
  obtain ⟨u, h4, h5⟩ := h3 j hj hj
  exact ⟨u, by rw [h2.cellAt j (by omega)]; exact h4, own_lower h5 (by omega)⟩
theorem made_nilS (n : Nat) : (madeCells #[.slice none 0 0] n).toList = List.replicate n (.slice none 0 0) := by
  apply List.ext_getElem
  · simp [madeCells]
  · intro i h1 h2
    simp [madeCells, Nat.mod_one]
set_option maxRecDepth 100000 in
set_option maxHeartbeats 1600000 in
theorem toSS_any (v : Value) (xss : List (List ByteArray)) (w : World) (hn : xss.length ≤ 1048576) (hr : ∀ r ∈ xss, r.length ≤ 1048576) (h : IsSLL w v xss) :
    Calls Try.prog 39 #[v] w fun e w' => ∃ y, e = .returned y ∧ OwnSLL w' w.heap.size y xss ∧ Below w.heap.size w w' := by
  obtain ⟨i0, hi, hz0, hz1, hz2⟩ := info_parts Try.info_strs
  obtain ⟨A, c, rfl, hin⟩ := h
  have HI := Lib.hid hin
  obtain ⟨n, hn'⟩ : ∃ n, n = xss.length := ⟨_, rfl⟩
  rw [← hn'] at hn ⊢
  have HN := Lib.hid hn'
  have HR := Lib.hid hr
  clear hin hn' hr
  go_enter Try.func39, Try.ntmps39
  go_wp2_with (refine wpList_make_full _ rfl _ _ 23 rfl w.heap.size 88 i0 (.slice none 0 0) 1 Try.underlying23 hi hz0 hz1 .i64 .i64 _ _ n rfl rfl rfl rfl (by rw [hz2]; omega) (by unfold maxLen; omega) (Nat.le_refl _) ?_)
  intro w1 hown hg
  have hB1 := below_of_grown hg
  obtain ⟨B, hBe⟩ : ∃ B, B = w.heap.size := ⟨_, rfl⟩
  rw [← hBe] at hown ⊢
  have HST : Hid (SLLK xss w B 0 w1) := Lib.hid ⟨List.replicate n (.slice none 0 0), by simp [HN.out], by
    have h := hown
    rw [made_nilS] at h
    rw [← HN.out]; exact h, fun j hj hk => by omega⟩
  have HBE := Lib.hid hBe
  clear hg hBe hown
  go_wp2_with fail
  go_loopw [4] (fun i wr => ∃ k : Nat, k ≤ n ∧ i = .int .i64 k ∧ SLLK xss w B k wr ∧ Below w.heap.size w wr) (fun i _ => n - (intOf i).toNat)
  case atStart => exact ⟨0, Nat.zero_le _, rfl, HST.out, hB1⟩
  case round =>
    obtain ⟨k, hk, rfl, hown, hB⟩ := hrel
    obtain ⟨wo, rfl⟩ : ∃ wo : World, wo = wr := ⟨_, rfl⟩
    have HW := Lib.hid hown
    have HB := Lib.hid hB
    by_cases hlt : k < n
    · have hkg : k < xss.length := by rw [← HN.out]; exact hlt
      rcases HI.out with hn | ⟨x, rfl, hc⟩
      · rw [hn] at hkg; simp at hkg
      obtain ⟨u, c0, hu⟩ := hc k hkg
      have d0 := (hB.cell (lt_of_cell c0)).trans c0
      have HT := Lib.hid (toS_any u xss[k] wo (HR.out _ (List.getElem_mem hkg)) (by
        obtain ⟨A', c', hv', h'⟩ := hu
        refine ⟨A', c', hv', h'.imp id ?_⟩
        rintro ⟨a, ha, hcc⟩
        exact ⟨a, ha, fun j hj => (hB.cell (lt_of_cell (hcc j hj))).trans (hcc j hj)⟩))
      have HLT : Hid (B + 1 ≤ wo.heap.size) := Lib.hid (by obtain ⟨vs, h1, h2, _⟩ := hown; exact (h2.lt B rfl).2)
      have HST := Lib.hid (fun (w' : World) (y : Value) (hb : Below wo.heap.size wo w') (hy : OwnsSL w' wo.heap.size y xss[k]) => (hown.kept hb).store hkg (own_lower hy HLT.out))
      clear c0 hc hown hB hu
      go_wp2_with fail
      refine HT.out.mono ?_
      rintro e w5 ⟨y, rfl, hy, hB5⟩
      obtain ⟨Ay, cy, rfl⟩ := own_slice hy
      obtain ⟨u0, e0, f0⟩ := (HW.out.kept hB5).cell k hkg
      have HS := Lib.hid (HST.out w5 _ hB5 hy)
      have HB5 := Lib.hid ((HB.out.trans (hB5.mono HB.out.size)).setCell (p := ⟨B, k, none⟩) (by rw [← HBE.out]; exact Nat.le_refl _) (.slice Ay xss[k].length cy))
      clear hy hB5 d0
      go_wp2_with fail
      go_roundw
      case rel => exact ⟨k + 1, by omega, by go_num, HS.out, HB5.out⟩
      case measure => simp [intOf]; omega
    · obtain rfl : k = n := by omega
      clear hown hB
      go_wp2_with fail
      go_ret
      refine ⟨_, rfl, ?_, HB.out⟩
      have := HW.out
      rw [HN.out] at this ⊢
      rw [← HBE.out]
      exact this.all
end Go.Proofs.Ytapemoehcohjgaa
namespace Go.Proofs.Ytapemoehcohjgaa
open Go.RowKit
open Wd
set_option linter.unusedVariables false
theorem ownLL_below {w w' : World} {lo : Nat} {v : Value} {xss : List (List Int)} (h : OwnLL w lo v xss) (hb : Below w.heap.size w w') (_hlo : True ∨ True := .inl trivial) : OwnLL w' lo v xss := by
  obtain ⟨A, c, hv, h | ⟨B, hA, hB, hc⟩⟩ := h
  · exact ⟨A, c, hv, .inl h⟩
  · refine ⟨A, c, hv, .inr ⟨B, hA, hB, fun j hj => ?_⟩⟩
    obtain ⟨y, h1, h2⟩ := hc j hj
    exact ⟨y, (hb.cell (p := ⟨B, j, none⟩) (lt_of_cell h1)).trans h1, own_below h2 hb (Nat.le_refl _)⟩
set_option maxRecDepth 100000 in
set_option maxHeartbeats 1600000 in
theorem toCoder_any (v : Value) (x : Co) (w : World) (hf : FewC x) (h : IsCo w v x) :
    Calls Try.prog 11 #[v] w fun e w' => ∃ y, e = .returned y ∧ IsCo w' y x ∧ Below w.heap.size w w' := by
  obtain ⟨f, n, rfl, hF, hN⟩ := h
  obtain ⟨st, go, nx, ou⟩ := x
  simp only at hF hN
  have hf1 := hf.nx
  have hf2 := hf.row
  have hf3 := hf.ou
  have hf4 := hf.orow
  simp only at hf1 hf2 hf3 hf4
  have HF := Lib.hid hF
  have HNL := Lib.hid hN
  obtain ⟨Af, cf, rfl, hx⟩ := hF
  obtain ⟨An, cn, rfl, hx'⟩ := hN
  clear hx hx' hf
  show Calls Try.prog _ #[.agg #[.int .i64 st, .int .i64 go, .slice Af nx.length cf, .slice An ou.length cn]] _ _
  go_enter Try.func11, Try.ntmps11
  go_upto_region 4 with fail
  obtain ⟨hP, hZ, hR, hB3, hs3⟩ := al3 w (.cells #[.int .i64 st, .int .i64 go, .slice Af nx.length cf, .slice An ou.length cn] 25) (.cells #[.int .i64 0, .int .i64 0, .slice none 0 0, .slice none 0 0] 33) (.cells #[.int .i64 st, .int .i64 go, .slice none 0 0, .slice none 0 0] 33)
  generalize ((w.alloc (.cells #[.int .i64 st, .int .i64 go, .slice Af nx.length cf, .slice An ou.length cn] 25)).alloc (.cells #[.int .i64 0, .int .i64 0, .slice none 0 0, .slice none 0 0] 33)).alloc (.cells #[.int .i64 st, .int .i64 go, .slice none 0 0, .slice none 0 0] 33) = w3 at *
  obtain ⟨⟨_, _, p2, p3⟩, _⟩ := blk4_cells hP
  have HS3 := Lib.hid hs3
  have HP := Lib.hid hP
  have HZ := Lib.hid hZ
  have HR := Lib.hid hR
  have HB3 := Lib.hid hB3
  have HF3 := Lib.hid (HF.out.kept hB3)
  clear hs3 hP hZ hR hB3
  go_wp2_with fail
  refine (toLL_any _ nx _ hf1 hf2 HF3.out).mono ?_
  rintro e w4 ⟨y1, rfl, hy1, hB4⟩
  have hP := (hB4.block w.heap.size (by rw [HS3.out]; omega)).trans HP.out
  have hZ := (hB4.block (w.heap.size + 1) (by rw [HS3.out]; omega)).trans HZ.out
  have hR := (hB4.block (w.heap.size + 2) (by rw [HS3.out]; omega)).trans HR.out
  have HB4 := Lib.hid (HB3.out.trans (hB4.mono (by rw [HS3.out]; omega)))
  have HO4 := Lib.hid hy1
  obtain ⟨A1, c1, rfl, _⟩ := hy1.isLL
  have HS4 : Hid (w.heap.size + 3 ≤ w4.heap.size) := Lib.hid (by have := hB4.size; rw [HS3.out] at this; exact this)
  obtain ⟨⟨_, _, r2, _⟩, _, _, f2, _⟩ := blk4_cells hR
  have HR5 := Lib.hid (blk4_2 (c' := .slice A1 nx.length c1) hR)
  have HP5 := Lib.hid ((Below.heap_setCell w4 ⟨w.heap.size + 2, 2, none⟩ (.slice A1 nx.length c1) w.heap.size (by simp)).trans hP)
  have HZ5 := Lib.hid ((Below.heap_setCell w4 ⟨w.heap.size + 2, 2, none⟩ (.slice A1 nx.length c1) (w.heap.size + 1) (by simp)).trans hZ)
  have HO5 := Lib.hid (HO4.out.far ⟨w.heap.size + 2, 2, none⟩ (.slice A1 nx.length c1) (by rw [HS3.out]; simp))
  have HB5 := Lib.hid (HB4.out.setCell (p := ⟨w.heap.size + 2, 2, none⟩) (by simp) (.slice A1 nx.length c1))
  have HS5 : Hid (w.heap.size + 3 ≤ (w4.setCell ⟨w.heap.size + 2, 2, none⟩ (.slice A1 nx.length c1)).heap.size) := Lib.hid (by have := HS4.out; simpa [World.setCell] using this)
  clear hy1 hB4 hP hZ hR p2 HO4
  go_upto_region 5 with fail
  generalize w4.setCell ⟨w.heap.size + 2, 2, none⟩ (.slice A1 nx.length c1) = w5 at *
  obtain ⟨⟨_, _, p2, p3⟩, _⟩ := blk4_cells HP5.out
  have HN5 := Lib.hid (HNL.out.kept HB5.out)
  clear r2 f2
  go_wp2_with fail
  refine (toSS_any _ ou _ hf3 hf4 HN5.out).mono ?_
  rintro e w6 ⟨y2, rfl, hy2, hB6⟩
  have hZ := (hB6.block (w.heap.size + 1) (by have := HS5.out; omega)).trans HZ5.out
  have hR := (hB6.block (w.heap.size + 2) (by have := HS5.out; omega)).trans HR5.out
  obtain ⟨A2, c2, rfl, _⟩ := hy2.isLL
  obtain ⟨⟨_, _, _, r3⟩, _, _, _, f3⟩ := blk4_cells hR
  have HR7 := Lib.hid (blk4_3 (d' := .slice A2 ou.length c2) hR)
  have HZ7 := Lib.hid ((Below.heap_setCell w6 ⟨w.heap.size + 2, 3, none⟩ (.slice A2 ou.length c2) (w.heap.size + 1) (by simp)).trans hZ)
  have HO7 := Lib.hid ((ownLL_below HO5.out hB6).far ⟨w.heap.size + 2, 3, none⟩ (.slice A2 ou.length c2) (by rw [HS3.out]; simp))
  have HL7 := Lib.hid (hy2.far ⟨w.heap.size + 2, 3, none⟩ (.slice A2 ou.length c2) (by have := HS5.out; simp only; omega))
  have HB7 := Lib.hid ((HB5.out.trans (hB6.mono (by have := HS5.out; omega))).setCell (p := ⟨w.heap.size + 2, 3, none⟩) (by simp) (.slice A2 ou.length c2))
  clear hy2 hB6 hZ hR p2 p3
  go_upto_region 6 with fail
  generalize w6.setCell ⟨w.heap.size + 2, 3, none⟩ (.slice A2 ou.length c2) = w7 at *
  obtain ⟨⟨q0, q1, q2, q3⟩, _⟩ := blk4_cells HR7.out
  obtain ⟨⟨z0, z1, z2, z3⟩, g0, g1, g2, g3⟩ := blk4_cells HZ7.out
  have HE := Lib.hid (blk4_cells (blk4_all (a' := .int .i64 st) (b' := .int .i64 go) (c' := .slice A1 nx.length c1) (d' := .slice A2 ou.length c2) HZ7.out)).1
  clear r3 f3
  go_wp2_with fail
  obtain ⟨y0, y1, y2, y3⟩ := HE.out
  refine bodyPost_ret (v := .agg #[.int .i64 st, .int .i64 go, .slice A1 nx.length c1, .slice A2 ou.length c2]) (by simp [results, Try.results11, go_sem, y0, y1, y2, y3]) rfl ⟨_, rfl, ⟨_, _, rfl, ?_, ?_⟩, ?_⟩
  · refine OwnLL.isLL ((((HO7.out.far _ _ ?_).far _ _ ?_).far _ _ ?_).far _ _ ?_) <;> (rw [HS3.out]; simp)
  · refine OwnSLL.isLL ((((HL7.out.far _ _ ?_).far _ _ ?_).far _ _ ?_).far _ _ ?_) <;> (have := HS5.out; simp only; omega)
  · exact (((HB7.out.setCell (by simp) _).setCell (by simp) _).setCell (by simp) _).setCell (by simp) _
set_option maxRecDepth 100000 in
set_option maxHeartbeats 800000 in
theorem eqS_any (u v : Value) (zs : List ByteArray) (w : World) (hn : zs.length ≤ 1048576) (h1 : IsSL w u zs) (h2 : IsSL w v zs) :
    Calls Try.prog 80 #[u, v] w fun e w' => e = .returned (.bool true) ∧ Below w.heap.size w w' := by
  obtain ⟨A1, c1, rfl, h1⟩ := h1
  obtain ⟨A2, c2, rfl, h2⟩ := h2
  obtain ⟨n, hng⟩ : ∃ n, n = zs.length := ⟨_, rfl⟩
  rw [← hng] at hn ⊢
  have HN := Lib.hid hng
  have H1 := Lib.hid h1
  have H2 := Lib.hid h2
  clear h1 h2 hng
  go_enter Try.func80, Try.ntmps80
  go_wp2
  go_loopw [5] (fun i wr => ∃ k : Nat, k ≤ n ∧ i = .int .i64 k ∧ Below w.heap.size w wr) (fun i _ => n - (intOf i).toNat)
  case atStart => exact ⟨0, Nat.zero_le _, rfl, Below.refl _ _⟩
  case round =>
    obtain ⟨k, hk, rfl, hB⟩ := hrel
    by_cases hlt : k < n
    · have hkg : k < zs.length := by rw [← HN.out]; exact hlt
      rcases H1.out with hn | ⟨x, rfl, hc1⟩
      · rw [hn] at hkg; simp at hkg
      rcases H2.out with hn | ⟨y, rfl, hc2⟩
      · rw [hn] at hkg; simp at hkg
      have a0 := (hB.cell (lt_of_cell (hc1 k hkg))).trans (hc1 k hkg)
      have b0 := (hB.cell (lt_of_cell (hc2 k hkg))).trans (hc2 k hkg)
      generalize zs[k] = z at *
      have HB := Lib.hid hB
      clear hc1 hc2 hB hkg
      go_wp2
      go_quiet (fail)
      go_wp2
      go_roundw
      case rel => exact ⟨k + 1, by omega, by go_num, HB.out.trans (((Drawn.refl _).drewN _).below _)⟩
      case measure => simp [intOf]; omega
    · go_wp2
      go_ret
      exact ⟨rfl, hB⟩
set_option maxRecDepth 100000 in
set_option maxHeartbeats 800000 in
theorem eqSS_any (u v : Value) (xss : List (List ByteArray)) (w : World) (hn : xss.length ≤ 1048576) (hr : ∀ r ∈ xss, r.length ≤ 1048576) (h1 : IsSLL w u xss) (h2 : IsSLL w v xss) :
    Calls Try.prog 44 #[u, v] w fun e w' => e = .returned (.bool true) ∧ Below w.heap.size w w' := by
  have HU := Lib.hid (fun W (hb : Below w.heap.size w W) => h1.kept hb)
  have HV := Lib.hid (fun W (hb : Below w.heap.size w W) => h2.kept hb)
  have HR := Lib.hid hr
  obtain ⟨A1, c1, rfl, h1⟩ := h1
  obtain ⟨A2, c2, rfl, h2⟩ := h2
  obtain ⟨n, hng⟩ : ∃ n, n = xss.length := ⟨_, rfl⟩
  rw [← hng] at hn HU HV ⊢
  have HN := Lib.hid hng
  have H1 := Lib.hid h1
  have H2 := Lib.hid h2
  clear h1 h2 hng hr
  go_enter Try.func44, Try.ntmps44
  go_wp2
  go_loopw [5] (fun i wr => ∃ k : Nat, k ≤ n ∧ i = .int .i64 k ∧ Below w.heap.size w wr) (fun i _ => n - (intOf i).toNat)
  case atStart => exact ⟨0, Nat.zero_le _, rfl, Below.refl _ _⟩
  case round =>
    obtain ⟨k, hk, rfl, hB⟩ := hrel
    obtain ⟨wo, rfl⟩ : ∃ wo : World, wo = wr := ⟨_, rfl⟩
    by_cases hlt : k < n
    · have hkg : k < xss.length := by rw [← HN.out]; exact hlt
      rcases H1.out with hn | ⟨x, rfl, hc1⟩
      · rw [hn] at hkg; simp at hkg
      rcases H2.out with hn | ⟨y, rfl, hc2⟩
      · rw [hn] at hkg; simp at hkg
      obtain ⟨u1, a1, i1⟩ := hc1 k hkg
      obtain ⟨u2, a2, i2⟩ := hc2 k hkg
      have a0 := (hB.cell (lt_of_cell a1)).trans a1
      have b0 := (hB.cell (lt_of_cell a2)).trans a2
      have hm := HR.out _ (List.getElem_mem hkg)
      have HQ := Lib.hid (fun W (hb : Below w.heap.size w W) => eqS_any u1 u2 xss[k] W hm (i1.kept hb) (i2.kept hb))
      have HB := Lib.hid hB
      obtain ⟨A3, c3, rfl⟩ := i1.shape
      obtain ⟨A4, c4, rfl⟩ := i2.shape
      generalize xss[k].length = m at *
      clear hc1 hc2 hB hkg a1 a2 i1 i2
      go_wp2
      go_still_tail 8, (by kernel_rfl)
      change wpList _ _ _ _ _ wo.drew
      have hB2 : Below w.heap.size w wo.drew := HB.out.drew
      generalize wo.drew = w2 at hB2 ⊢
      clear HB a0 b0
      have HB2 := Lib.hid hB2
      clear hB2
      go_wp2_with fail
      refine (HQ.out _ HB2.out).mono ?_; rintro e w' ⟨rfl, hB'⟩
      have hB3 := HB2.out.trans (hB'.mono HB2.out.size)
      clear hB'
      go_wp2
      go_roundw
      case rel => exact ⟨k + 1, by omega, by go_num, hB3⟩
      case measure => simp [intOf]; omega
    · go_wp2
      go_ret
      exact ⟨rfl, hB⟩
set_option maxRecDepth 100000 in
set_option maxHeartbeats 1600000 in
theorem eqCoder_any (u v : Value) (x : Co) (w : World) (hf : FewC x) (h1 : IsCo w u x) (h2 : IsCo w v x) :
    Calls Try.prog 14 #[u, v] w fun e w' => e = .returned (.bool true) ∧ Below w.heap.size w w' := by
  obtain ⟨f1, n1, rfl, hF1, hN1⟩ := h1
  obtain ⟨f2, n2, rfl, hF2, hN2⟩ := h2
  have hB0 : Below w.heap.size w ((w.alloc (.cells #[.int .i64 x.st, .int .i64 x.go, f1, n1] 33)).alloc (.cells #[.int .i64 x.st, .int .i64 x.go, f2, n2] 33)) := ((Below.refl _ w).alloc (Nat.le_refl _) _).alloc (by simp) _
  have b1 := (Below.refl _ (w.alloc (.cells #[.int .i64 x.st, .int .i64 x.go, f1, n1] 33))).alloc (Nat.le_refl _) (.cells #[.int .i64 x.st, .int .i64 x.go, f2, n2] 33)
  have hP := (b1.block w.heap.size (by simp)).trans (heap_alloc_new w _)
  have hQ := heap_alloc_new (w.alloc (.cells #[.int .i64 x.st, .int .i64 x.go, f1, n1] 33)) (.cells #[.int .i64 x.st, .int .i64 x.go, f2, n2] 33)
  rw [show (w.alloc (.cells #[.int .i64 x.st, .int .i64 x.go, f1, n1] 33)).heap.size = w.heap.size + 1 from by simp] at hQ
  have hs : w.heap.size + 2 ≤ ((w.alloc (.cells #[.int .i64 x.st, .int .i64 x.go, f1, n1] 33)).alloc (.cells #[.int .i64 x.st, .int .i64 x.go, f2, n2] 33)).heap.size := by simp
  obtain ⟨A1, c1, rfl, _⟩ := id hF1
  obtain ⟨A2, c2, rfl, _⟩ := id hF2
  obtain ⟨A3, c3, rfl, _⟩ := id hN1
  obtain ⟨A4, c4, rfl, _⟩ := id hN2
  have HF := Lib.hid (fun W (hb : Below w.heap.size w W) => eqLL_any _ _ x.nx W hf.nx hf.row (hF1.kept hb) (hF2.kept hb))
  have HN := Lib.hid (fun W (hb : Below w.heap.size w W) => eqSS_any _ _ x.ou W hf.ou hf.orow (hN1.kept hb) (hN2.kept hb))
  have HP := Lib.hid hP
  have HQ := Lib.hid hQ
  have HB := Lib.hid hB0
  have HS := Lib.hid hs
  obtain ⟨⟨p0, p1, p2, p3⟩, _⟩ := blk4_cells hP
  obtain ⟨⟨q0, q1, q2, q3⟩, _⟩ := blk4_cells hQ
  clear hF1 hF2 hN1 hN2 hP hQ hB0 b1 hs
  go_enter Try.func14, Try.ntmps14
  go_wp2_with fail
  refine (HF.out _ HB.out).mono ?_
  rintro e w1 ⟨rfl, hB1⟩
  have hP := (hB1.block w.heap.size (by have := HS.out; omega)).trans HP.out
  have hQ := (hB1.block (w.heap.size + 1) (by have := HS.out; omega)).trans HQ.out
  obtain ⟨⟨_, _, _, s3⟩, _⟩ := blk4_cells hP
  obtain ⟨⟨_, _, _, t3⟩, _⟩ := blk4_cells hQ
  have HB1 := Lib.hid (HB.out.trans (hB1.mono (by have := HS.out; omega)))
  clear hB1 hP hQ
  go_wp2_with fail
  refine (HN.out _ HB1.out).mono ?_
  rintro e w2 ⟨rfl, hB2⟩
  have HB2 := Lib.hid (HB1.out.trans (hB2.mono HB1.out.size))
  clear hB2
  go_wp2_with fail
  go_ret
  exact ⟨rfl, HB2.out⟩
end Go.Proofs.Ytapemoehcohjgaa
namespace Go.Proofs.Ytapemoehcohjgaa
open Go.RowKit
open Wd
set_option linter.unusedVariables false
theorem orow_facts {r : List ByteArray} : orowOk r = true ↔ r.length = 4 ∧ ∀ j (hj : j < r.length), outOk r[j] = true := by
  unfold orowOk
  rw [Bool.and_eq_true, decide_eq_true_iff]
  refine and_congr Iff.rfl ⟨fun h j hj => List.all_eq_true.1 h _ (List.getElem_mem hj), fun h => List.all_eq_true.2 fun s hs => ?_⟩
  obtain ⟨j, hj, e⟩ := List.getElem_of_mem hs
  rw [← e]
  exact h j hj
theorem outOk_big {s : ByteArray} (h : 6 < s.size) : outOk s = false := by unfold outOk; rw [decide_eq_false (by omega), Bool.false_and]
theorem outOk_few {s : ByteArray} (h : s.size ≤ 6) : outOk s = okL s.data.toList := by unfold outOk; rw [decide_eq_true h, Bool.true_and]
set_option maxRecDepth 100000 in
set_option maxHeartbeats 6400000 in
theorem l04Coder_rest (pb : Nat) (A Ao : Option Addr) (c co : Nat) (st go : Int) (nx : List (List Int)) (ou : List (List ByteArray)) (w : World) (hP : w.heap[pb]? = some (.cells #[.int .i64 st, .int .i64 go, .slice A nx.length c, .slice Ao ou.length co] 33 (0, 0))) (hN : IsLL w (.slice A nx.length c) nx) (hO : IsSLL w (.slice Ao ou.length co) ou) (hf : FewC ⟨st, go, nx, ou⟩)
    (h1 : 1 ≤ st ∧ st ≤ 24) (h2 : 0 ≤ go ∧ go ≤ st - 1) (h3 : (nx.all (rowOk st) && decide ((nx.length : Int) = st)) = true) (h4 : (ou.length : Int) = st) :
    Calls Try.prog 35 #[.pointer (some ⟨pb, 0, none⟩)] w fun e w' => e = .returned (.bool (ou.all orowOk)) ∧ Drawn w w' := by
  obtain ⟨⟨p0, p1, p2, p3⟩, _⟩ := blk4_cells hP
  have H1 := Lib.hid (fun W => inB_any st 1 24 W)
  rw [decide_eq_true h1] at H1
  have H2 := Lib.hid (fun W => inB_any go 0 (st - 1) W)
  rw [decide_eq_true h2] at H2
  have H4 := Lib.hid (fun n => next_any _ nx st (w.drewN n) h1.1 h1.2 hf.nx hf.row (hN.kept (((Drawn.refl w).drewN n).below _)))
  rw [h3] at H4
  have hw1 : IntKind.i64.wrap (st - 1) = st - 1 := by rw [IntKind.wrap_i64]; omega
  have HT := Lib.hid hf.txt
  simp only at HT
  obtain ⟨Ao', co', hv, hin⟩ := hO
  injection hv with hvA hvn hvc
  subst hvA hvc
  have HI := Lib.hid hin
  obtain ⟨N, hNe⟩ : ∃ N, N = ou.length := ⟨_, rfl⟩
  rw [← hNe] at p3 h4
  have hl : N ≤ 1048576 := by rw [hNe]; exact hf.ou
  have hbe : ((N : Int) != st) = false := by simp [h4]
  have HN := Lib.hid hNe
  clear hP hN hin h1 h2 h3 h4 hNe hvn hf
  go_enter Try.func35, Try.ntmps35
  go_wp2_with fail
  go_quiet ((first
    | (go_at_call_of 69 (Value.int .i64 24); exact Calls.quiet_of_same (H1.out _))
    | (go_at_call_of 69 (Value.int .i64 go); exact Calls.quiet_of_same (H2.out _))
    | (go_at_call 70; exact Calls.quiet_of_same (H4.out _))))
  go_wp2_with fail
  have q3 : (w.drewN nq).cell? ⟨pb, 3, none⟩ = some (.slice Ao N co) := p3
  have HI1 : Hid (ou = [] ∨ ∃ a, Ao = some a ∧ ∀ j (hj : j < ou.length), ∃ u, (w.drewN nq).cell? (a.add j) = some u ∧ IsSL (w.drewN nq) u ou[j]) := Lib.hid (by
    rcases HI.out with h | ⟨a, ha, hc⟩
    · exact .inl h
    · refine .inr ⟨a, ha, fun j hj => ?_⟩
      obtain ⟨u, g1, g2⟩ := hc j hj
      exact ⟨u, g1, g2.kept (((Drawn.refl w).drewN nq).below _)⟩)
  have HD := Lib.hid ((Drawn.refl w).drewN nq)
  generalize w.drewN nq = w1 at *
  clear p0 p1 p2 p3 H1 H2 H4 hbe hw1 HI
  go_loopw [3] (fun i wr => ∃ k : Nat, k ≤ N ∧ i = .int .i64 k ∧ (∀ j (hj : j < ou.length), j < k → orowOk ou[j] = true) ∧ wr = w1) (fun i _ => N - (intOf i).toNat)
  case atStart => exact ⟨0, Nat.zero_le _, rfl, fun j hj h => by omega, rfl⟩
  case round =>
    obtain ⟨k, hk, rfl, hall, rfl⟩ := hrel
    obtain ⟨wo, rfl⟩ : ∃ wo : World, wo = wr := ⟨_, rfl⟩
    have HALL := Lib.hid hall
    clear hall
    by_cases hlt : k < N
    · have hkg : k < ou.length := by rw [← HN.out]; exact hlt
      rcases HI1.out with hn | ⟨x, rfl, hc⟩
      · rw [hn] at hkg; simp at hkg
      obtain ⟨u, c0, A2, c2, rfl, hrow⟩ := hc k hkg
      have htx := HT.out ou[k] (List.getElem_mem hkg)
      have HBAD : Hid (orowOk ou[k] = false → ou.all orowOk = false) := Lib.hid (fun h => by
        rw [List.all_eq_false]
        exact ⟨ou[k], List.getElem_mem hkg, by rw [h]; decide⟩)
      have HGOOD : Hid (orowOk ou[k] = true → ∀ j (hj : j < ou.length), j < k + 1 → orowOk ou[j] = true) := Lib.hid (fun h j hj hjk => by
        by_cases e : j = k
        · subst e; exact h
        · exact HALL.out j hj (by omega))
      generalize ou[k] = r at *
      have HROW := Lib.hid hrow
      have HTX := Lib.hid htx
      obtain ⟨m, hm'⟩ : ∃ m, m = r.length := ⟨_, rfl⟩
      rw [← hm'] at c0
      have HM := Lib.hid hm'
      clear hrow hc hm' htx
      by_cases h4 : m = 4
      · subst h4
        have HM0 := HM.out
        rcases HROW.out with he | ⟨y, rfl, hz⟩
        · rw [he] at HM0; simp at HM0
        have HZ := Lib.hid hz
        clear HM0 hz HROW
        go_wp2_with fail
        go_loopw [4] (fun i wr => ∃ q : Nat, q ≤ 4 ∧ i = .int .i64 q ∧ (∀ j (hj : j < r.length), j < q → outOk r[j] = true) ∧ wr = wo) (fun i _ => 4 - (intOf i).toNat)
        case atStart => exact ⟨0, Nat.zero_le _, rfl, fun j hj h => by omega, rfl⟩
        case round =>
          obtain ⟨q, hq, rfl, hall, rfl⟩ := hrel
          have HA := Lib.hid hall
          clear hall
          by_cases hq4 : q < 4
          · have hqr : q < r.length := by rw [← HM.out]; exact hq4
            have z0 := HZ.out q hqr
            have hss := HTX.out _ (List.getElem_mem hqr)
            have hq0 : (0 : Int) ≤ (q : Int) := by omega
            have hq1 : (q : Int) < 4 := by omega
            have HB2 : Hid (outOk r[q] = false → orowOk r = false) := Lib.hid (fun h => by
              cases ho : orowOk r
              · rfl
              · rw [(orow_facts.1 ho).2 q hqr] at h; cases h)
            have HG2 : Hid (outOk r[q] = true → ∀ j (hj : j < r.length), j < q + 1 → outOk r[j] = true) := Lib.hid (fun h j hj hjq => by
              by_cases e : j = q
              · subst e; exact h
              · exact HA.out j hj (by omega))
            have HO := Lib.hid (fun W => specOk r[q] W hss)
            generalize r[q] = s at *
            unfold maxLen at hss
            by_cases hbig : 6 < s.size
            · have hd : decide ((6 : Int) < (s.size : Int)) = true := decide_eq_true (by omega)
              have hd2 : decide (6 < s.size) = true := decide_eq_true (by omega)
              have HF := Lib.hid (HBAD.out (HB2.out (outOk_big hbig)))
              clear HB2 HG2 HO hbig
              go_wp2_with fail
              go_ret
              exact ⟨by rw [HF.out] <;> rfl, HD.out⟩
            · have hd : decide ((6 : Int) < (s.size : Int)) = false := decide_eq_false (by omega)
              have hd2 : decide (6 < s.size) = false := decide_eq_false (by omega)
              have he := outOk_few (s := s) (by omega)
              cases ho : okL s.data.toList
              · rw [ho] at HO he
                have HF := Lib.hid (HBAD.out (HB2.out he))
                clear HB2 HG2 hbig he ho
                go_wp2_with fail
                refine (HO.out _).mono ?_
                rintro e w5 ⟨rfl, rfl⟩
                go_wp2_with fail
                go_ret
                exact ⟨by rw [HF.out] <;> rfl, HD.out⟩
              · rw [ho] at HO he
                have HNX := Lib.hid (HG2.out he)
                clear HB2 HG2 hbig he ho
                go_wp2_with fail
                refine (HO.out _).mono ?_
                rintro e w5 ⟨rfl, rfl⟩
                go_wp2_with fail
                go_roundw
                all_goals first | exact ⟨q + 1, by omega, by go_num, HNX.out, by first | rfl | trivial⟩ | ((repeat apply Exists.intro); exact ⟨⟨q + 1, by omega, by go_num, HNX.out, by first | rfl | trivial⟩, by first | rfl | trivial⟩) | (simp [intOf]; done) | (simp [intOf]; omega) | omega
          · obtain rfl : q = 4 := by omega
            have HNX := Lib.hid (HGOOD.out (orow_facts.2 ⟨HM.out.symm, fun j hj => HA.out j hj (by rw [HM.out]; exact hj)⟩))
            go_wp2_with fail
            go_roundw
            all_goals first | exact ⟨k + 1, by omega, by go_num, HNX.out, by first | rfl | trivial⟩ | ((repeat apply Exists.intro); exact ⟨⟨k + 1, by omega, by go_num, HNX.out, by first | rfl | trivial⟩, by first | rfl | trivial⟩) | (simp [intOf]; done) | (simp [intOf]; omega) | omega
      · have hne : ¬ (m : Int) = 4 := by omega
        have HF := Lib.hid (HBAD.out (by unfold orowOk; rw [← HM.out, decide_eq_false h4]; rfl))
        clear HBAD HGOOD HALL
        go_wp2_with fail
        go_ret
        exact ⟨by rw [HF.out] <;> rfl, HD.out⟩
    · obtain rfl : k = N := by omega
      have HT2 : Hid (ou.all orowOk = true) := Lib.hid (by
        rw [List.all_eq_true]
        intro r hr
        obtain ⟨j, hj, e⟩ := List.getElem_of_mem hr
        rw [← e]
        exact HALL.out j hj (by rw [HN.out]; exact hj))
      clear HALL
      go_wp2_with fail
      go_ret
      exact ⟨by rw [HT2.out] <;> rfl, HD.out⟩
end Go.Proofs.Ytapemoehcohjgaa
namespace Go.Proofs.Ytapemoehcohjgaa
open Go.RowKit
open Wd
set_option linter.unusedVariables false
set_option maxRecDepth 100000 in
set_option maxHeartbeats 6400000 in
theorem l04Coder_any (pb : Nat) (nv ov : Value) (x : Co) (w : World) (hP : w.heap[pb]? = some (.cells #[.int .i64 x.st, .int .i64 x.go, nv, ov] 33 (0, 0))) (hN : IsLL w nv x.nx) (hO : IsSLL w ov x.ou) (hf : FewC x) :
    Calls Try.prog 35 #[.pointer (some ⟨pb, 0, none⟩)] w fun e w' => e = .returned (.bool (cOk x)) ∧ Drawn w w' := by
  obtain ⟨st, go, nx, ou⟩ := x
  simp only at hP hN hO
  have hf1 := hf.nx
  have hf2 := hf.row
  simp only at hf1 hf2
  have HX := Lib.hid (fun (A Ao : Option Addr) (c co : Nat) (e1 : nv = .slice A nx.length c) (e2 : ov = .slice Ao ou.length co) h1 h2 h3 h4 => l04Coder_rest pb A Ao c co st go nx ou w (by rw [← e1, ← e2]; exact hP) (by rw [← e1]; exact hN) (by rw [← e2]; exact hO) hf h1 h2 h3 h4)
  obtain ⟨⟨p0, p1, p2, p3⟩, _⟩ := blk4_cells hP
  have H1 := Lib.hid (fun W => inB_any st 1 24 W)
  have H2 := Lib.hid (fun W => inB_any go 0 (st - 1) W)
  have H4 := Lib.hid (fun n (h1 : 1 ≤ st) (h2 : st ≤ 24) => next_any nv nx st (w.drewN n) h1 h2 hf1 hf2 (hN.kept (((Drawn.refl w).drewN n).below _)))
  obtain ⟨A, c, rfl, hx⟩ := hN
  obtain ⟨Ao, co, rfl, hx'⟩ := hO
  clear hP hx hx' hf
  obtain ⟨R, hR⟩ : ∃ R, R = cOk ⟨st, go, nx, ou⟩ := ⟨_, rfl⟩
  have HR := Lib.hid hR
  rw [← hR]
  unfold cOk at hR
  simp only at hR
  by_cases h1 : 1 ≤ st ∧ st ≤ 24
  · rw [decide_eq_true h1, Bool.true_and] at hR
    by_cases h2 : 0 ≤ go ∧ go ≤ st - 1
    · rw [decide_eq_true h2, Bool.true_and] at hR
      cases h3 : (nx.all (rowOk st) && decide ((nx.length : Int) = st))
      · rw [h3, Bool.false_and] at hR
        rw [decide_eq_true h1] at H1
        rw [decide_eq_true h2] at H2
        have hw1 : IntKind.i64.wrap (st - 1) = st - 1 := by rw [IntKind.wrap_i64]; omega
        have H4 := Lib.hid (fun n => H4.out n h1.1 h1.2)
        rw [h3] at H4
        have HF := Lib.hid hR
        clear h1 h2 h3 hR HX
        go_enter Try.func35, Try.ntmps35
        go_wp2_with fail
        go_quiet ((first
          | (go_at_call_of 69 (Value.int .i64 24); exact Calls.quiet_of_same (H1.out _))
          | (go_at_call_of 69 (Value.int .i64 go); exact Calls.quiet_of_same (H2.out _))
          | (go_at_call 70; exact Calls.quiet_of_same (H4.out _))))
        go_wp2_with fail
        go_ret
        exact ⟨by rw [HF.out] <;> rfl, (Drawn.refl w).drewN _⟩
      · rw [h3, Bool.true_and] at hR
        by_cases h4 : (ou.length : Int) = st
        · rw [decide_eq_true h4, Bool.true_and] at hR
          rw [hR]
          exact HX.out A Ao c co rfl rfl h1 h2 h3 h4
        · rw [decide_eq_false h4, Bool.false_and] at hR
          rw [decide_eq_true h1] at H1
          rw [decide_eq_true h2] at H2
          have hw1 : IntKind.i64.wrap (st - 1) = st - 1 := by rw [IntKind.wrap_i64]; omega
          have H4 := Lib.hid (fun n => H4.out n h1.1 h1.2)
          rw [h3] at H4
          have HF := Lib.hid hR
          have hbe : ((ou.length : Int) != st) = true := by simp [h4]
          clear h1 h2 h3 hR HX h4
          go_enter Try.func35, Try.ntmps35
          go_wp2_with fail
          go_quiet ((first
            | (go_at_call_of 69 (Value.int .i64 24); exact Calls.quiet_of_same (H1.out _))
            | (go_at_call_of 69 (Value.int .i64 go); exact Calls.quiet_of_same (H2.out _))
            | (go_at_call 70; exact Calls.quiet_of_same (H4.out _))))
          go_wp2_with fail
          go_ret
          exact ⟨by rw [HF.out] <;> rfl, (Drawn.refl w).drewN _⟩
    · rw [decide_eq_false h2, Bool.false_and] at hR
      rw [decide_eq_true h1] at H1
      rw [decide_eq_false h2] at H2
      have hw1 : IntKind.i64.wrap (st - 1) = st - 1 := by rw [IntKind.wrap_i64]; omega
      have HF := Lib.hid hR
      clear h1 h2 H4 hR HX
      go_enter Try.func35, Try.ntmps35
      go_wp2_with fail
      go_quiet ((first
        | (go_at_call_of 69 (Value.int .i64 24); exact Calls.quiet_of_same (H1.out _))
        | (go_at_call_of 69 (Value.int .i64 go); exact Calls.quiet_of_same (H2.out _))))
      go_wp2_with fail
      go_ret
      exact ⟨by rw [HF.out] <;> rfl, (Drawn.refl w).drewN _⟩
  · rw [decide_eq_false h1, Bool.false_and] at hR
    rw [decide_eq_false h1] at H1
    have HF := Lib.hid hR
    clear h1 H2 H4 hR HX
    go_enter Try.func35, Try.ntmps35
    go_wp2_with fail
    go_quiet ((first
      | (go_at_call_of 69 (Value.int .i64 24); exact Calls.quiet_of_same (H1.out _))))
    go_wp2_with fail
    go_ret
    exact ⟨by rw [HF.out] <;> rfl, (Drawn.refl w).drewN _⟩
theorem specValidCoder (v : Value) (x : Co) (w : World) (hf : FewC x) (h : IsCo w v x) :
    Calls Try.prog 30 #[v] w fun e w' => e = .returned (.bool (cOk x)) ∧ Below w.heap.size w w' := by
  obtain ⟨f, n, rfl, hF, hN⟩ := h
  have hb := (Below.refl _ w).alloc (Nat.le_refl _) (.cells #[.int .i64 x.st, .int .i64 x.go, f, n] 33)
  have HC := Lib.hid (l04Coder_any w.heap.size f n x _ (heap_alloc_new w _) (hF.kept hb) (hN.kept hb) hf)
  have HB := Lib.hid hb
  clear hF hN hb
  go_enter Try.func30, Try.ntmps30
  go_wp2_with fail
  refine HC.out.mono ?_
  rintro e w1 ⟨rfl, hD⟩
  go_wp2_with fail
  go_ret
  exact ⟨rfl, HB.out.trans (hD.below _)⟩
end Go.Proofs.Ytapemoehcohjgaa
namespace Go.Proofs
open Go.Shelf
def Try.lays143_ren : Go.Shelf.Ren := ⟨fun | 143 => 84 | 219 => 103 | 217 => 111 | 225 => 112 | 224 => 113 | 267 => 114 | 266 => 116 | 314 => 117 | n => n, fun | 9 => 9 | 3 => 3 | 4 => 4 | 5 => 5 | 46 => 173 | 146 => 175 | 51 => 174 | n => n, fun | 1 => 0 | n => n⟩
theorem Try.lays143 : Go.Proofs.Lays.n143 Try.prog Try.lays143_ren := {
  mixed := by kernel_rfl
  f143 := Try.func84.trans (congrArg some (by kernel_rfl))
  f217 := Try.func111.trans (congrArg some (by kernel_rfl))
  f219 := Try.func103.trans (congrArg some (by kernel_rfl))
  f224 := Try.func113.trans (congrArg some (by kernel_rfl))
  f225 := Try.func112.trans (congrArg some (by kernel_rfl))
  f266 := Try.func116.trans (congrArg some (by kernel_rfl))
  f267 := Try.func114.trans (congrArg some (by kernel_rfl))
  f314 := Try.func117.trans (congrArg some (by kernel_rfl))
  t3 := Try.underlying3
  a3 := Try.isAgg3
  z3 := Try.sizeOf3
  v3 := Try.zeroValue3
  t4 := Try.underlying4
  a4 := Try.isAgg4
  z4 := Try.sizeOf4
  v4 := Try.zeroValue4
  t5 := Try.underlying5
  a5 := Try.isAgg5
  z5 := Try.sizeOf5
  v5 := Try.zeroValue5
  t9 := Try.underlying9
  a9 := Try.isAgg9
  z9 := Try.sizeOf9
  v9 := Try.zeroValue9
  t46 := Try.underlying173
  a46 := Try.isAgg173
  z46 := Try.sizeOf173
  v46 := Try.zeroValue173
  t51 := Try.underlying174
  a51 := Try.isAgg174
  z51 := Try.sizeOf174
  v51 := Try.zeroValue174
  t146 := Try.underlying175
  a146 := Try.isAgg175
  z146 := Try.sizeOf175
  v146 := Try.zeroValue175
  g1 := by kernel_rfl }
open Go.RowKit Go.Lib in
theorem Try.strings_Index_one (s : ByteArray) (c : UInt8) (w : World) :
    Calls Try.prog 84 #[.string s, .string ⟨#[c]⟩] w fun e w' => e = .returned (.int .i64 (Lib.indexByte s.data.toList c)) ∧ w' = w := Any.strings_Index_one Try.lays143 s c w

end Go.Proofs
namespace Go.Proofs.Ytapemoehcohjgaa
open Go.RowKit
open Wd
set_option linter.unusedVariables false
theorem idx_letter (b : UInt8) (d : Nat) (hb : (b.toNat : Int) = (d : Int) + 97) (hd : d < 4) (w : World) :
    Calls Try.prog 84 #[.string ⟨#[97, 98, 99, 100]⟩, .string ⟨#[b]⟩] w fun e w' => e = .returned (.int .i64 (d : Int)) ∧ w' = w := by
  refine (Try.strings_Index_one ⟨#[97, 98, 99, 100]⟩ b w).mono fun e w' he => ⟨he.1.trans (ret_int ?_), he.2⟩
  obtain rfl : b = UInt8.ofNat (d + 97) := by
    apply UInt8.toNat_inj.1
    simp
    omega
  match d, hd with
  | 0, _ => rfl
  | 1, _ => rfl
  | 2, _ => rfl
  | 3, _ => rfl
end Go.Proofs.Ytapemoehcohjgaa
namespace Go.Proofs.Ytapemoehcohjgaa
open Go.RowKit
open Wd
set_option linter.unusedVariables false

theorem eqI_zero (a b : Option Addr) (c d : Nat) (w : World) :
    Calls Try.prog 25 #[.slice a 0 c, .slice b 0 d] w fun e w' => e = .returned (.bool true) ∧ Drawn w w' := by
  go_enter Try.func25, Try.ntmps25
  go_wp2
  refine wp_loop_rounds 1 ?_
  rw [rounds_succ]
  go_wp2
  go_ret
  exact ⟨rfl, Drawn.refl _⟩

set_option maxHeartbeats 400000 in
theorem eqI_some (g1 g2 c d n : Nat) (zs : List Int) (hn : zs.length = n) (hn' : n ≤ 1000000) (w : World) (h1 : ∀ j (hj : j < zs.length), w.cell? ⟨g1, j, none⟩ = some (.int .i64 zs[j])) (h2 : ∀ j (hj : j < zs.length), w.cell? ⟨g2, j, none⟩ = some (.int .i64 zs[j])) :
    Calls Try.prog 25 #[.slice (some ⟨g1, 0, none⟩) n c, .slice (some ⟨g2, 0, none⟩) n d] w fun e w' => e = .returned (.bool true) ∧ Drawn w w' := by
  have H1 := Lib.hid h1
  have H2 := Lib.hid h2
  have HN := Lib.hid hn
  clear h1 h2 hn
  go_enter Try.func25, Try.ntmps25
  go_wp2
  go_loopw [5] (fun i wr => ∃ k : Nat, k ≤ n ∧ i = .int .i64 k ∧ Drawn w wr) (fun i _ => n - (intOf i).toNat)
  case atStart => exact ⟨0, Nat.zero_le _, rfl, Drawn.refl _⟩
  case round =>
    obtain ⟨k, hk, rfl, hD⟩ := hrel
    by_cases hlt : k < n
    · have hkz : k < zs.length := by rw [HN.out]; exact hlt
      have c1 : wr.cell? ⟨g1, k, none⟩ = some (.int .i64 zs[k]) := by obtain ⟨m, rfl⟩ := hD; exact H1.out k hkz
      have c2 : wr.cell? ⟨g2, k, none⟩ = some (.int .i64 zs[k]) := by obtain ⟨m, rfl⟩ := hD; exact H2.out k hkz
      generalize zs[k] = z at c1 c2
      clear hkz
      go_wp2
      go_quiet (fail)
      go_wp2
      go_roundw
      case rel => exact ⟨k + 1, by omega, by go_num, hD.drewN _⟩
      case measure => simp [intOf]; omega
    · go_wp2
      go_ret
      exact ⟨rfl, hD⟩

theorem eqI (a b : Value) (zs : List Int) (B C : Nat) (w : World) (h1 : OwnsI w B a zs) (h2 : OwnsI w C b zs) (hn : zs.length ≤ 1000000) :
    Calls Try.prog 25 #[a, b] w fun e w' => e = .returned (.bool true) ∧ Drawn w w' := by
  by_cases h0 : zs.length = 0
  · have hz := List.eq_nil_of_length_eq_zero h0
    subst hz
    have sh : ∀ {v B}, OwnsI w B v [] → ∃ a c, v = .slice a 0 c := fun h => by
      rcases h.shape with ⟨rfl, _⟩ | ⟨g, cap, rfl, _⟩
      · exact ⟨_, _, rfl⟩
      · exact ⟨_, _, rfl⟩
    obtain ⟨_, _, rfl⟩ := sh h1
    obtain ⟨_, _, rfl⟩ := sh h2
    exact eqI_zero _ _ _ _ _
  · rcases h1.shape with ⟨_, rfl⟩ | ⟨g1, c1, rfl, _⟩
    · simp at h0
    rcases h2.shape with ⟨_, rfl⟩ | ⟨g2, c2, rfl, _⟩
    · simp at h0
    exact eqI_some g1 g2 c1 c2 _ zs rfl hn w (fun j hj => h1.cell j hj) (fun j hj => h2.cell j hj)

theorem markI_zero (a : Option Addr) (c : Nat) (k : Int) (w : World) :
    Calls Try.prog 28 #[.slice a 0 c, .int .i64 k] w fun e w' => e = .returned (.int .i64 k) ∧ w = w' := by
  go_enter Try.func28, Try.ntmps28
  go_wp2
  refine wp_loop_rounds 1 ?_
  rw [rounds_succ]
  go_wp2
  go_ret
  exact ⟨rfl, rfl⟩

set_option maxHeartbeats 400000 in
theorem markI_some (g c n B : Nat) (zs : List Int) (hn : zs.length = n) (hn' : n ≤ 1048576) (k : Int) (hk0 : 0 ≤ k) (hk1 : k ≤ 8796093022208) (w : World) (h : w.ownsRow B 2 1 (.slice (some ⟨g, 0, none⟩) n c) n (iv zs)) :
    Calls Try.prog 28 #[.slice (some ⟨g, 0, none⟩) n c, .int .i64 k] w fun e w' => e = .returned (.int .i64 (k + n)) ∧
      w'.ownsRow B 2 1 (.slice (some ⟨g, 0, none⟩) n c) n (iv (marks k n)) ∧ w.grownBy w' (some g) := by
  have HN := Lib.hid hn
  clear hn
  go_enter Try.func28, Try.ntmps28
  go_wp2
  go_loopw [1, 5] (fun q i wr => ∃ j : Nat, j ≤ n ∧ i = .int .i64 j ∧ q = .int .i64 (k + j) ∧ wr.ownsRow B 2 1 (.slice (some ⟨g, 0, none⟩) n c) n (iv (marks k j ++ zs.drop j)) ∧ w.grownBy wr (some g))
    (fun _ i _ => n - (intOf i).toNat)
  case atStart => exact ⟨0, Nat.zero_le _, rfl, by simp, by simpa [marks] using h, World.grownBy.refl _ _⟩
  case round =>
    obtain ⟨j, hj, rfl, rfl, hown, hgr⟩ := hrel
    by_cases hlt : j < n
    · have hjz : j < zs.length := by rw [HN.out]; exact hlt
      have hc : wr.cell? ⟨g, j, none⟩ = some (.int .i64 zs[j]) := by
        have hw : (marks k j ++ zs.drop j)[j]? = some zs[j] := by
          rw [List.getElem?_append_right (by rw [marks_len]; omega), marks_len, Nat.sub_self, List.getElem?_drop]; simp [hjz]
        rw [hown.cellAt j (by omega)]
        simp only [iv, List.getElem?_map, hw, Option.map_some]
      have hf : wr.frozen? ⟨g, j, none⟩ = false := hown.frozenAt j
      have hst := hown.stored j (.int .i64 (k + j))
      rw [iv_set k zs j hjz] at hst
      obtain ⟨hst1, hst2⟩ := hst
      have hg2 : w.grownBy (wr.setCell ⟨g, j, none⟩ (.int .i64 (k + j))) (some g) := ⟨hst2.os.trans hgr.os, hst2.tape.trans hgr.tape, hst2.output.trans hgr.output, Nat.le_trans hgr.size hst2.size, fun q hq hne => (hst2.block q (Nat.lt_of_lt_of_le hq hgr.size) hne).trans (hgr.block q hq hne)⟩
      generalize zs[j] = z at hc
      clear hst2 hgr hown hjz
      go_wp2
      go_roundw
      case rel => exact ⟨j + 1, by omega, by go_num, by go_num, hst1, hg2⟩
      case measure => simp [intOf]; omega
    · have hjn : j = n := by omega
      have hown' : wr.ownsRow B 2 1 (.slice (some ⟨g, 0, none⟩) n c) n (iv (marks k n)) := by
        rw [hjn, List.drop_of_length_le (by rw [HN.out]; omega), List.append_nil] at hown; exact hown
      have HJ := Lib.hid hjn
      clear hjn hown
      go_wp2
      go_ret
      exact ⟨ret_int (by have := HJ.out; omega), hown', hgr⟩

theorem markI (v : Value) (zs : List Int) (B : Nat) (k : Int) (hk0 : 0 ≤ k) (hk1 : k ≤ 8796093022208) (w : World) (h : OwnsI w B v zs) (hn : zs.length ≤ 1048576) :
    Calls Try.prog 28 #[v, .int .i64 k] w fun e w' => e = .returned (.int .i64 (k + zs.length)) ∧ OwnsI w' B v (marks k zs.length) ∧ w.grownBy w' v.ownBlock := by
  rcases h.shape with ⟨rfl, rfl⟩ | ⟨g, c, rfl, _⟩
  · refine (markI_zero none 0 k w).mono fun e w' ⟨he, hw⟩ => ?_
    subst hw
    exact ⟨by rw [he]; simp, World.ownsRow_nil _ _ _ _, World.grownBy.refl _ _⟩
  · refine (markI_some g c _ B zs rfl hn k hk0 hk1 w h).mono fun e w' ⟨he, hw, hg⟩ => ⟨he, ?_, hg⟩
    unfold OwnsI
    rw [marks_len]
    exact hw

theorem heldI_zero (a : Option Addr) (c : Nat) (k : Int) (w : World) :
    Calls Try.prog 29 #[.slice a 0 c, .int .i64 k] w fun e w' => e = .returned (.int .i64 k) ∧ w = w' := by
  go_enter Try.func29, Try.ntmps29
  go_wp2
  refine wp_loop_rounds 1 ?_
  rw [rounds_succ]
  go_wp2
  go_ret
  exact ⟨rfl, rfl⟩

set_option maxHeartbeats 400000 in
theorem heldI_some (g c n : Nat) (hn' : n ≤ 1048576) (k : Int) (hk0 : 0 ≤ k) (hk1 : k ≤ 8796093022208) (w : World) (h : ∀ j, j < n → w.cell? ⟨g, j, none⟩ = some (.int .i64 (k + j))) :
    Calls Try.prog 29 #[.slice (some ⟨g, 0, none⟩) n c, .int .i64 k] w fun e w' => e = .returned (.int .i64 (k + n)) ∧ w = w' := by
  have H := Lib.hid h
  clear h
  go_enter Try.func29, Try.ntmps29
  go_wp2
  go_loop [1, 5] (fun q i => ∃ j : Nat, j ≤ n ∧ i = .int .i64 j ∧ q = .int .i64 (k + j)) (fun _ i => n - (intOf i).toNat)
  case atStart => exact ⟨0, Nat.zero_le _, rfl, by simp⟩
  case round =>
    obtain ⟨j, hj, rfl, rfl⟩ := hrel
    by_cases hlt : j < n
    · have hc := H.out j hlt
      go_wp2
      go_round
      case rel => exact ⟨j + 1, by omega, by go_num, by go_num⟩
      case measure => simp [intOf]; omega
    · have hjn : j = n := by omega
      have HJ := Lib.hid hjn
      clear hjn
      go_wp2
      go_ret
      exact ⟨ret_int (by have := HJ.out; omega), rfl⟩

theorem heldI (v : Value) (n B : Nat) (k : Int) (hk0 : 0 ≤ k) (hk1 : k ≤ 8796093022208) (w : World) (h : OwnsI w B v (marks k n)) (hn : n ≤ 1048576) :
    Calls Try.prog 29 #[v, .int .i64 k] w fun e w' => e = .returned (.int .i64 (k + n)) ∧ w = w' := by
  rcases h.shape with ⟨rfl, h0⟩ | ⟨g, c, rfl, _⟩
  · have : n = 0 := by have := congrArg List.length h0; rw [marks_len] at this; simpa using this
    subst this
    refine (heldI_zero none 0 k w).mono fun e w' ⟨he, hw⟩ => ⟨by rw [he]; simp, hw⟩
  · have hc : ∀ j, j < n → w.cell? ⟨g, j, none⟩ = some (.int .i64 (k + j)) := fun j hj => by
      have := h.cell j (by rw [marks_len]; exact hj)
      rw [this]
      simp [marks]
    rw [marks_len]
    exact heldI_some g c n hn k hk0 hk1 w hc
end Go.Proofs.Ytapemoehcohjgaa
namespace Go.Proofs.Ytapemoehcohjgaa
open Go.RowKit
open Wd
set_option linter.unusedVariables false
namespace Wd
/-- how many numbers lie in the first rows -/
def pre (rs : List (List Int)) (j : Nat) : Nat := ((rs.take j).map List.length).sum
theorem pre_zero (rs : List (List Int)) : pre rs 0 = 0 := by simp [pre]
theorem pre_succ (rs : List (List Int)) (j : Nat) (h : j < rs.length) : pre rs (j + 1) = pre rs j + (rs[j]).length := by
  unfold pre
  rw [List.take_succ_eq_append_getElem h, List.map_append, List.sum_append]
  simp
theorem pre_le (rs : List (List Int)) (m : Nat) (hr : ∀ r ∈ rs, r.length ≤ m) : ∀ j, j ≤ rs.length → pre rs j ≤ j * m
  | 0, _ => by simp [pre_zero]
  | j + 1, h => by
    rw [pre_succ rs j (by omega), Nat.succ_mul]
    have h1 := pre_le rs m hr j (by omega)
    have h2 := hr _ (List.getElem_mem (show j < rs.length by omega))
    omega
/-- the first rows marked -/
def mkF (j : Nat) (k : Int) (rs : List (List Int)) : List (List Int) := (List.range rs.length).map fun i => if i < j then marks (k + pre rs i) (rs.getD i []).length else rs.getD i []
theorem mkF_len (j : Nat) (k : Int) (rs : List (List Int)) : (mkF j k rs).length = rs.length := by simp [mkF]
theorem mkF_get (j : Nat) (k : Int) (rs : List (List Int)) (i : Nat) (h : i < rs.length) : (mkF j k rs)[i]? = some (if i < j then marks (k + pre rs i) (rs[i]).length else rs[i]) := by
  unfold mkF
  rw [List.getElem?_map, List.getElem?_range h]
  simp [h]
theorem mkF_zero (k : Int) (rs : List (List Int)) : mkF 0 k rs = rs := by
  apply List.ext_getElem?
  intro i
  by_cases h : i < rs.length
  · rw [mkF_get 0 k rs i h, if_neg (by omega), List.getElem?_eq_getElem h]
  · rw [List.getElem?_eq_none (by rw [mkF_len]; omega), List.getElem?_eq_none (by omega)]
theorem mkF_set (j : Nat) (k : Int) (rs : List (List Int)) (h : j < rs.length) : (mkF j k rs).set j (marks (k + pre rs j) (rs[j]).length) = mkF (j + 1) k rs := by
  apply List.ext_getElem?
  intro i
  by_cases hi : i < rs.length
  · rw [mkF_get _ k rs i hi]
    by_cases e : j = i
    · subst e
      rw [List.getElem?_set_self (by rw [mkF_len]; exact h), if_pos (by omega)]
    · rw [List.getElem?_set_ne e, mkF_get _ k rs i hi]
      by_cases h1 : i < j
      · rw [if_pos h1, if_pos (by omega)]
      · rw [if_neg h1, if_neg (by omega)]
  · rw [List.getElem?_eq_none (by rw [List.length_set, mkF_len]; omega), List.getElem?_eq_none (by rw [mkF_len]; omega)]
end Wd
theorem OwnM.isLL {w : World} {lo : Nat} {v : Value} {U : List Value} {Z : List (List Int)} (h : OwnM w lo v U Z) : IsLL w v Z := by
  rcases h.shape with ⟨rfl, h0⟩ | ⟨g, c, rfl, _⟩
  · have hz : Z = [] := List.eq_nil_of_length_eq_zero (by rw [← h.len, h0]; rfl)
    subst hz
    exact ⟨none, 0, rfl, .inl rfl⟩
  · refine ⟨_, c, by rw [h.len], .inr ⟨_, rfl, fun j hj => ?_⟩⟩
    have hju : j < U.length := by rw [h.len]; exact hj
    refine ⟨U[j], ?_, IsL.of_own (h.rows.row j _ _ (List.getElem?_eq_getElem hju) (List.getElem?_eq_getElem hj))⟩
    rw [add_zero', h.outer.cellAt j (by omega), List.getElem?_eq_getElem hju]
theorem mkF_all (k : Int) (rs : List (List Int)) : mkF rs.length k rs = (List.range rs.length).map fun i => marks (k + pre rs i) (rs.getD i []).length := by
  unfold mkF
  apply List.map_congr_left
  intro i hi
  rw [if_pos (List.mem_range.1 hi)]
theorem Rws.rowAt {w : World} {lo : Nat} {U : List Value} {Z : List (List Int)} (h : Rws w lo U Z) {j : Nat} {u : Value} {zs : List Int} (hu : U[j]? = some u) (hz : Z[j]? = some zs) : OwnsI w lo u zs := h.row j u zs hu hz
/-- an automaton's value that the call owns -/
structure OwnA (w : World) (lo : Nat) (f n : Value) (U : List Value) (fin : List Int) (nx : List (List Int)) : Prop where
  fin : OwnsI w lo f fin
  nx : OwnM w lo n U nx
  ne : ∀ u ∈ U, f.ownBlock = none ∨ f.ownBlock ≠ u.ownBlock
theorem OwnA.kept {w w' : World} {lo : Nat} {f n : Value} {U : List Value} {fin : List Int} {nx : List (List Int)} (h : OwnA w lo f n U fin nx) (hb : Below w.heap.size w w') : OwnA w' lo f n U fin nx :=
  ⟨own_below h.fin hb (Nat.le_refl _), h.nx.kept hb, h.ne⟩
theorem OwnA.lower {w : World} {lo B : Nat} {f n : Value} {U : List Value} {fin : List Int} {nx : List (List Int)} (h : OwnA w lo f n U fin nx) (hb : B ≤ lo) : OwnA w B f n U fin nx :=
  ⟨own_lower h.fin hb, h.nx.lower hb, h.ne⟩
theorem OwnA.blocks {w : World} {lo : Nat} {f n : Value} {U : List Value} {fin : List Int} {nx : List (List Int)} (h : OwnA w lo f n U fin nx) : ∀ u ∈ f :: U, ∀ q, u.ownBlock = some q → lo ≤ q ∧ q < w.heap.size := by
  intro u hu q hq
  rcases List.mem_cons.1 hu with rfl | hu
  · exact h.fin.lt q hq
  · exact h.nx.rows.ge u hu q hq
theorem OwnA.only {w w' : World} {lo : Nat} {f n : Value} {U V : List Value} {fin : List Int} {nx : List (List Int)} (h : OwnA w lo f n U fin nx) (ho : OnlyIn V w w') (hV : ∀ u ∈ V, ∀ q, u.ownBlock = some q → q < lo) : OwnA w' lo f n U fin nx := by
  refine ⟨own_only h.fin ho (fun u hu => ?_), h.nx.only ho hV, h.ne⟩
  cases hq : u.ownBlock with
  | none => exact .inl rfl
  | some q =>
    refine .inr fun e => ?_
    have h1 := hV u hu q hq
    have h2 := (h.fin.lt q e.symm).1
    omega
theorem OwnA.isAu {w : World} {lo : Nat} {f n : Value} {U : List Value} {x : Au} (h : OwnA w lo f n U x.fin x.nx) : IsAu w (.agg #[.int .i64 x.st, .int .i64 x.go, f, n]) x :=
  ⟨f, n, rfl, IsL.of_own h.fin, h.nx.isLL⟩
/-- how many numbers an automaton holds -/
def auN (x : Au) : Int := x.fin.length + pre x.nx x.nx.length
end Go.Proofs.Ytapemoehcohjgaa
namespace Go.Proofs.Ytapemoehcohjgaa
open Go.RowKit
open Wd
set_option linter.unusedVariables false

theorem run_append_of_nil {P : Program} (w : World) (base : Nat) (t ty e : TypeId) (i : TypeInfo) (size : Nat) (ht : P.underlying t = some (.slice e)) (hi : P.info? e = some i)
    (v : Value) (n : Nat) (xs : List Value) (hown : w.ownsRow base e size v n xs) (c : Nat) : (Builtin.append_ #[t, t] ty #[v, .slice none 0 c]).run P w = .ok v w := by
  rcases hown.2 with ⟨rfl, rfl⟩ | ⟨g, cap, cur, rfl, _, _, hnc, _⟩
  · simp [Builtin.append_, run_underlying ht, sizeOf, typeInfo, hi, Builtin.lenOf, Builtin.firstCells]
  · simp [Builtin.append_, run_underlying ht, sizeOf, typeInfo, hi, Builtin.lenOf, Builtin.firstCells, hnc, storeCells]
theorem wpList_append_nilc {P : Program} {w : World} {ops : Array Oper} {rest : List Oper} {o : Oper} {a : Act} {Q : Exit → Act → World → Prop} (hgd : o.guard = none) (s x : Operand) (t : TypeId)
    (ho : o.op = .call { callee := .builtin .append, args := #[s, x], argTypes := #[t, t] })
    (base : Nat) (e : TypeId) (i : TypeInfo) (size : Nat) (ht : P.underlying t = some (.slice e)) (hi : P.info? e = some i)
    (v : Value) (n : Nat) (xs : List Value) (hs : a.eval s = v) (hown : w.ownsRow base e size v n xs) (c : Nat) (hx : a.eval x = .slice none 0 c)
    (h : wpList P ops Q rest (a.put o.dst v) w) : wpList P ops Q (o :: rest) a w := by
  refine wpList_plain hgd fun K hK => ?_
  have hrun := run_append_of_nil (P := P) w base t o.type e i size ht hi v n xs hown c
  unfold Oper.wp
  simp [execOp, ho, resolve, invoke, builtin, hs, hx, hrun, Result.andThen]
  exact hK _ _ h

end Go.Proofs.Ytapemoehcohjgaa
namespace Go.Proofs.Ytapemoehcohjgaa
open Go.RowKit
open Wd
set_option linter.unusedVariables false
theorem Try.info_int64 : (Try.prog.info? 2).map (fun i => (i.zero, i.size, i.bytes)) = some (some (.int .i64 0), 1, 8) := by kernel_rfl
theorem isL_cases {w : World} {v : Value} {zs : List Int} (h : IsL w v zs) :
    (∃ c, v = .slice none 0 c ∧ zs = []) ∨ ∃ a c, v = .slice (some a) zs.length c ∧ ∀ j u, (iv zs)[j]? = some u → w.cell? (a.add j) = some u := by
  obtain ⟨A, c, rfl, h⟩ := h
  cases A with
  | none =>
    rcases h with h | ⟨a, ha, _⟩
    · subst h; exact .inl ⟨c, rfl, rfl⟩
    · cases ha
  | some a =>
    refine .inr ⟨a, c, rfl, fun j u hu => ?_⟩
    rcases h with h | ⟨b, hb, hc⟩
    · subst h; simp [iv] at hu
    · injection hb with hb
      subst hb
      have hj : j < zs.length := by have := (List.getElem?_eq_some_iff.1 hu).1; rwa [iv_len] at this
      rw [iv_get zs j hj] at hu
      injection hu with hu
      subst hu
      exact hc j hj
theorem iv_cell (zs : List Int) : ∀ u ∈ iv zs, u.oneCell' = true := by
  intro u hu
  obtain ⟨x, _, rfl⟩ := List.mem_map.1 hu
  rfl
namespace Wd
/-- whether a number is in a list -/
def hasN (zs : List Int) (n : Int) : Bool := decide (n ∈ zs)
end Wd
theorem hasN_yes {zs : List Int} {n : Int} {k : Nat} (hk : k < zs.length) (h : zs[k] = n) : hasN zs n = true := decide_eq_true (h ▸ List.getElem_mem hk)
theorem hasN_no {zs : List Int} {n : Int} (h : ∀ j (hj : j < zs.length), zs[j] ≠ n) : hasN zs n = false := decide_eq_false (fun hm => by
  obtain ⟨j, hj, e⟩ := List.getElem_of_mem hm
  exact h j hj e)
end Go.Proofs.Ytapemoehcohjgaa
namespace Go.Proofs.Ytapemoehcohjgaa
open Go.RowKit
open Wd
set_option linter.unusedVariables false
namespace Wd
/-- the numbers below k that are wanted -/
def finK (p : Nat → Bool) (k : Nat) : List Int := ((List.range k).filter p).map fun (s : Nat) => (s : Int)
theorem finK_zero (p : Nat → Bool) : finK p 0 = [] := rfl
theorem finK_yes {p : Nat → Bool} {k : Nat} (h : p k = true) : finK p (k + 1) = finK p k ++ [(k : Int)] := by simp [finK, List.range_succ, List.filter_append, h]
theorem finK_no {p : Nat → Bool} {k : Nat} (h : p k = false) : finK p (k + 1) = finK p k := by simp [finK, List.range_succ, List.filter_append, h]
theorem finK_len (p : Nat → Bool) (k : Nat) : (finK p k).length ≤ k := by
  unfold finK
  rw [List.length_map]
  have := List.length_filter_le p (List.range k)
  rwa [List.length_range] at this
def notP (x : Au) (s : Nat) : Bool := !hasN x.fin (s : Int)
def notA (x : Au) : Au := ⟨x.st, x.go, finK (notP x) x.st.toNat, x.nx⟩
def zeroA : Au := ⟨0, 0, [], []⟩
def autNotAuto (x : Au) : Au × Int := if aOk x = true then (notA x, 0) else (zeroA, 1)
end Wd
theorem zeroA_few : FewA zeroA := ⟨by decide, by decide, by intro r hr; simp [zeroA] at hr⟩
theorem autNotAuto_few {x : Au} (hf : FewA x) : FewA (autNotAuto x).1 := by
  unfold autNotAuto
  by_cases h : aOk x = true
  · rw [if_pos h]
    have h1 := (aOk_parts h).1
    refine ⟨?_, hf.nx, hf.row⟩
    have := finK_len (notP x) x.st.toNat
    show (finK (notP x) x.st.toNat).length ≤ 1048576
    omega
  · rw [if_neg h]; exact zeroA_few
theorem zeroA_is (w : World) : IsAu w (.agg #[.int .i64 0, .int .i64 0, .slice none 0 0, .slice none 0 0]) zeroA :=
  ⟨_, _, rfl, ⟨none, 0, rfl, .inl rfl⟩, ⟨none, 0, rfl, .inl rfl⟩⟩
/-- the zero answer is the call's own -/
theorem zeroA_own (w : World) (lo : Nat) : OwnA w lo (.slice none 0 0) (.slice none 0 0) [] zeroA.fin zeroA.nx :=
  ⟨World.ownsRow_nil _ _ _ _, ⟨World.ownsRow_nil _ _ _ _, Rws.nil _ _⟩, fun u hu => by simp at hu⟩
/-- four cells of a block -/
abbrev B4 (w : World) (b : Nat) (c0 c1 c2 c3 : Value) (t : TypeId) : Prop := w.heap[b]? = some (.cells #[c0, c1, c2, c3] t (0, 0))
theorem B4.lt {w : World} {b : Nat} {c0 c1 c2 c3 : Value} {t : TypeId} (h : B4 w b c0 c1 c2 c3 t) : b < w.heap.size := (Array.getElem?_eq_some_iff.1 h).1
theorem B4.kept {w w' : World} {b : Nat} {c0 c1 c2 c3 : Value} {t : TypeId} (h : B4 w b c0 c1 c2 c3 t) (hb : Below w.heap.size w w') : B4 w' b c0 c1 c2 c3 t := (hb.block b h.lt).trans h
theorem B4.alloc {w : World} {b : Nat} {c0 c1 c2 c3 : Value} {t : TypeId} (h : B4 w b c0 c1 c2 c3 t) (o : Obj) : B4 (w.alloc o) b c0 c1 c2 c3 t := h.kept ((Below.refl _ w).alloc (Nat.le_refl _) o)
theorem B4.far {w : World} {b : Nat} {c0 c1 c2 c3 : Value} {t : TypeId} (h : B4 w b c0 c1 c2 c3 t) (p : Addr) (u : Value) (hp : b ≠ p.block) : B4 (w.setCell p u) b c0 c1 c2 c3 t := (Below.heap_setCell w p u b hp).trans h
theorem B4.grown {w w' : World} {b : Nat} {c0 c1 c2 c3 : Value} {t : TypeId} {row : Option Nat} (h : B4 w b c0 c1 c2 c3 t) (hg : w.grownBy w' row) (hne : row ≠ some b) : B4 w' b c0 c1 c2 c3 t := (hg.block b h.lt (fun e => hne e.symm)).trans h
theorem B4.new (w : World) (c0 c1 c2 c3 : Value) (t : TypeId) : B4 (w.alloc (.cells #[c0, c1, c2, c3] t)) w.heap.size c0 c1 c2 c3 t := heap_alloc_new w _
/-- an automaton whose final states are being found: it lies in block X, its rows before B, its finals from B on -/
structure FSt (w : World) (X : Nat) (st go : Int) (nx : List (List Int)) (fin : List Int) (f n : Value) (wr : World) : Prop where
  out : B4 wr X (.int .i64 st) (.int .i64 go) f n 50
  own : ∃ (U : List Value) (B : Nat), OwnM wr w.heap.size n U nx ∧ (∀ u ∈ U, ∀ q, u.ownBlock = some q → q < B) ∧ (∀ q, n.ownBlock = some q → q < B) ∧ X < B ∧ B ≤ wr.heap.size ∧ OwnsI wr B f fin
  x : w.heap.size ≤ X
  below : Below w.heap.size w wr
theorem FSt.drewN {w wr : World} {X : Nat} {st go : Int} {nx : List (List Int)} {fin : List Int} {f n : Value} (h : FSt w X st go nx fin f n wr) (q : Nat) : FSt w X st go nx fin f n (wr.drewN q) := by
  obtain ⟨U, B, h1, h2, h3, h4, h5, h6⟩ := h.own
  exact ⟨h.out, ⟨U, B, h1.kept (below_drewN (Below.refl _ wr) q), h2, h3, h4, h5, h6⟩, h.x, below_drewN h.below q⟩
theorem grownBy_set (w : World) (p : Addr) (u : Value) : w.grownBy (w.setCell p u) (some p.block) :=
  ⟨rfl, rfl, rfl, by simp, fun i hi hne => Below.heap_setCell w p u i (fun e => hne (by rw [e]))⟩
theorem OwnM.apart {w w' : World} {lo B : Nat} {v : Value} {U : List Value} {Z : List (List Int)} {row : Option Nat} (h : OwnM w lo v U Z) (hU : ∀ u ∈ U, ∀ q, u.ownBlock = some q → q < B) (hv : ∀ q, v.ownBlock = some q → q < B) (hg : w.grownBy w' row) (hrow : ∀ q, row = some q → B ≤ q) : OwnM w' lo v U Z := by
  have key : ∀ y : Value, (∀ q, y.ownBlock = some q → q < B) → y.ownBlock = none ∨ y.ownBlock ≠ row := fun y hy => by
    cases e : y.ownBlock with
    | none => exact .inl rfl
    | some q => exact .inr fun e' => by have h1 := hy q e; have h2 := hrow q e'.symm; omega
  exact ⟨World.ownsRow.kept h.outer hg (key v hv), h.rows.len, fun j u zs h1 h2 => World.ownsRow.kept (h.rows.row j u zs h1 h2) hg (key u (hU u (List.mem_iff_getElem?.2 ⟨j, h1⟩))), h.rows.ne⟩
theorem own_b4_ne {w : World} {B e s n X : Nat} {v : Value} {xs : List Value} {c0 c1 c2 c3 : Value} {t : TypeId} (h : w.ownsRow B e s v n xs) (hx : B4 w X c0 c1 c2 c3 t) (hne : e ≠ t) : v.ownBlock = none ∨ v.ownBlock ≠ some X := by
  rcases h.2 with ⟨rfl, _⟩ | ⟨g, cap, cur, rfl, _, hg, _⟩
  · exact .inl rfl
  · refine .inr fun e => ?_
    have : g = X := by simpa [Value.ownBlock] using e
    subst this
    rw [hx] at hg
    injection hg with h1
    injection h1 with _ h2
    exact hne h2.symm
theorem OwnM.setB4 {w : World} {lo X : Nat} {v : Value} {U : List Value} {Z : List (List Int)} {c0 c1 c2 c3 : Value} (h : OwnM w lo v U Z) (hx : B4 w X c0 c1 c2 c3 50) (i : Nat) (u : Value) : OwnM (w.setCell ⟨X, i, none⟩ u) lo v U Z :=
  ⟨World.ownsRow.kept h.outer (grownBy_set w ⟨X, i, none⟩ u) (own_b4_ne h.outer hx (by decide)), h.rows.len, fun j y zs h1 h2 => World.ownsRow.kept (h.rows.row j y zs h1 h2) (grownBy_set w ⟨X, i, none⟩ u) (own_b4_ne (h.rows.row j y zs h1 h2) hx (by decide)), h.rows.ne⟩
theorem FSt.append {w wr w5 : World} {X : Nat} {st go : Int} {nx : List (List Int)} {fin : List Int} {f n f' : Value} {k : Int} {o : Obj} {U : List Value} {B : Nat} (h : FSt w X st go nx fin f n wr)
    (h' : OwnM wr w.heap.size n U nx ∧ (∀ u ∈ U, ∀ q, u.ownBlock = some q → q < B) ∧ (∀ q, n.ownBlock = some q → q < B) ∧ X < B ∧ B ≤ wr.heap.size ∧ OwnsI wr B f fin)
    (hown : w5.ownsRow B 2 1 f' (fin.length + 1) (iv fin ++ [.int .i64 k])) (hg : (wr.alloc o).grownBy w5 f.ownBlock) : FSt w X st go nx (fin ++ [k]) f' n (w5.setCell ⟨X, 2, none⟩ f') := by
  obtain ⟨h1, h2, h3, h4, h5, h6⟩ := h'
  have hrow : ∀ q, f.ownBlock = some q → B ≤ q := fun q hq => (h6.lt q hq).1
  have ho5 : B4 w5 X (.int .i64 st) (.int .i64 go) f n 50 := (h.out.alloc o).grown hg (fun e => by have := hrow X e; omega)
  have hs := hg.size
  refine ⟨blk4_2 ho5, ⟨U, B, (((h1.kept ((Below.refl _ wr).alloc (Nat.le_refl _) o)).apart h2 h3 hg hrow).setB4 ho5 2 f'), h2, h3, h4, ?_, ?_⟩, h.x, ?_⟩
  · simp at hs ⊢; omega
  · have e1 : OwnsI w5 B f' (fin ++ [k]) := by
      unfold OwnsI
      rw [List.length_append, iv_app]
      exact hown
    exact own_setLow e1 ⟨X, 2, none⟩ f' h4
  · have := h.x
    exact ((h.below.alloc h.below.size o).grown hg (by have := h.below.size; simp; omega) (fun q hq => by have := hrow q hq; omega)).setCell (by simpa using h.x) _
theorem FSt.start1 {w w7 : World} {st go : Int} {nx : List (List Int)} {y : Value} (h : ∃ U, OwnM w7 w.heap.size y U nx) (hb : Below w.heap.size w w7) : FSt w w7.heap.size st go nx [] (.slice none 0 0) y (w7.alloc (.cells #[.int .i64 st, .int .i64 go, .slice none 0 0, y] 50)) := by
  obtain ⟨U, h⟩ := h
  have h' := h.kept ((Below.refl _ w7).alloc (Nat.le_refl _) (.cells #[.int .i64 st, .int .i64 go, .slice none 0 0, y] 50))
  exact ⟨B4.new _ _ _ _ _ _, ⟨U, w7.heap.size + 1, h', fun u hu q hq => by have := (h.rows.ge u hu q hq).2; omega, fun q hq => by have := (h.outer.lt q hq).2; omega, by omega, by simp, World.ownsRow_nil _ _ _ _⟩, hb.size, hb.alloc hb.size _⟩
theorem FSt.start2 {w w7 : World} {st go : Int} {nx : List (List Int)} {y : Value} {c0 c1 c2 c3 : Value} (h : ∃ U, OwnM w7 w.heap.size y U nx) (hb : Below w.heap.size w w7) (hx : B4 w7 w.heap.size c0 c1 c2 c3 50) : FSt w w.heap.size st go nx [] (.slice none 0 0) y ((((w7.setCell ⟨w.heap.size, 0, none⟩ (.int .i64 st)).setCell ⟨w.heap.size, 1, none⟩ (.int .i64 go)).setCell ⟨w.heap.size, 2, none⟩ (.slice none 0 0)).setCell ⟨w.heap.size, 3, none⟩ y) := by
  obtain ⟨U, h⟩ := h
  have hX := hx.lt
  have b1 := blk4_01 (a' := .int .i64 st) (b' := c1) hx
  have g1 : w7.grownBy ((((w7.setCell ⟨w.heap.size, 0, none⟩ (.int .i64 st)).setCell ⟨w.heap.size, 1, none⟩ (.int .i64 go)).setCell ⟨w.heap.size, 2, none⟩ (.slice none 0 0)).setCell ⟨w.heap.size, 3, none⟩ y) (some w.heap.size) := by
    refine ⟨rfl, rfl, rfl, by simp, fun i hi hne => ?_⟩
    have hne' : i ≠ w.heap.size := fun e => hne (by rw [e])
    rw [Below.heap_setCell _ _ _ _ hne', Below.heap_setCell _ _ _ _ hne', Below.heap_setCell _ _ _ _ hne', Below.heap_setCell _ _ _ _ hne']
  have hk : OwnM ((((w7.setCell ⟨w.heap.size, 0, none⟩ (.int .i64 st)).setCell ⟨w.heap.size, 1, none⟩ (.int .i64 go)).setCell ⟨w.heap.size, 2, none⟩ (.slice none 0 0)).setCell ⟨w.heap.size, 3, none⟩ y) w.heap.size y U nx :=
    ⟨World.ownsRow.kept h.outer g1 (own_b4_ne h.outer hx (by decide)), h.rows.len, fun j y zs h1 h2 => World.ownsRow.kept (h.rows.row j y zs h1 h2) g1 (own_b4_ne (h.rows.row j y zs h1 h2) hx (by decide)), h.rows.ne⟩
  exact ⟨blk4_all hx, ⟨U, w7.heap.size, hk, fun u hu q hq => (h.rows.ge u hu q hq).2, fun q hq => (h.outer.lt q hq).2, hX, by simp, World.ownsRow_nil _ _ _ _⟩, Nat.le_refl _, (((hb.setCell (Nat.le_refl _) _).setCell (Nat.le_refl _) _).setCell (Nat.le_refl _) _).setCell (Nat.le_refl _) _⟩
end Go.Proofs.Ytapemoehcohjgaa
namespace Go.Proofs.Ytapemoehcohjgaa
open Go.RowKit
open Wd
set_option linter.unusedVariables false
theorem step_load_mid {P : Program} {ops : Array Oper} {o : Oper} {a : Act} {w : World} {K : Act → World → Prop} {Q : Exit → Act → World → Prop} {E : Prop} (hgd : o.guard = none) (ty : TypeId) (x : Operand) (ho : o.op = .load ty x)
    (b off : Nat) (hx : a.eval x = .pointer (some ⟨b, off, none⟩)) (cs : List Value) (d : TypeDesc) (hc : w.rangeAt b off cs)
    (hu : P.underlying ty = some d) (hd : d.isRow = true) (hi : (P.info? ty).map (·.size) = some cs.length)
    (h : K (a.put o.dst (.agg cs.toArray)) w) : if Region.wanted o (yielded ops a.tmps) = true then Oper.wp P o a w K Q else E := by
  rw [if_pos (by simp [Region.wanted, hgd])]
  exact wp_load_mid ty x ho b off hx cs d hc hu hd hi h
theorem step_store_mid {P : Program} {ops : Array Oper} {o : Oper} {a : Act} {w : World} {K : Act → World → Prop} {Q : Exit → Act → World → Prop} {E : Prop} (hgd : o.guard = none) (ty : TypeId) (x y : Operand) (ho : o.op = .store ty x y)
    (b off : Nat) (cells : Array Value) (hx : a.eval x = .pointer (some ⟨b, off, none⟩)) (hy : a.eval y = .agg cells)
    (ht : w.there b off cells.size) (hi : (P.info? ty).map (·.size) = some cells.size) (h1 : cells.all (·.oneCell') = true)
    (h : K (a.put o.dst undef) (w.setCells b off cells.toList)) : if Region.wanted o (yielded ops a.tmps) = true then Oper.wp P o a w K Q else E := by
  rw [if_pos (by simp [Region.wanted, hgd])]
  exact wp_store_mid ty x y ho b off cells hx hy ht hi h1 h
theorem takeH {P : Program} {md : Region.Mode} {ops : Array Oper} {Q : Exit → Act → World → Prop} {S : World → Prop} {i : Nat} {dst : Option Tmp} {op : Op} {ty : TypeId} {pos : String} {aft : Array Edge} {v : Value} {fuel : Nat} {listed : Array Bool} {a : Act} {w : World}
    (hi : ops[i]? = some ⟨dst, op, ty, pos, aft, none⟩) (hs : Region.noSelect ops = true) (hf : Region.free md ops listed i = true) (hr : (Region.ready md ops listed).contains i = true)
    (hQ : ∀ c a w, Q (.panic c) (a.put dst v) w → Q (.panic c) a w) (hy : YieldsIf P ops S ⟨dst, op, ty, pos, aft, none⟩ v a) (hS : S w)
    (h : wpAnyH P md ops Q S fuel (listed.setIfInBounds i true) (a.put dst v) w) : wpAnyH P md ops Q S (fuel + 1) listed a w :=
  wpAnyH_take hi hs hf hr hQ hy hS h
def rowD (d : TypeDesc) : Bool := match d with | .struct _ | .array _ _ => true | _ => false
theorem load_row' {P : Program} (w : World) (g : Nat) (t ty : TypeId) (cs : Array Value) (fr : Nat × Nat) (d : TypeDesc) (hd : rowD d = true) (hg : w.heap[g]? = some (.cells cs t fr)) (hu : P.underlying ty = some d) (hi : (P.info? ty).map (·.size) = some cs.size) :
    (loadVar ty ⟨g, 0, none⟩).run P w = .ok (.agg cs) w := by
  refine run_loadVar_row w g t ty cs fr d hg hu ?_ hi
  cases d <;> simp_all [rowD]
theorem results_row_slot {P : Program} {fn : Func} {p q : Tmp} {ty : TypeId} (h : fn.results = #[.cell p ty, .tmp q]) (tmps : Array Value) (w : World) (g : Nat) (t : TypeId) (cs : Array Value) (fr : Nat × Nat) (d : TypeDesc)
    (hp : tmps.getD p undef = .pointer (some ⟨g, 0, none⟩)) (hg : w.heap[g]? = some (.cells cs t fr))
    (hu : P.underlying ty = some d) (hd : rowD d = true) (hi : (P.info? ty).map (·.size) = some cs.size) (b : Value) (hb : tmps.getD q undef = b) :
    (results fn tmps).run P w = .ok (.tuple #[.agg cs, b]) w := by
  have hp' : tmps[p]?.getD undef = .pointer (some ⟨g, 0, none⟩) := by simpa using hp
  have hb' : tmps[q]?.getD undef = b := by simpa using hb
  simp [results, h, hp', hb', asAddr, load_row' w g t ty cs fr d hd hg hu hi]
theorem wpList_load_rowD {P : Program} {ops : Array Oper} {rest : List Oper} {o : Oper} {a : Act} {w : World} {Q : Exit → Act → World → Prop} {d : TypeDesc} (hd : rowD d = true) (hgd : o.guard = none) (ty : TypeId) (x : Operand) (ho : o.op = .load ty x)
    (g : Nat) (hx : a.eval x = .pointer (some ⟨g, 0, none⟩)) (t : TypeId) (cs : Array Value) (fr : Nat × Nat) (hg : w.heap[g]? = some (.cells cs t fr))
    (hu : P.underlying ty = some d) (hi : (P.info? ty).map (·.size) = some cs.size)
    (h : wpList P ops Q rest (a.put o.dst (.agg cs)) w) : wpList P ops Q (o :: rest) a w := by
  refine wpList_load_row hgd ty x ho g hx t cs fr d hg hu ?_ hi h
  cases d <;> simp_all [rowD]
theorem grown_setRow (w : World) (R : Nat) (cs : Array Value) : w.grownBy (w.setRow R cs) (some R) :=
  ⟨rfl, rfl, rfl, by rw [size_setRow]; exact Nat.le_refl _, fun i hi hne => by
    show (w.heap.modify R _)[i]? = _
    rw [Array.getElem?_modify, if_neg (fun e => hne (by rw [e]))]⟩
theorem und_row {t : TypeId} (h : (Try.prog.underlying t).map rowD = some true) : ∃ d, Try.prog.underlying t = some d ∧ rowD d = true := by
  cases hq : Try.prog.underlying t with
  | none => simp [hq] at h
  | some d => exact ⟨d, rfl, by rw [hq] at h; simpa using h⟩
theorem step_append_fits {P : Program} {ops : Array Oper} {o : Oper} {a : Act} {w : World} {K : Act → World → Prop} {Q : Exit → Act → World → Prop} {E : Prop}
    (hg : o.guard = none) (s x : Operand) (t : TypeId) (hop : o.op = Op.call { callee := Callee.builtin Builtin.append, args := #[s, x], argTypes := #[t, t] })
    (base : Nat) (e : TypeId) (i : TypeInfo) (size : Nat) (h1 : P.underlying t = some (.slice e)) (h2 : P.info? e = some i) (h4 : i.size = size)
    (g k cap : Nat) (xs : List Value) (hs : a.eval s = .slice (some ⟨g, 0, none⟩) k cap) (hown : w.ownsRow base e size (.slice (some ⟨g, 0, none⟩) k cap) k xs) (ad : Addr) (m c : Nat) (news : List Value) (hx : a.eval x = .slice (some ad) m c) (hn : news.length = m * size)
    (hc : ∀ j u, news[j]? = some u → w.cell? (ad.add j) = some u) (h1c : ∀ u ∈ news, u.oneCell' = true) (b1 : k + m ≤ cap)
    (hK : ∀ w', w'.ownsRow base e size (.slice (some ⟨g, 0, none⟩) (k + m) cap) (k + m) (xs ++ news) → w.grownBy w' (some g) → K (a.put o.dst (.slice (some ⟨g, 0, none⟩) (k + m) cap)) w') :
    if Region.wanted o (yielded ops a.tmps) = true then Oper.wp P o a w K Q else E := by
  have hw : Region.wanted o (yielded ops a.tmps) = true := by simp [Region.wanted, hg]
  rw [if_pos hw]
  obtain ⟨w', hrun, r1, r2⟩ := run_append_fits (P := P) w base t o.type e i size h1 h2 h4 g k cap xs hown ad m c news hn hc h1c b1
  unfold Oper.wp
  simp [execOp, hop, resolve, invoke, builtin, hs, hx, hrun, Result.andThen]
  exact hK w' r1 r2
theorem cells_below {w w' : World} (hb : Below w.heap.size w w') : ∀ p v, w.cell? p = some v → w'.cell? p = some v := fun p v h => (hb.cell (lt_of_cell h)).trans h
theorem news4 (w : World) (a b c d : Int) (t : TypeId) : ∀ j u, [Value.int .i64 a, .int .i64 b, .int .i64 c, .int .i64 d][j]? = some u → (w.alloc (.cells #[.int .i64 a, .int .i64 b, .int .i64 c, .int .i64 d] t)).cell? ((⟨w.heap.size, 0, none⟩ : Addr).add j) = some u :=
  World.news_of_block (cs := #[.int .i64 a, .int .i64 b, .int .i64 c, .int .i64 d]) (t := t) (fr := (0, 0)) (heap_alloc_new w _)
theorem one4 (a b c d : Int) : ∀ u ∈ [Value.int .i64 a, .int .i64 b, .int .i64 c, .int .i64 d], u.oneCell' = true := by
  intro u hu
  simp only [List.mem_cons, List.not_mem_nil, or_false] at hu
  rcases hu with rfl | rfl | rfl | rfl <;> rfl
theorem tt_ll (v : Value) (w : World) : (Instr.typeAssert (.iface 132 v) 135 132 true).run Try.prog w = .ok (.tuple #[v, .bool true]) w := by kernel_rfl
theorem tt_pl (v : Value) (w : World) : (Instr.typeAssert (.iface 148 v) 135 132 true).run Try.prog w = .ok (.tuple #[.agg #[.string ⟨#[]⟩, .int .i64 0, .int .i64 0], .bool false]) w := by kernel_rfl
theorem tt_pp (v : Value) (w : World) : (Instr.typeAssert (.iface 148 v) 135 148 true).run Try.prog w = .ok (.tuple #[v, .bool true]) w := by kernel_rfl
theorem tt_lp (v : Value) (w : World) : (Instr.typeAssert (.iface 132 v) 135 148 true).run Try.prog w = .ok (.tuple #[.agg #[.string ⟨#[]⟩, .int .i64 0, .int .i64 0], .bool false]) w := by kernel_rfl
/-- a block of four that is written whole -/
theorem there4 {w : World} {V : Nat} {t : TypeId} {a b c d : Value} (h : w.heap[V]? = some (.cells #[a, b, c, d] t (0, 0))) : w.there V 0 4 := by
  intro j hj
  refine ⟨?_, frozen_of_row _ _ _ _ _ h⟩
  rw [cell_of_row _ _ _ _ _ _ h]
  obtain rfl | rfl | rfl | rfl : j = 0 ∨ j = 1 ∨ j = 2 ∨ j = 3 := by omega
  all_goals rfl
end Go.Proofs.Ytapemoehcohjgaa
namespace Go.Proofs.Ytapemoehcohjgaa
open Go.RowKit
open Wd
set_option linter.unusedVariables false
namespace Wd
/-- what is written for a letter -/
def oW (ou : List (List ByteArray)) (s l : Nat) : ByteArray := (ou.getD s []).getD l ByteArray.empty
end Wd
theorem below_undrewC {B : Nat} {w w' : World} (h : Below B w.drew w') : Below B w w' := ⟨h.os, h.tape, h.output, h.size, fun k hk => h.block k hk⟩
theorem cOk_facts {x : Co} (h : cOk x = true) : (1 ≤ x.st ∧ x.st ≤ 24) ∧ (0 ≤ x.go ∧ x.go < x.st) ∧ x.nx.all (rowOk x.st) = true ∧ (x.nx.length : Int) = x.st ∧ (x.ou.length : Int) = x.st ∧ x.ou.all orowOk = true := by
  unfold cOk at h
  simp only [Bool.and_eq_true, decide_eq_true_eq] at h
  obtain ⟨h1, h2, ⟨h3, h4⟩, h5, h6⟩ := h
  exact ⟨h1, ⟨h2.1, by omega⟩, h3, h4, h5, h6⟩
theorem sll_at {w : World} {v : Value} {Z : List (List ByteArray)} (h : IsSLL w v Z) {j s : Nat} (hj : j < Z.length) (h4 : Z.all orowOk = true) (hs : s < 4) : ∃ a y c c2, v = .slice (some a) Z.length c ∧ w.cell? (a.add j) = some (.slice (some y) 4 c2) ∧ w.cell? (y.add s) = some (.string (oW Z j s)) := by
  have hr := (orow_facts.1 (List.all_eq_true.1 h4 _ (List.getElem_mem hj))).1
  obtain ⟨A, c, rfl, h0 | ⟨a, rfl, hc⟩⟩ := h
  · rw [h0] at hj; simp at hj
  · obtain ⟨u, h1, h2⟩ := hc j hj
    obtain ⟨A2, c2, rfl, h0 | ⟨y, rfl, hx⟩⟩ := h2
    · rw [h0] at hr; simp at hr
    · rw [hr] at h1
      refine ⟨a, y, c, c2, rfl, h1, ?_⟩
      rw [hx s (by omega)]
      unfold oW
      rw [List.getD_eq_getElem?_getD (i := j), List.getElem?_eq_getElem hj, Option.getD_some, List.getD_eq_getElem?_getD, List.getElem?_eq_getElem (by omega), Option.getD_some]
theorem ll_at {w : World} {v : Value} {Z : List (List Int)} {st : Int} (h : IsLL w v Z) {j s : Nat} (hj : j < Z.length) (h4 : Z.all (rowOk st) = true) (hs : s < 4) : ∃ a y c c2, v = .slice (some a) Z.length c ∧ w.cell? (a.add j) = some (.slice (some y) 4 c2) ∧ w.cell? (y.add s) = some (.int .i64 ((Z.getD j []).getD s 0)) ∧ 0 ≤ (Z.getD j []).getD s 0 ∧ (Z.getD j []).getD s 0 < st := by
  have h5 := List.all_eq_true.1 h4 _ (List.getElem_mem hj)
  unfold rowOk at h5
  rw [Bool.and_eq_true, decide_eq_true_iff] at h5
  obtain ⟨hr, h6⟩ := h5
  have e : (Z.getD j []).getD s 0 = Z[j][s]'(by omega) := by
    rw [List.getD_eq_getElem?_getD (i := j), List.getElem?_eq_getElem hj, Option.getD_some, List.getD_eq_getElem?_getD, List.getElem?_eq_getElem (by omega), Option.getD_some]
  have h7 := List.all_eq_true.1 h6 _ (List.getElem_mem (show s < Z[j].length by omega))
  rw [decide_eq_true_iff] at h7
  obtain ⟨A, c, rfl, h0 | ⟨a, rfl, hc⟩⟩ := h
  · rw [h0] at hj; simp at hj
  · obtain ⟨u, h1, h2⟩ := hc j hj
    obtain ⟨A2, c2, rfl, h0 | ⟨y, rfl, hx⟩⟩ := h2
    · rw [h0] at hr; simp at hr
    · rw [hr] at h1
      exact ⟨a, y, c, c2, rfl, h1, by rw [hx s (by omega), e], by rw [e]; exact h7.1, by rw [e]; exact h7.2⟩
/-- a writer: a coder as it is in a state -/
def IsWr (w : World) (v : Value) (x : Co) (s : Nat) : Prop :=
  ∃ C S n o, v = .func (.func 83) #[] #[.pointer (some ⟨C, 0, none⟩), .pointer (some ⟨S, 0, none⟩)] ∧ B4 w C (.int .i64 x.st) (.int .i64 x.go) n o 33 ∧ w.cell? ⟨S, 0, none⟩ = some (.int .i64 (s : Int)) ∧ IsLL w n x.nx ∧ IsSLL w o x.ou
theorem IsWr.kept {w w' : World} {v : Value} {x : Co} {s : Nat} (h : IsWr w v x s) (hb : Below w.heap.size w w') : IsWr w' v x s := by
  obtain ⟨C, S, n, o, hv, h1, h2, h3, h4⟩ := h
  exact ⟨C, S, n, o, hv, h1.kept hb, (hb.cell (lt_of_cell h2)).trans h2, h3.kept hb, h4.kept hb⟩
set_option maxRecDepth 100000 in
set_option maxHeartbeats 1600000 in
theorem writerIn_any (v : Value) (x : Co) (s : Nat) (w : World) (h : IsCo w v x) :
    Calls Try.prog 49 #[v, .int .i64 (s : Int)] w fun e w' => ∃ y, e = .returned y ∧ IsWr w' y x s ∧ Below w.heap.size w w' := by
  obtain ⟨n, o, rfl, hN, hO⟩ := h
  have hmf : ∀ (fn : Fn) (first cap : Array Value) (w : World), (Instr.makeFunc fn first cap).run Try.prog w = .ok (.func fn first cap) w := fun _ _ _ _ => rfl
  have hb : Below w.heap.size w ((w.alloc (.cells #[.int .i64 x.st, .int .i64 x.go, n, o] 33)).alloc (.cells #[.int .i64 (s : Int)] 74)) := ((Below.refl _ w).alloc (Nat.le_refl _) _).alloc (by simp) _
  have hP : B4 ((w.alloc (.cells #[.int .i64 x.st, .int .i64 x.go, n, o] 33)).alloc (.cells #[.int .i64 (s : Int)] 74)) w.heap.size (.int .i64 x.st) (.int .i64 x.go) n o 33 := (B4.new w _ _ _ _ _).alloc _
  have hQ := cell_new (w.alloc (.cells #[.int .i64 x.st, .int .i64 x.go, n, o] 33)) (.int .i64 (s : Int)) 74
  rw [show (w.alloc (.cells #[.int .i64 x.st, .int .i64 x.go, n, o] 33)).heap.size = w.heap.size + 1 from by simp] at hQ
  have HR : Hid (∃ y, Value.func (.func 83) #[] #[.pointer (some ⟨w.heap.size, 0, none⟩), .pointer (some ⟨w.heap.size + 1, 0, none⟩)] = y ∧ IsWr ((w.alloc (.cells #[.int .i64 x.st, .int .i64 x.go, n, o] 33)).alloc (.cells #[.int .i64 (s : Int)] 74)) y x s) := Lib.hid ⟨_, rfl, _, _, n, o, rfl, hP, hQ, hN.kept hb, hO.kept hb⟩
  have HB := Lib.hid hb
  clear hb hP hQ hN hO
  go_enter Try.func49, Try.ntmps49
  go_wp2_with fail
  go_ret
  obtain ⟨y, e9, h9⟩ := HR.out
  exact ⟨y, by rw [← e9]; rfl, h9, HB.out⟩
set_option maxRecDepth 100000 in
set_option maxHeartbeats 6400000 in
theorem write_any (C S : Nat) (n o : Value) (x : Co) (s d q : Nat) (b : UInt8) (w : World) (hv : cOk x = true) (hs : s < x.nx.length) (hd : d < 4) (hb : (b.toNat : Int) = (d : Int) + 97) (hq : (x.nx.getD s []).getD d 0 = (q : Int)) (hC : B4 w C (.int .i64 x.st) (.int .i64 x.go) n o 33) (hS : w.cell? ⟨S, 0, none⟩ = some (.int .i64 (s : Int))) (hN : IsLL w n x.nx) (hO : IsSLL w o x.ou) :
    Calls Try.prog 83 #[.string ⟨#[b]⟩, .pointer (some ⟨C, 0, none⟩), .pointer (some ⟨S, 0, none⟩)] w fun e w' => ∃ y, e = .returned (.tuple #[.string (oW x.ou s d), y]) ∧ IsWr w' y x q ∧ Below w.heap.size w w' := by
  obtain ⟨h1, h2, h3, h4, h5, h6⟩ := cOk_facts hv
  have HIX := Lib.hid (fun W => idx_letter b d hb hd W)
  obtain ⟨an, yn, cn, cn2, hn, n1, n2, n3, n4⟩ := ll_at hN hs h3 hd
  obtain ⟨ao, yo, co, co2, ho, o1, o2⟩ := sll_at hO (j := s) (by omega) h6 hd
  rw [hq] at n2 n3 n4
  have HWI := Lib.hid (fun W (hb : Below w.heap.size w W) => writerIn_any (.agg #[.int .i64 x.st, .int .i64 x.go, n, o]) x q W ⟨n, o, rfl, hN.kept hb, hO.kept hb⟩)
  subst hn ho
  obtain ⟨⟨p0, p1, p2, p3⟩, _⟩ := blk4_cells hC
  have HS : Hid (∀ W, Below w.heap.size w W → (W.cell? ⟨C, 0, none⟩ = some (.int .i64 x.st) ∧ W.cell? ⟨C, 1, none⟩ = some (.int .i64 x.go) ∧ W.cell? ⟨C, 2, none⟩ = some (.slice (some an) x.nx.length cn) ∧ W.cell? ⟨C, 3, none⟩ = some (.slice (some ao) x.ou.length co)) ∧ W.cell? ⟨S, 0, none⟩ = some (.int .i64 (s : Int)) ∧ (W.cell? (an.add s) = some (.slice (some yn) 4 cn2) ∧ W.cell? (yn.add d) = some (.int .i64 (q : Int))) ∧ W.cell? (ao.add s) = some (.slice (some yo) 4 co2) ∧ W.cell? (yo.add d) = some (.string (oW x.ou s d))) := Lib.hid (fun W hb =>
    ⟨⟨(hb.cell (lt_of_cell p0)).trans p0, (hb.cell (lt_of_cell p1)).trans p1, (hb.cell (lt_of_cell p2)).trans p2, (hb.cell (lt_of_cell p3)).trans p3⟩, (hb.cell (lt_of_cell hS)).trans hS, ⟨(hb.cell (lt_of_cell n1)).trans n1, (hb.cell (lt_of_cell n2)).trans n2⟩, (hb.cell (lt_of_cell o1)).trans o1, (hb.cell (lt_of_cell o2)).trans o2⟩)
  have s0 : (0 : Int) ≤ (s : Int) := by omega
  have s1 : (s : Int) < (x.nx.length : Int) := by omega
  have s2 : (s : Int) < (x.ou.length : Int) := by omega
  have d0 : (0 : Int) ≤ (d : Int) := by omega
  have d1 : (d : Int) < 4 := by omega
  have HS0 := Lib.hid (HS.out w (Below.refl _ _))
  obtain ⟨st, go, nx, ou⟩ := x
  simp only at *
  generalize oW ou s d = ow at *
  generalize nx.length = N at *
  generalize ou.length = N2 at *
  clear hv hC hN hO hS hq n3 n4 h1 h2 h3 h4 h5 h6 hb n1 n2 o1 o2 hs
  go_enter Try.func83, Try.ntmps83
  go_wp2_with fail
  refine (HIX.out _).mono ?_
  rintro e w1 ⟨rfl, rfl⟩
  go_upto_region 2 with fail
  go_region_held3 (fun W => (W.cell? ⟨C, 0, none⟩ = some (.int .i64 st) ∧ W.cell? ⟨C, 1, none⟩ = some (.int .i64 go) ∧ W.cell? ⟨C, 2, none⟩ = some (.slice (some an) N cn) ∧ W.cell? ⟨C, 3, none⟩ = some (.slice (some ao) N2 co)) ∧ W.cell? ⟨S, 0, none⟩ = some (.int .i64 (s : Int)) ∧ (W.cell? (an.add s) = some (.slice (some yn) 4 cn2) ∧ W.cell? (yn.add d) = some (.int .i64 (q : Int))) ∧ W.cell? (ao.add s) = some (.slice (some yo) 4 co2) ∧ W.cell? (yo.add d) = some (.string ow))
    (first | exact HS0.out | exact HS.out _ HB7.out | go_keep)
    (first
      | (go_at_call 49
         refine (HWI.out _ (below_drewN (Below.refl _ _) 1)).mono ?_
         rintro e w7 ⟨y, rfl, hy, hB7⟩
         have hB7 := below_undrewC hB7
         have HB7 := Lib.hid hB7
         have HY := Lib.hid hy
         clear hy hB7))
  go_wp2_with fail
  go_ret2
  exact ⟨_, rfl, HY.out, HB7.out⟩
set_option maxRecDepth 100000 in
set_option maxHeartbeats 6400000 in
/-- what is written for a letter in a state -/
theorem written_any (wv0 wv1 wv2 wv3 mv : Value) (n o : Value) (x : Co) (s d : Nat) (b : UInt8) (l r : Int) (w : World) (hv : cOk x = true) (hs : s < x.nx.length) (hd : d < 4) (hb : (b.toNat : Int) = (d : Int) + 97) (hN : IsLL w n x.nx) (hO : IsSLL w o x.ou) :
    Calls Try.prog 79 #[.agg #[wv0, wv1, wv2, wv3, .int .i64 x.st, .int .i64 x.go, n, o, mv], .agg #[.string ⟨#[b]⟩, .int .i64 l, .int .i64 r], .int .i64 (s : Int)] w fun e w' => e = .returned (.string (oW x.ou s d)) ∧ Below w.heap.size w w' := by
  obtain ⟨h1, h2, h3, h4, h5, h6⟩ := cOk_facts hv
  obtain ⟨q, hq⟩ : ∃ q : Nat, (x.nx.getD s []).getD d 0 = (q : Int) := by
    obtain ⟨_, _, _, _, _, _, _, h7, _⟩ := ll_at hN hs h3 hd
    exact ⟨((x.nx.getD s []).getD d 0).toNat, by omega⟩
  have HWI := Lib.hid (fun W (hb : Below w.heap.size w W) => writerIn_any (.agg #[.int .i64 x.st, .int .i64 x.go, n, o]) x s W ⟨n, o, rfl, hN.kept hb, hO.kept hb⟩)
  have HWR := Lib.hid (fun (C S : Nat) (n' o' : Value) (W : World) (hC : B4 W C (.int .i64 x.st) (.int .i64 x.go) n' o' 33) (hS : W.cell? ⟨S, 0, none⟩ = some (.int .i64 (s : Int))) (hN : IsLL W n' x.nx) (hO : IsSLL W o' x.ou) => write_any C S n' o' x s d q b W hv hs hd hb hq hC hS hN hO)
  have hb0 : Below w.heap.size w ((w.alloc (.cells #[wv0, wv1, wv2, wv3, .int .i64 x.st, .int .i64 x.go, n, o, mv] 79)).alloc (.cells #[.string ⟨#[b]⟩, .int .i64 l, .int .i64 r] 132)) := ((Below.refl _ w).alloc (Nat.le_refl _) _).alloc (by simp) _
  have hX : ((w.alloc (.cells #[wv0, wv1, wv2, wv3, .int .i64 x.st, .int .i64 x.go, n, o, mv] 79)).alloc (.cells #[.string ⟨#[b]⟩, .int .i64 l, .int .i64 r] 132)).heap[w.heap.size]? = some (.cells #[wv0, wv1, wv2, wv3, .int .i64 x.st, .int .i64 x.go, n, o, mv] 79 (0, 0)) := by
    have b2 := (Below.refl _ (w.alloc (.cells #[wv0, wv1, wv2, wv3, .int .i64 x.st, .int .i64 x.go, n, o, mv] 79))).alloc (Nat.le_refl _) (.cells #[.string ⟨#[b]⟩, .int .i64 l, .int .i64 r] 132)
    exact (b2.block w.heap.size (by simp)).trans (heap_alloc_new w _)
  have hL := heap_alloc_new (w.alloc (.cells #[wv0, wv1, wv2, wv3, .int .i64 x.st, .int .i64 x.go, n, o, mv] 79)) (.cells #[.string ⟨#[b]⟩, .int .i64 l, .int .i64 r] 132)
  rw [show (w.alloc (.cells #[wv0, wv1, wv2, wv3, .int .i64 x.st, .int .i64 x.go, n, o, mv] 79)).heap.size = w.heap.size + 1 from by simp] at hL
  have hsz : w.heap.size + 2 ≤ ((w.alloc (.cells #[wv0, wv1, wv2, wv3, .int .i64 x.st, .int .i64 x.go, n, o, mv] 79)).alloc (.cells #[.string ⟨#[b]⟩, .int .i64 l, .int .i64 r] 132)).heap.size := by simp
  have key : ∀ W : World, W.heap[w.heap.size]? = some (.cells #[wv0, wv1, wv2, wv3, .int .i64 x.st, .int .i64 x.go, n, o, mv] 79 (0, 0)) → W.heap[w.heap.size + 1]? = some (.cells #[.string ⟨#[b]⟩, .int .i64 l, .int .i64 r] 132 (0, 0)) →
      (W.cell? ⟨w.heap.size, 4, none⟩ = some (.int .i64 x.st) ∧ W.cell? ⟨w.heap.size, 5, none⟩ = some (.int .i64 x.go) ∧ W.cell? ⟨w.heap.size, 6, none⟩ = some n ∧ W.cell? ⟨w.heap.size, 7, none⟩ = some o) ∧ W.cell? ⟨w.heap.size + 1, 0, none⟩ = some (.string ⟨#[b]⟩) := fun W k1 k2 => by
    refine ⟨⟨?_, ?_, ?_, ?_⟩, ?_⟩
    · rw [cell_of_row _ _ _ _ _ _ k1]; rfl
    · rw [cell_of_row _ _ _ _ _ _ k1]; rfl
    · rw [cell_of_row _ _ _ _ _ _ k1]; rfl
    · rw [cell_of_row _ _ _ _ _ _ k1]; rfl
    · rw [cell_of_row _ _ _ _ _ _ k2]; rfl
  have HS : Hid (∀ W, Below (w.heap.size + 2) ((w.alloc (.cells #[wv0, wv1, wv2, wv3, .int .i64 x.st, .int .i64 x.go, n, o, mv] 79)).alloc (.cells #[.string ⟨#[b]⟩, .int .i64 l, .int .i64 r] 132)) W → (W.cell? ⟨w.heap.size, 4, none⟩ = some (.int .i64 x.st) ∧ W.cell? ⟨w.heap.size, 5, none⟩ = some (.int .i64 x.go) ∧ W.cell? ⟨w.heap.size, 6, none⟩ = some n ∧ W.cell? ⟨w.heap.size, 7, none⟩ = some o) ∧ W.cell? ⟨w.heap.size + 1, 0, none⟩ = some (.string ⟨#[b]⟩)) := Lib.hid (fun W hb => key W ((hb.block _ (by omega)).trans hX) ((hb.block _ (by omega)).trans hL))
  have HS0 := Lib.hid (HS.out _ (Below.refl _ _))
  obtain ⟨Nn, cn, hnv, _⟩ := id hN
  obtain ⟨No, co, hov, _⟩ := id hO
  obtain ⟨st, go, nx, ou⟩ := x
  simp only at *
  generalize oW ou s d = ow at *
  subst hnv hov
  clear hN hO hX hL key hv hs hb hq h1 h2 h3 h4 h5 h6
  go_enter Try.func79, Try.ntmps79
  go_upto_region 1 with fail
  have HB0 := Lib.hid hb0
  have HSZ := Lib.hid hsz
  clear hb0 hsz
  generalize ((w.alloc (.cells #[wv0, wv1, wv2, wv3, .int .i64 st, .int .i64 go, .slice Nn nx.length cn, .slice No ou.length co, mv] 79)).alloc (.cells #[.string ⟨#[b]⟩, .int .i64 l, .int .i64 r] 132)) = w1 at *
  go_region_held3 (fun W => (W.cell? ⟨w.heap.size, 4, none⟩ = some (.int .i64 st) ∧ W.cell? ⟨w.heap.size, 5, none⟩ = some (.int .i64 go) ∧ W.cell? ⟨w.heap.size, 6, none⟩ = some (.slice Nn nx.length cn) ∧ W.cell? ⟨w.heap.size, 7, none⟩ = some (.slice No ou.length co)) ∧ W.cell? ⟨w.heap.size + 1, 0, none⟩ = some (.string ⟨#[b]⟩))
    (first | exact HS0.out | exact HS.out _ HB7.out | exact HS.out _ HB8.out | go_keep)
    (first
      | (go_at_call 49
         refine (HWI.out _ (below_drewN HB0.out 1)).mono ?_
         rintro e w7 ⟨y, rfl, hy, hB7⟩
         have hB7 := below_undrewC hB7
         have HB7 := Lib.hid (hB7.mono HSZ.out)
         have HW7 := Lib.hid (HB0.out.trans (hB7.mono HB0.out.size))
         have HZ7 := Lib.hid (Nat.le_trans HSZ.out hB7.size)
         obtain ⟨C, S, n', o', rfl, k1, k2, k3, k4⟩ := hy
         have HR7 := Lib.hid (HWR.out C S n' o' _ k1 k2 k3 k4)
         clear k1 k2 k3 k4 hB7)
      | (go_at_call 83
         refine HR7.out.mono ?_
         rintro e w8 ⟨y8, rfl, _, hB8⟩
         have HB8 := Lib.hid (HB7.out.trans (hB8.mono HZ7.out))
         have HW8 := Lib.hid (HW7.out.trans (hB8.mono HW7.out.size))
         clear hB8))
  go_wp2_with fail
  go_ret
  exact ⟨rfl, HW8.out⟩
end Go.Proofs.Ytapemoehcohjgaa
namespace Go.Proofs.Ytapemoehcohjgaa
open Go.RowKit
open Wd
set_option linter.unusedVariables false
def mv (m : List Int) : Value := .agg (iv m).toArray
theorem size_map : (Try.prog.info? 147).map (·.size) = some 24 := by kernel_rfl
theorem und_map : Try.prog.underlying 147 = some (.array 24 74) := by kernel_rfl
theorem index_map (m : List Int) (hm : m.length = 24) (k : Nat) (hk : k < 24) (w : World) : (Instr.index 147 (.agg (iv m).toArray) (.int .i64 (k : Int))).run Try.prog w = .ok (.int .i64 (m.getD k 0)) w := by
  have h1 : (Try.prog.info? 74).map (·.size) = some 1 := by kernel_rfl
  have hu : Try.prog.underlying 74 = some (.int .i64) := by kernel_rfl
  have hk' : k < m.length := by omega
  obtain ⟨i1, hi1, hs1⟩ : ∃ i, Try.prog.info? 74 = some i ∧ i.size = 1 := by
    cases hq : Try.prog.info? 74 with
    | none => simp [hq] at h1
    | some i => exact ⟨i, rfl, by simpa [hq] using h1⟩
  have hb : (0 : Int) ≤ (k : Int) ∧ (k : Int) < 24 := by omega
  have hc : (iv m)[k]? = some (.int .i64 (m[k]?.getD 0)) := by
    rw [iv_get m k hk', List.getElem?_eq_getElem hk']
    rfl
  simp [Instr.index, asIntOf, run_underlying und_map, sizeOf, typeInfo, part, isAgg, run_underlying hu, hi1, hs1, hk, hc]
/-- between two states of the map that is being made -/
def TSt (w : World) (R : Nat) (m f : List Int) (k : Nat) (wr : World) : Prop :=
  wr.heap[w.heap.size]? = some (.cells (iv (thenK m f k)).toArray 147 (0, 0)) ∧ wr.heap[w.heap.size + 1]? = some (.cells (iv f).toArray 147 (0, 0)) ∧ wr.heap[R]? = some (.cells (iv (List.replicate 24 0)).toArray 147 (0, 0)) ∧ Below w.heap.size w wr
set_option maxRecDepth 100000 in
set_option maxHeartbeats 1600000 in
theorem then_any (m f : List Int) (st : Int) (h24 : st ≤ 24) (hm : mapOk st m) (hf : mapOk st f) (w : World) :
    Calls Try.prog 101 #[.agg (iv m).toArray, .agg (iv f).toArray] w fun e w' => e = .returned (.agg (iv (thenRow m f)).toArray) ∧ Below w.heap.size w w' := by
  have hsm : (Try.prog.info? 147).map (·.size) = some (iv m).toArray.size := by rw [size_map]; simp [iv, hm.1]
  go_enter Try.func101, Try.ntmps101
  go_upto_region 1 with fail
  obtain ⟨hP, hF, hR, hB3, hs3⟩ := al3 w (.cells (iv m).toArray 147) (.cells (iv f).toArray 147) (.cells (iv (List.replicate 24 0)).toArray 147)
  change Code.wp _ _ _ _ (((w.alloc (.cells (iv m).toArray 147)).alloc (.cells (iv f).toArray 147)).alloc (.cells (iv (List.replicate 24 0)).toArray 147))
  generalize ((w.alloc (.cells (iv m).toArray 147)).alloc (.cells (iv f).toArray 147)).alloc (.cells (iv (List.replicate 24 0)).toArray 147) = w3 at *
  go_wp2_with (with_reducible refine wpList_load_row rfl 147 _ rfl w.heap.size rfl 147 _ _ _ hP und_map rfl hsm ?_)
  obtain ⟨R, hRe⟩ : ∃ R, R = w.heap.size + 1 + 1 := ⟨_, rfl⟩
  rw [show w.heap.size + 2 = R from hRe.symm] at hR
  rw [← hRe]
  have HRE := Lib.hid hRe
  have HST : Hid (TSt w R m f 0 w3) := Lib.hid ⟨by rw [thenK_zero]; exact hP, hF, hR, hB3⟩
  have HM := Lib.hid hm
  have HF := Lib.hid hf
  have HSM := Lib.hid hsm
  clear hRe hP hF hR hB3 hs3 hm hf hsm
  go_loopw [8] (fun i wr => ∃ k : Nat, k ≤ 24 ∧ i = .int .i64 k ∧ TSt w R m f k wr) (fun i _ => 24 - (intOf i).toNat)
  case atStart => exact ⟨0, by omega, rfl, HST.out⟩
  case round =>
    obtain ⟨k, hk, rfl, hst⟩ := hrel
    obtain ⟨wo, rfl⟩ : ∃ wo : World, wo = wr := ⟨_, rfl⟩
    have HS := Lib.hid hst
    obtain ⟨hP, hF, hR, hB⟩ := hst
    by_cases hlt : k < 24
    · have hkm : k < m.length := by rw [HM.out.1]; exact hlt
      have hq := HM.out.2 _ (List.getElem_mem hkm)
      obtain ⟨q, hqe⟩ : ∃ q : Nat, m[k] = q := ⟨m[k].toNat, by omega⟩
      have hq24 : q < 24 := by omega
      have hix := index_map m HM.out.1 k hlt
      rw [List.getD_eq_getElem?_getD, List.getElem?_eq_getElem hkm, Option.getD_some, hqe] at hix
      have hqf : q < f.length := by rw [HF.out.1]; exact hq24
      have c3 : wo.cell? ⟨w.heap.size + 1, q, none⟩ = some (.int .i64 (f.getD q 0)) := by
        rw [cell_of_row _ _ _ _ _ _ hF, List.getElem?_toArray, iv_get f q hqf, List.getD_eq_getElem?_getD, List.getElem?_eq_getElem hqf]; rfl
      have hkt : k < (thenK m f k).length := by rw [thenK_len m f k (by omega)]; exact hkm
      have c2 : wo.cell? ⟨w.heap.size, k, none⟩ = some (.int .i64 (thenK m f k)[k]) := by
        rw [cell_of_row _ _ _ _ _ _ hP, List.getElem?_toArray, iv_get _ k hkt]
      have f2 : wo.frozen? ⟨w.heap.size, k, none⟩ = false := frozen_of_row _ _ _ _ _ hP
      have HNX : Hid (TSt w R m f (k + 1) (wo.setCell ⟨w.heap.size, k, none⟩ (.int .i64 (f.getD q 0)))) := Lib.hid (by
        refine ⟨?_, (Below.heap_setCell wo _ _ _ (by simp)).trans hF, (Below.heap_setCell wo _ _ _ (by have := HRE.out; show R ≠ w.heap.size; omega)).trans hR, hB.setCell (by simp) _⟩
        rw [heap_setCell_same _ _ _ _ _ _ hP, ← thenK_set m f k hkm, hqe]
        simp [iv, List.map_set])
      generalize f.getD q 0 = z at *
      generalize (thenK m f k)[k] = u2 at *
      have hq0 : (0 : Int) ≤ (q : Int) := by omega
      have hq1 : (q : Int) < 24 := by omega
      have hk0 : (0 : Int) ≤ (k : Int) := by omega
      have hk1 : (k : Int) < 24 := by omega
      clear hP hF hR hB hq hqe hqf hkt hkm HS
      go_wp2_with fail
      go_roundw
      all_goals first | exact ⟨k + 1, by omega, by go_num, HNX.out⟩ | ((repeat apply Exists.intro); exact ⟨⟨k + 1, by omega, by go_num, HNX.out⟩, rfl⟩) | (simp [intOf]; done) | (simp [intOf]; omega) | omega
    · obtain rfl : k = 24 := by omega
      have hall : thenK m f 24 = thenRow m f := by rw [← HM.out.1]; exact thenK_all m f
      rw [hall] at hP
      have hsz : (iv (thenRow m f)).toArray.size = 24 := by simp [iv, thenRow, HM.out.1]
      have hsm : (Try.prog.info? 147).map (·.size) = some (iv (thenRow m f)).toArray.size := by rw [size_map, hsz]
      have hz : (iv (List.replicate 24 0)).toArray.size = (iv (thenRow m f)).toArray.size := by rw [hsz]; simp [iv]
      have h1 : (iv (thenRow m f)).toArray.all (·.oneCell') = true := all_oneCell_toArray (fun v hv => by obtain ⟨x, _, rfl⟩ := List.mem_map.1 hv; rfl)
      have HR9 : Hid ((wo.setRow R (iv (thenRow m f)).toArray).heap[R]? = some (.cells (iv (thenRow m f)).toArray 147 (0, 0))) := Lib.hid (setRow_heap wo R _ _ _ _ hR)
      have HB9 : Hid (Below w.heap.size w (wo.setRow R (iv (thenRow m f)).toArray)) := Lib.hid (bSetRow hB (by rw [HRE.out]; omega) _)
      have HSZ := Lib.hid hsm
      have HH := Lib.hid (And.intro hP (And.intro hR (And.intro hz h1)))
      clear hall hsz HS hF hB hP hR hz h1 hsm
      go_upto_region 6 with fail
      go_wp2_with (first
        | (with_reducible refine wpList_load_row rfl 147 _ rfl w.heap.size rfl 147 _ _ _ HH.out.1 und_map rfl HSZ.out ?_)
        | (with_reducible refine wpList_store_row rfl 147 _ _ rfl R _ rfl rfl 147 _ HH.out.2.1 HSZ.out HH.out.2.2.1 HH.out.2.2.2 ?_))
      refine bodyPost_ret (v := .agg (iv (thenRow m f)).toArray) (results_cell_row rfl _ _ R 147 _ (0, 0) _ rfl HR9.out und_map rfl HSZ.out) rfl ⟨rfl, HB9.out⟩
namespace Wd
def stAt (nx : List (List Int)) (s0 l0 : Nat) : List Int := (List.range 96).map fun c => if c % 24 < s0 ∨ (c % 24 = s0 ∧ c / 24 < l0) then (nx.getD (c % 24) []).getD (c / 24) 0 else 0
/-- ninety-six zeros -/
def Z96 : List Int := List.replicate 96 0
def stAll (nx : List (List Int)) : List Int := (List.range 96).map fun c => (nx.getD (c % 24) []).getD (c / 24) 0
end Wd
theorem stAt_len (nx : List (List Int)) (s l : Nat) : (stAt nx s l).length = 96 := by simp [stAt]
theorem stAll_len (nx : List (List Int)) : (stAll nx).length = 96 := by simp [stAll]
theorem stAt_zero (nx : List (List Int)) : stAt nx 0 0 = Z96 := by
  unfold Z96
  apply List.ext_getElem
  · simp [stAt]
  · intro i h1 h2
    rw [List.getElem_replicate]
    simp only [stAt, List.getElem_map, List.getElem_range]
    rw [if_neg (by omega)]
theorem stAt_next (nx : List (List Int)) (s : Nat) : stAt nx s 4 = stAt nx (s + 1) 0 := by
  unfold stAt
  apply List.map_congr_left
  intro c hc
  have hc := List.mem_range.1 hc
  by_cases h : c % 24 < s ∨ (c % 24 = s ∧ c / 24 < 4)
  · rw [if_pos h, if_pos (by omega)]
  · rw [if_neg h, if_neg (by omega)]
theorem stAt_all (nx : List (List Int)) : stAt nx nx.length 0 = stAll nx := by
  unfold stAt stAll
  apply List.map_congr_left
  intro c hc
  by_cases h : c % 24 < nx.length ∨ (c % 24 = nx.length ∧ c / 24 < 0)
  · rw [if_pos h]
  · rw [if_neg h, List.getD_eq_getElem?_getD (l := nx), List.getElem?_eq_none (by omega)]
    rfl
theorem stAt_set (nx : List (List Int)) (s l : Nat) (hs : s < 24) (hl : l < 4) : (stAt nx s l).set (l * 24 + s) ((nx.getD s []).getD l 0) = stAt nx s (l + 1) := by
  apply List.ext_getElem
  · simp [stAt]
  · intro i h1 h2
    have hi : i < 96 := by simpa [stAt] using h2
    rw [List.getElem_set]
    by_cases e : l * 24 + s = i
    · rw [if_pos e]
      simp only [stAt, List.getElem_map, List.getElem_range]
      rw [if_pos (by omega), show i % 24 = s from by omega, show i / 24 = l from by omega]
    · rw [if_neg e]
      simp only [stAt, List.getElem_map, List.getElem_range]
      by_cases h : i % 24 < s ∨ (i % 24 = s ∧ i / 24 < l)
      · rw [if_pos h, if_pos (by omega)]
      · rw [if_neg h, if_neg (by omega)]
theorem und_steps : Try.prog.underlying 159 = some (.array 4 147) := by kernel_rfl
theorem zero_steps : (Try.prog.info? 159).map (fun i => (i.zero, i.size)) = some (some (.agg (iv Z96).toArray), 96) := by kernel_rfl
/-- between two steps -/
def SSt (w : World) (nx : List (List Int)) (s l : Nat) (wr : World) : Prop :=
  wr.heap[w.heap.size + 1]? = some (.cells (iv (stAt nx s l)).toArray 159 (0, 0)) ∧ wr.heap[w.heap.size]? = some (.cells (iv Z96).toArray 159 (0, 0)) ∧ Below w.heap.size w wr
theorem SSt.start (w : World) (nx : List (List Int)) : SSt w nx 0 0 ((w.alloc (.cells (iv Z96).toArray 159)).alloc (.cells (iv Z96).toArray 159)) := by
  have h1 := heap_alloc_new (w.alloc (.cells (iv Z96).toArray 159)) (.cells (iv Z96).toArray 159)
  rw [show (w.alloc (.cells (iv Z96).toArray 159)).heap.size = w.heap.size + 1 from by simp] at h1
  have b2 := (Below.refl _ (w.alloc (.cells (iv Z96).toArray 159))).alloc (Nat.le_refl _) (.cells (iv Z96).toArray 159)
  exact ⟨by rw [stAt_zero]; exact h1, (b2.block _ (by simp)).trans (heap_alloc_new w _), ((Below.refl _ w).alloc (Nat.le_refl _) _).alloc (by simp) _⟩
theorem SSt.store {w wr : World} {nx : List (List Int)} {s l : Nat} (h : SSt w nx s l wr) (hs : s < 24) (hl : l < 4) :
    (∃ u, wr.cell? ⟨w.heap.size + 1, l * 24 + s, none⟩ = some u) ∧ wr.frozen? ⟨w.heap.size + 1, l * 24 + s, none⟩ = false ∧ SSt w nx s (l + 1) (wr.setCell ⟨w.heap.size + 1, l * 24 + s, none⟩ (.int .i64 ((nx.getD s []).getD l 0))) := by
  obtain ⟨h1, h2, h3⟩ := h
  refine ⟨?_, frozen_of_row _ _ _ _ _ h1, ?_, (Below.heap_setCell wr _ _ _ (by simp)).trans h2, h3.setCell (by simp) _⟩
  · rw [cell_of_row _ _ _ _ _ _ h1, List.getElem?_toArray]
    exact ⟨_, iv_get _ _ (by rw [stAt_len]; omega)⟩
  · rw [heap_setCell_same _ _ _ _ _ _ h1, ← stAt_set nx s l hs hl]
    simp [iv, List.map_set]
set_option maxRecDepth 100000 in
set_option maxHeartbeats 3200000 in
theorem stepsOf_any (v : Value) (nx : List (List Int)) (st : Int) (w : World) (hn : (nx.length : Int) = st) (h24 : st ≤ 24) (hrow : nx.all (rowOk st) = true) (h : IsLL w v nx) :
    Calls Try.prog 100 #[v] w fun e w' => e = .returned (.agg (iv (stAll nx)).toArray) ∧ Below w.heap.size w w' := by
  have hzv := (zero_of_info zero_steps).1
  have hN24 : nx.length ≤ 24 := by omega
  obtain ⟨A, c, rfl, hin⟩ := h
  have HI := Lib.hid hin
  have HROW := Lib.hid hrow
  obtain ⟨N, hNe⟩ : ∃ N, N = nx.length := ⟨_, rfl⟩
  rw [← hNe] at hN24 ⊢
  have HN := Lib.hid hNe
  clear hin hn hrow hNe
  go_enter Try.func100, Try.ntmps100
  go_upto_region 2 with fail
  have HST := Lib.hid (SSt.start w nx)
  generalize (w.alloc (.cells (iv Z96).toArray 159)).alloc (.cells (iv Z96).toArray 159) = w3 at *
  clear hzv
  go_wp2_with fail
  go_loopw [10] (fun i wr => ∃ s : Nat, s ≤ N ∧ i = .int .i64 s ∧ SSt w nx s 0 wr) (fun i _ => N - (intOf i).toNat)
  case atStart => exact ⟨0, Nat.zero_le _, rfl, HST.out⟩
  case round =>
    obtain ⟨s, hs, rfl, hst⟩ := hrel
    obtain ⟨wo, rfl⟩ : ∃ wo : World, wo = wr := ⟨_, rfl⟩
    have HS := Lib.hid hst
    by_cases hlt : s < N
    · have hsn : s < nx.length := by rw [← HN.out]; exact hlt
      rcases HI.out with hn | ⟨x, rfl, hc⟩
      · rw [hn] at hsn; simp at hsn
      obtain ⟨u, c0, hu⟩ := hc s hsn
      have d0 := (hst.2.2.cell (lt_of_cell c0)).trans c0
      have hr4 : nx[s].length = 4 := by
        have hq := List.all_eq_true.1 HROW.out _ (List.getElem_mem hsn)
        unfold rowOk at hq
        rw [Bool.and_eq_true, decide_eq_true_iff] at hq
        exact hq.1
      have HU := Lib.hid hu
      obtain ⟨A2, c2, rfl, hcx⟩ := hu
      rw [hr4] at d0
      rcases hcx with hn | ⟨y, rfl, hz⟩
      · rw [hn] at hr4; simp at hr4
      have HZ : Hid (∀ l, l < 4 → ∀ W, Below w.heap.size w W → W.cell? (y.add l) = some (.int .i64 ((nx.getD s []).getD l 0))) := Lib.hid (fun l hl W hb => by
        rw [List.getD_eq_getElem?_getD (l := nx), List.getElem?_eq_getElem hsn, Option.getD_some, List.getD_eq_getElem?_getD, List.getElem?_eq_getElem (by omega), Option.getD_some]
        exact (hb.cell (lt_of_cell (hz l (by omega)))).trans (hz l (by omega)))
      have hs0 : (0 : Int) ≤ (s : Int) := by omega
      have hs1 : (s : Int) < (N : Int) := by omega
      have hs24 : (s : Int) < 24 := by omega
      clear c0 hc hz hr4 hsn hst HU
      go_wp2_with fail
      go_loopw [17] (fun i wr => ∃ l : Nat, l ≤ 4 ∧ i = .int .i64 l ∧ SSt w nx s l wr) (fun i _ => 4 - (intOf i).toNat)
      case atStart => exact ⟨0, by omega, rfl, HS.out⟩
      case round =>
        obtain ⟨l, hl, rfl, hst⟩ := hrel
        obtain ⟨wu, rfl⟩ : ∃ wu : World, wu = wr := ⟨_, rfl⟩
        by_cases hl4 : l < 4
        · obtain ⟨⟨u0, e0⟩, f0, hnx⟩ := hst.store (by omega) hl4
          have HNX := Lib.hid hnx
          have z0 := HZ.out l hl4 wu hst.2.2
          generalize (nx.getD s []).getD l 0 = z at *
          have hl0 : (0 : Int) ≤ (l : Int) := by omega
          have hl1 : (l : Int) < 4 := by omega
          clear hst hnx
          go_wp2_with fail
          go_roundw
          all_goals first | exact ⟨l + 1, by omega, by go_num, HNX.out⟩ | ((repeat apply Exists.intro); exact ⟨⟨l + 1, by omega, by go_num, HNX.out⟩, rfl⟩) | (simp [intOf]; done) | (simp [intOf]; omega) | omega
        · obtain rfl : l = 4 := by omega
          have HS4 : Hid (SSt w nx (s + 1) 0 wu) := Lib.hid (by unfold SSt at hst ⊢; rw [← stAt_next]; exact hst)
          clear hst
          go_wp2_with fail
          go_roundw
          all_goals first | exact ⟨s + 1, by omega, by go_num, HS4.out⟩ | ((repeat apply Exists.intro); exact ⟨⟨s + 1, by omega, by go_num, HS4.out⟩, rfl⟩) | (simp [intOf]; done) | (simp [intOf]; omega) | omega
    · obtain rfl : s = N := by omega
      obtain ⟨hP, hR, hB⟩ := hst
      rw [show stAt nx s 0 = stAll nx from by rw [HN.out]; exact stAt_all nx] at hP
      have hsm : (Try.prog.info? 159).map (·.size) = some (iv (stAll nx)).toArray.size := by rw [(zero_of_info zero_steps).2]; simp [iv, stAll_len]
      have hz : (iv Z96).toArray.size = (iv (stAll nx)).toArray.size := by simp [iv, stAll_len, Z96]
      have h1 : (iv (stAll nx)).toArray.all (·.oneCell') = true := all_oneCell_toArray (fun v hv => by obtain ⟨x, _, rfl⟩ := List.mem_map.1 hv; rfl)
      have HR9 : Hid ((wo.setRow w.heap.size (iv (stAll nx)).toArray).heap[w.heap.size]? = some (.cells (iv (stAll nx)).toArray 159 (0, 0))) := Lib.hid (setRow_heap wo w.heap.size _ _ _ _ hR)
      have HB9 : Hid (Below w.heap.size w (wo.setRow w.heap.size (iv (stAll nx)).toArray)) := Lib.hid (bSetRow hB (Nat.le_refl _) _)
      have HSZ := Lib.hid hsm
      have HH := Lib.hid (And.intro hP (And.intro hR (And.intro hz h1)))
      clear HS hB hP hR hz h1 hsm
      go_upto_region 11 with fail
      go_wp2_with (first
        | (with_reducible refine wpList_load_row rfl 159 _ rfl (w.heap.size + 1) rfl 159 _ _ _ HH.out.1 und_steps rfl HSZ.out ?_)
        | (with_reducible refine wpList_store_row rfl 159 _ _ rfl w.heap.size _ rfl rfl 159 _ HH.out.2.1 HSZ.out HH.out.2.2.1 HH.out.2.2.2 ?_))
      refine bodyPost_ret (v := .agg (iv (stAll nx)).toArray) (results_cell_row rfl _ _ w.heap.size 159 _ (0, 0) _ rfl HR9.out und_steps rfl HSZ.out) rfl ⟨rfl, HB9.out⟩
end Go.Proofs.Ytapemoehcohjgaa
namespace Go.Proofs.Ytapemoehcohjgaa.len
open Go.RowKit
open Wd
set_option linter.unusedVariables false

/-- the join of lengths -/
abbrev joinV : Value := .func (.func 110) #[] #[]

set_option maxRecDepth 100000 in
set_option maxHeartbeats 6400000 in
/-- a pair, out of its two rules -/
theorem meas_pair (B bm br bj bf M : Nat) (gs : List Rl) (V : Nat → Int) (k a b : Nat) (w : World) (hk : k < gs.length) (hn : gs.length ≤ 1048576) (hI : MInv B bm br bj bf M joinV gs V w)
    (h0 : gs[k].L.size = 0) (ha : gs[k].l = a) (hb : gs[k].r = b) (hak : a < k) (hbk : b < k)
    (hz : w.cell? ⟨M, k, none⟩ = some (.int .i64 0))
    (hA : ∀ W, MInv B bm br bj bf M joinV gs V W → MeasCalls B bm br bj bf M joinV gs V a W)
    (hB : ∀ W, MInv B bm br bj bf M joinV gs V W → MeasCalls B bm br bj bf M joinV gs V b W)
    (hJ : ∀ W, Calls Try.prog 110 #[.int .i64 (V a), .int .i64 (V b)] W fun e w' => e = .returned (.int .i64 (V k)) ∧ W = w') :
    MeasCalls B bm br bj bf M joinV gs V k w := by
  have hst := hI.1
  have hm1 := hst.m
  obtain ⟨v, hv, A, c, rfl, hr⟩ := hst.r
  rcases hr with hr | ⟨g, rfl, hg, hcc⟩
  · rw [hr] at hk; simp at hk
  obtain ⟨a0, a1, a2⟩ := rules_cells hcc hk
  have HK := Lib.hid (fun W => kind_pair gs[k] h0 W)
  have he := empty_arr h0
  rw [ha] at a1
  rw [hb] at a2
  have HX := Lib.hid (show agg3 gs[k] = .agg #[.string ⟨#[]⟩, .int .i64 a, .int .i64 b] by unfold agg3; rw [he, ha, hb])
  have HTP := ta_pp
  have HTL := ta_pl
  obtain ⟨n, hng⟩ : ∃ n, n = gs.length := ⟨_, rfl⟩
  have HN := Lib.hid hng
  have hkn : k < n := by omega
  rw [← hng] at hm1 hv hn
  rw [he] at a0
  rw [HX.out] at HK
  have HI := Lib.hid hI
  have HA := Lib.hid hA
  have HB := Lib.hid hB
  have HJ := Lib.hid hJ
  have HS := Lib.hid hst
  clear hng hcc ha hb he hI hst hA hB hJ
  go_enter Try.func115, Try.ntmps115
  go_wp2_with fail
  refine (HK.out _).mono ?_
  rintro e w1 ⟨rfl, hB1⟩
  have HI1 := Lib.hid (HI.out.below hB1)
  have hm2 := HI1.out.1.m
  rw [← HN.out] at hm2
  have hj2 := HI1.out.1.j
  have hf2 := HI1.out.1.f
  have l1 := lt_of_cell hm2
  have l2 := lt_of_cell hj2
  have l3 := lt_of_cell hf2
  clear a0 a1 a2 hv hm1 hz
  go_wp2_with fail
  have hB2 := hB1.alloc hB1.size (.cells #[.string ⟨#[]⟩, .int .i64 a, .int .i64 b] 148)
  have HI2 := Lib.hid (HI.out.below hB2)
  obtain ⟨K, hKe⟩ : ∃ K, K = w1.heap.size := ⟨_, rfl⟩
  have c1 : (w1.alloc (.cells #[.string ⟨#[]⟩, .int .i64 a, .int .i64 b] 148)).cell? ⟨K, 1, none⟩ = some (.int .i64 a) := by rw [hKe, cell_of_row _ _ _ _ _ _ (heap_alloc_new w1 _)]; rfl
  have c2 : (w1.alloc (.cells #[.string ⟨#[]⟩, .int .i64 a, .int .i64 b] 148)).cell? ⟨K, 2, none⟩ = some (.int .i64 b) := by rw [hKe, cell_of_row _ _ _ _ _ _ (heap_alloc_new w1 _)]; rfl
  have hKM : K ≠ M := by
    obtain ⟨z, hz⟩ := (HI1.out.slot hk).1
    have := lt_of_cell hz
    simp only at this
    omega
  rw [← hKe]
  generalize w1.alloc (.cells #[.string ⟨#[]⟩, .int .i64 a, .int .i64 b] 148) = w2 at *
  have HH := Lib.hid (fun w' (h : MInv B bm br bj bf M joinV gs V w') (hg : w2.grownBy w' (some M)) => h.held hg HN.out hKM c1 c2)
  have HS2 := Lib.hid (HH.out _ HI2.out (World.grownBy.refl _ _))
  clear hm2 hj2 hf2 l1 l2 l3 hKe
  obtain ⟨t1, t2, t3, t4, t5⟩ := HS2.out
  clear c1 c2
  go_region_held3 (fun w' => w'.cell? ⟨bm, 0, none⟩ = some (.slice (some ⟨M, 0, none⟩) n n) ∧ w'.cell? ⟨bj, 0, none⟩ = some (.func (.func 110) #[] #[]) ∧ w'.cell? ⟨bf, 0, none⟩ = some (measV bm br bj bf) ∧ w'.cell? ⟨K, 1, none⟩ = some (.int .i64 a) ∧ w'.cell? ⟨K, 2, none⟩ = some (.int .i64 b))
    (first | go_keep | exact hSA | exact hSB | exact HSC.out)
    (first
      | (go_at_call_of 115 (Value.int .i64 a); refine (HA.out _ (HI2.out.drewN _)).mono ?_; rintro e wA ⟨rfl, hIA, hgA⟩; have hSA := HH.out _ hIA (grownBy_undrew hgA))
      | (go_at_call_of 115 (Value.int .i64 b); refine (HB.out _ hIA).mono ?_; rintro e wB ⟨rfl, hIB, hgB⟩; have hSB := HH.out _ hIB (gbTrans (grownBy_undrew hgA) hgB); obtain ⟨⟨zB, hzB⟩, hfB⟩ := hIB.slot hk; have hstB := Lib.hid (hIB.store (k := k)); have hgB2 := Lib.hid (gbTrans (gbTrans (grownBy_undrew hgA) hgB) hstB.out.2); have HSC := Lib.hid (HH.out _ hstB.out.1 hgB2.out))
      | (go_at_call 110; refine (HJ.out _).mono ?_; rintro e wJ ⟨rfl, rfl⟩))
  have q1 := HSC.out.1
  have q2 : (wB.setCell ⟨M, k, none⟩ (.int .i64 (V k))).cell? ⟨M, k, none⟩ = some (.int .i64 (V k)) := World.cell?_setCell_same _ _ _ hzB
  have HF := Lib.hid (gbTrans (gbOf hB2 (some M)) hgB2.out)
  clear hSA hSB t1 t2 t3 t4 t5 hzB hfB hgA hgB hIA hIB
  go_wp2_with fail
  go_ret
  exact ⟨rfl, hstB.out.1, HF.out⟩

theorem join_any (a b : Int) (w : World) (h1 : 1 ≤ a) (h2 : a ≤ 1000000000000000) (h3 : 1 ≤ b) (h4 : b ≤ 1000000000000000) :
    Calls Try.prog 110 #[.int .i64 a, .int .i64 b] w fun e w' => e = .returned (.int .i64 (a + b)) ∧ w = w' := by
  go_enter Try.func110, Try.ntmps110
  go_wp2
  go_ret
  exact ⟨rfl, rfl⟩

/-- the length of a word, out of those below -/
def lenV (gs : List Rl) (j : Nat) : Int := (lens gs).getD j 0
theorem meas_any (B bm br bj bf M : Nat) (gs : List Rl) (hn : gs.length ≤ 1048576) : ∀ m k, k < m → (hk : k < gs.length) → UpTo gs k → gs[k].ok k = true → ∀ W, MInv B bm br bj bf M joinV gs (lenV gs) W → MeasCalls B bm br bj bf M joinV gs (lenV gs) k W
  | 0, k, hm, _, _, _, _, _ => by omega
  | m + 1, k, hm, hk, hu, hok, W, hI => by
    have hpos : 1 ≤ lenV gs k := lens_pos hk fun j hj hjk => by
      by_cases e : j = k
      · subst e; exact hok
      · exact (hu j hj (by omega)).1
    obtain ⟨hst, mem, hl, hmem, hown⟩ := hI
    rcases hmem k (by omega) with h2 | h2
    · by_cases h0 : gs[k].L.size = 0
      · obtain ⟨a, b, ha, hb, hak, hbk, hsum, pa1, pa2, pb1, pb2⟩ := lens_next hk hu hok h0
        have hz : W.cell? ⟨M, k, none⟩ = some (.int .i64 0) := by rw [hown.cellAt k (by omega), iv_at (by omega), h2]
        refine meas_pair B bm br bj bf M gs (lenV gs) k a b W hk hn ⟨hst, mem, hl, hmem, hown⟩ h0 ha hb hak hbk hz ?_ ?_ ?_
        · exact fun W' hI' => meas_any B bm br bj bf M gs hn m a (by omega) (by omega) (fun j hj hja => hu j hj (by omega)) (hu a (by omega) hak).1 W' hI'
        · exact fun W' hI' => meas_any B bm br bj bf M gs hn m b (by omega) (by omega) (fun j hj hjb => hu j hj (by omega)) (hu b (by omega) hbk).1 W' hI'
        · intro W'
          have := join_any (lenV gs a) (lenV gs b) W' pa1 pa2 pb1 pb2
          rw [← show lenV gs k = lenV gs a + lenV gs b from hsum] at this
          exact this
      · exact (meas_letter B bm br bj bf M joinV gs (lenV gs) k W hk hn hst mem hl hmem hown (vals_letter _ gs k hk h0) h2 h0).mono fun e w' h => h.inv hst
    · exact (meas_known B bm br bj bf M joinV gs (lenV gs) k W hk hn hst mem hl hmem hown (by omega) h2).mono fun e w' h => h.inv hst
end Go.Proofs.Ytapemoehcohjgaa.len
