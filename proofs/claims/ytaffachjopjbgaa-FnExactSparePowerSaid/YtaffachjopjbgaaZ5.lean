/-
  Contracts and numbers of the functions that the laws of this place call, one text behind the other. No condition beyond those that each theorem names.
-/
import Derived.Test.YtaffachjopjbgaaZ1
import Derived.Test.YtaffachjopjbgaaZ2
import Derived.Test.YtaffachjopjbgaaZ3
import Derived.Deep.QuietTactic
import Derived.BigQuiet
import Derived.Deep.RegionHeld3
namespace Go.Proofs.Ytaffachjopjbgaa
open Go.RowKit
open Wd
set_option linter.unusedVariables false
namespace Wd
/-- a cell of a table -/
def at2 (t : List (List Int)) (k : Nat) (s : Nat) : Int := (t.getD k []).getD s 0
/-- the visits of a rule, 24 wide: wa tells which states are wanted -/
def visR (wa : Int → Bool) (ms vs : List (List Int)) (x : Rl) (m : List Int) : List Int :=
  (List.range 24).map fun s => if x.L.size = 0 then at2 vs x.l.toNat s + at2 vs x.r.toNat (at2 ms x.l.toNat s).toNat else if wa (m.getD s 0) = true then 1 else 0
/-- those of the first rules -/
def visK (wa : Int → Bool) (nx : List (List Int)) (gs : List Rl) : Nat → List (List Int)
  | 0 => []
  | k + 1 => visK wa nx gs k ++ [visR wa (mapsK nx gs k) (visK wa nx gs k) (gs.getD k ⟨ByteArray.empty, 0, 0⟩) ((mapsK nx gs (k + 1)).getD k [])]
/-- behind how many letters the first visit is, -1 if there is none -/
def firR (wa : Int → Bool) (ln : List Int) (ms vs : List (List Int)) (x : Rl) (m : List Int) : List Int :=
  (List.range 24).map fun s => if x.L.size = 0 then (if at2 vs x.l.toNat s < 0 ∧ 0 ≤ at2 vs x.r.toNat (at2 ms x.l.toNat s).toNat then ln.getD x.l.toNat 0 + at2 vs x.r.toNat (at2 ms x.l.toNat s).toNat else at2 vs x.l.toNat s) else if wa (m.getD s 0) = true then 1 else -1
def firK (wa : Int → Bool) (nx : List (List Int)) (gs : List Rl) : Nat → List (List Int)
  | 0 => []
  | k + 1 => firK wa nx gs k ++ [firR wa (lens gs) (mapsK nx gs k) (firK wa nx gs k) (gs.getD k ⟨ByteArray.empty, 0, 0⟩) ((mapsK nx gs (k + 1)).getD k [])]
/-- the visit with a number, downwards -/
def fndF (wa : Int → Bool) (nx : List (List Int)) (gs : List Rl) : Nat → Nat → Nat → Int → Int
  | 0, _, _, _ => 1
  | f + 1, k, s, c =>
    if (gs.getD k ⟨ByteArray.empty, 0, 0⟩).L.size = 0 then
      (if c < at2 (visK wa nx gs gs.length) (gs.getD k ⟨ByteArray.empty, 0, 0⟩).l.toNat s then fndF wa nx gs f (gs.getD k ⟨ByteArray.empty, 0, 0⟩).l.toNat s c
       else (lens gs).getD (gs.getD k ⟨ByteArray.empty, 0, 0⟩).l.toNat 0 + fndF wa nx gs f (gs.getD k ⟨ByteArray.empty, 0, 0⟩).r.toNat (at2 (mapsK nx gs gs.length) (gs.getD k ⟨ByteArray.empty, 0, 0⟩).l.toNat s).toNat (c - at2 (visK wa nx gs gs.length) (gs.getD k ⟨ByteArray.empty, 0, 0⟩).l.toNat s))
    else 1
end Wd
theorem visK_len (wa : Int → Bool) (nx : List (List Int)) (gs : List Rl) : ∀ k, (visK wa nx gs k).length = k
  | 0 => rfl
  | k + 1 => by rw [visK, List.length_append, visK_len wa nx gs k]; rfl
theorem firK_len (wa : Int → Bool) (nx : List (List Int)) (gs : List Rl) : ∀ k, (firK wa nx gs k).length = k
  | 0 => rfl
  | k + 1 => by rw [firK, List.length_append, firK_len wa nx gs k]; rfl
theorem getD_snoc_lt {α : Type} (l : List α) (x d : α) (j : Nat) (h : j < l.length) : (l ++ [x]).getD j d = l.getD j d := by
  rw [List.getD_eq_getElem?_getD, List.getD_eq_getElem?_getD, List.getElem?_append_left h]
theorem getD_snoc_eq {α : Type} (l : List α) (x d : α) (j : Nat) (h : j = l.length) : (l ++ [x]).getD j d = x := by
  subst h; rw [List.getD_eq_getElem?_getD, List.getElem?_append_right (Nat.le_refl _)]; simp
theorem visK_at (wa : Int → Bool) (nx : List (List Int)) (gs : List Rl) (j s : Nat) : ∀ k, j < k → at2 (visK wa nx gs k) j s = at2 (visK wa nx gs (j + 1)) j s
  | 0, h => by omega
  | k + 1, h => by
    by_cases e : j = k
    · subst e; rfl
    · have := visK_at wa nx gs j s k (by omega)
      rw [← this]
      unfold at2
      rw [visK, getD_snoc_lt _ _ _ _ (by rw [visK_len]; omega)]
theorem firK_at (wa : Int → Bool) (nx : List (List Int)) (gs : List Rl) (j s : Nat) : ∀ k, j < k → at2 (firK wa nx gs k) j s = at2 (firK wa nx gs (j + 1)) j s
  | 0, h => by omega
  | k + 1, h => by
    by_cases e : j = k
    · subst e; rfl
    · have := firK_at wa nx gs j s k (by omega)
      rw [← this]
      unfold at2
      rw [firK, getD_snoc_lt _ _ _ _ (by rw [firK_len]; omega)]
theorem mapsK_at (nx : List (List Int)) (gs : List Rl) (j s : Nat) {k n : Nat} (h1 : j < k) (h2 : j < n) : at2 (mapsK nx gs k) j s = at2 (mapsK nx gs n) j s := by
  unfold at2
  rw [mapsK_getD nx gs j k h1, mapsK_getD nx gs j n h2]
/-- the equations of a rule, over the whole tables -/
theorem vis_pair (wa : Int → Bool) (nx : List (List Int)) {gs : List Rl} {k a b s : Nat} (hk : k < gs.length) (hz : gs[k].L.size = 0) (ha : gs[k].l = a) (hb : gs[k].r = b) (hak : a < k) (hbk : b < k) (hs : s < 24) :
    at2 (visK wa nx gs gs.length) k s = at2 (visK wa nx gs gs.length) a s + at2 (visK wa nx gs gs.length) b (at2 (mapsK nx gs gs.length) a s).toNat := by
  rw [visK_at wa nx gs k s _ hk, visK_at wa nx gs a _ _ (Nat.lt_trans hak hk), visK_at wa nx gs b _ _ (Nat.lt_trans hbk hk), ← visK_at wa nx gs a s k hak, ← visK_at wa nx gs b _ k hbk, mapsK_at nx gs a s (Nat.lt_trans hak hk) hak]
  conv => lhs; unfold at2
  rw [visK, getD_snoc_eq _ _ _ _ (visK_len wa nx gs k).symm]
  unfold visR
  rw [List.getD_eq_getElem?_getD, List.getElem?_map, List.getElem?_range hs, List.getD_eq_getElem?_getD, List.getElem?_eq_getElem hk]
  simp only [Option.map_some, Option.getD_some, if_pos hz, ha, hb, Int.toNat_natCast]
theorem vis_letter (wa : Int → Bool) (nx : List (List Int)) {gs : List Rl} {k s : Nat} (hk : k < gs.length) (hz : gs[k].L.size ≠ 0) (hs : s < 24) :
    at2 (visK wa nx gs gs.length) k s = if wa (at2 (mapsK nx gs gs.length) k s) = true then 1 else 0 := by
  rw [visK_at wa nx gs k s _ hk, mapsK_at nx gs k s hk (Nat.lt_succ_self k)]
  conv => lhs; unfold at2
  rw [visK, getD_snoc_eq _ _ _ _ (visK_len wa nx gs k).symm]
  unfold visR
  rw [List.getD_eq_getElem?_getD, List.getElem?_map, List.getElem?_range hs, List.getD_eq_getElem?_getD (l := gs), List.getElem?_eq_getElem hk]
  simp only [Option.map_some, Option.getD_some, if_neg hz]
  rfl
theorem fir_pair (wa : Int → Bool) (nx : List (List Int)) {gs : List Rl} {k a b s : Nat} (hk : k < gs.length) (hz : gs[k].L.size = 0) (ha : gs[k].l = a) (hb : gs[k].r = b) (hak : a < k) (hbk : b < k) (hs : s < 24) :
    at2 (firK wa nx gs gs.length) k s = if at2 (firK wa nx gs gs.length) a s < 0 ∧ 0 ≤ at2 (firK wa nx gs gs.length) b (at2 (mapsK nx gs gs.length) a s).toNat then (lens gs).getD a 0 + at2 (firK wa nx gs gs.length) b (at2 (mapsK nx gs gs.length) a s).toNat else at2 (firK wa nx gs gs.length) a s := by
  rw [firK_at wa nx gs k s _ hk, firK_at wa nx gs a _ _ (Nat.lt_trans hak hk), firK_at wa nx gs b _ _ (Nat.lt_trans hbk hk), ← firK_at wa nx gs a s k hak, ← firK_at wa nx gs b _ k hbk, mapsK_at nx gs a s (Nat.lt_trans hak hk) hak]
  conv => lhs; unfold at2
  rw [firK, getD_snoc_eq _ _ _ _ (firK_len wa nx gs k).symm]
  unfold firR
  rw [List.getD_eq_getElem?_getD, List.getElem?_map, List.getElem?_range hs, List.getD_eq_getElem?_getD (l := gs), List.getElem?_eq_getElem hk]
  simp only [Option.map_some, Option.getD_some, if_pos hz, ha, hb, Int.toNat_natCast]
theorem fir_letter (wa : Int → Bool) (nx : List (List Int)) {gs : List Rl} {k s : Nat} (hk : k < gs.length) (hz : gs[k].L.size ≠ 0) (hs : s < 24) :
    at2 (firK wa nx gs gs.length) k s = if wa (at2 (mapsK nx gs gs.length) k s) = true then 1 else -1 := by
  rw [firK_at wa nx gs k s _ hk, mapsK_at nx gs k s hk (Nat.lt_succ_self k)]
  conv => lhs; unfold at2
  rw [firK, getD_snoc_eq _ _ _ _ (firK_len wa nx gs k).symm]
  unfold firR
  rw [List.getD_eq_getElem?_getD, List.getElem?_map, List.getElem?_range hs, List.getD_eq_getElem?_getD (l := gs), List.getElem?_eq_getElem hk]
  simp only [Option.map_some, Option.getD_some, if_neg hz]
  rfl
/-- what is right of a grammar's rule -/
theorem rule_cases {gs : List Rl} (hfit : fits gs = true) {k : Nat} (hk : k < gs.length) : gs[k].L.size ≠ 0 ∨ (gs[k].L.size = 0 ∧ ∃ a b : Nat, gs[k].l = a ∧ gs[k].r = b ∧ a < k ∧ b < k) := by
  by_cases hz : gs[k].L.size = 0
  · obtain ⟨⟨a1, a2⟩, b1, b2⟩ := (ok_pair hz).1 (fits_at hfit k hk)
    exact .inr ⟨hz, gs[k].l.toNat, gs[k].r.toNat, by omega, by omega, by omega, by omega⟩
  · exact .inl hz
theorem map_lt {nx : List (List Int)} {st : Int} {gs : List Rl} (h : nx.all (rowOk st) = true) (hl : (nx.length : Int) = st) (h1 : 1 ≤ st) (h24 : st ≤ 24) (hfit : fits gs = true) {k s : Nat} (hk : k < gs.length) (hs : s < 24) : (at2 (mapsK nx gs gs.length) k s).toNat < 24 := by
  obtain ⟨m1, m2⟩ := mapsK_ok h hl h1 h24 hfit gs.length (Nat.le_refl _) k hk
  unfold at2
  rw [List.getD_eq_getElem?_getD (i := s), List.getElem?_eq_getElem (by omega), Option.getD_some]
  have := m2 _ (List.getElem_mem (show s < ((mapsK nx gs gs.length).getD k []).length by omega))
  omega
/-- visits are counted upwards from 0; there is a first one where there is one -/
theorem vis_fir {nx : List (List Int)} {st : Int} {gs : List Rl} (wa : Int → Bool) (h : nx.all (rowOk st) = true) (hl : (nx.length : Int) = st) (h1 : 1 ≤ st) (h24 : st ≤ 24) (hfit : fits gs = true) : ∀ m k s, k < m → k < gs.length → s < 24 →
    0 ≤ at2 (visK wa nx gs gs.length) k s ∧ (at2 (visK wa nx gs gs.length) k s = 0 ∧ at2 (firK wa nx gs gs.length) k s = -1 ∨ 0 < at2 (visK wa nx gs gs.length) k s ∧ 1 ≤ at2 (firK wa nx gs gs.length) k s)
  | 0, k, s, hm, _, _ => by omega
  | m + 1, k, s, hm, hk, hs => by
    rcases rule_cases hfit hk with hz | ⟨hz, a, b, ha, hb, hak, hbk⟩
    · rw [vis_letter wa nx hk hz hs, fir_letter wa nx hk hz hs]
      split
      · omega
      · omega
    · have ia := vis_fir wa h hl h1 h24 hfit m a s (by omega) (by omega) hs
      have ib := vis_fir wa h hl h1 h24 hfit m b (at2 (mapsK nx gs gs.length) a s).toNat (by omega) (by omega) (map_lt h hl h1 h24 hfit (by omega) hs)
      have lp := lens_pos (gs := gs) (k := a) (by omega) (fun j hj _ => fits_at hfit j hj)
      rw [vis_pair wa nx hk hz ha hb hak hbk hs, fir_pair wa nx hk hz ha hb hak hbk hs]
      split <;> omega
/-- the first visit lies in the word -/
theorem fir_bd {nx : List (List Int)} {st : Int} {gs : List Rl} (wa : Int → Bool) (h : nx.all (rowOk st) = true) (hl : (nx.length : Int) = st) (h1 : 1 ≤ st) (h24 : st ≤ 24) (hfit : fits gs = true) : ∀ m k s, k < m → k < gs.length → s < 24 →
    -1 ≤ at2 (firK wa nx gs gs.length) k s ∧ at2 (firK wa nx gs gs.length) k s ≤ (lens gs).getD k 0
  | 0, k, s, hm, _, _ => by omega
  | m + 1, k, s, hm, hk, hs => by
    have lk := lens_pos (gs := gs) (k := k) hk (fun j hj _ => fits_at hfit j hj)
    rcases rule_cases hfit hk with hz | ⟨hz, a, b, ha, hb, hak, hbk⟩
    · rw [fir_letter wa nx hk hz hs]
      split <;> omega
    · have ia := fir_bd wa h hl h1 h24 hfit m a s (by omega) (by omega) hs
      have ib := fir_bd wa h hl h1 h24 hfit m b (at2 (mapsK nx gs gs.length) a s).toNat (by omega) (by omega) (map_lt h hl h1 h24 hfit (by omega) hs)
      have lp := lens_pos (gs := gs) (k := a) (by omega) (fun j hj _ => fits_at hfit j hj)
      have hok := fits_at hfit k hk
      have hsum : (lens gs).getD k 0 = (lens gs).getD a 0 + (lens gs).getD b 0 := by
        have := vals_pair (fun a b => a + b) gs k hk hz hok
        rw [ha, hb, Int.toNat_natCast, Int.toNat_natCast] at this
        exact this
      have lb := lens_pos (gs := gs) (k := b) (by omega) (fun j hj _ => fits_at hfit j hj)
      rw [fir_pair wa nx hk hz ha hb hak hbk hs]
      split <;> omega
/-- the visit with the number 0 is the first one -/
theorem fnd_fir {nx : List (List Int)} {st : Int} {gs : List Rl} (wa : Int → Bool) (h : nx.all (rowOk st) = true) (hl : (nx.length : Int) = st) (h1 : 1 ≤ st) (h24 : st ≤ 24) (hfit : fits gs = true) : ∀ f k s, k < f → k < gs.length → s < 24 → 0 < at2 (visK wa nx gs gs.length) k s →
    fndF wa nx gs f k s 0 = at2 (firK wa nx gs gs.length) k s
  | 0, k, s, hm, _, _, _ => by omega
  | f + 1, k, s, hm, hk, hs, hv => by
    have hg : gs.getD k ⟨ByteArray.empty, 0, 0⟩ = gs[k] := by rw [List.getD_eq_getElem?_getD, List.getElem?_eq_getElem hk]; rfl
    rcases rule_cases hfit hk with hz | ⟨hz, a, b, ha, hb, hak, hbk⟩
    · rw [fndF, hg, if_neg hz]
      rw [vis_letter wa nx hk hz hs] at hv
      rw [fir_letter wa nx hk hz hs]
      split at hv
      · next hw => rw [if_pos hw]
      · omega
    · have hmb := map_lt h hl h1 h24 hfit (show a < gs.length by omega) hs
      have ia := vis_fir wa h hl h1 h24 hfit (a + 1) a s (by omega) (by omega) hs
      have ib := vis_fir wa h hl h1 h24 hfit (b + 1) b (at2 (mapsK nx gs gs.length) a s).toNat (by omega) (by omega) hmb
      rw [vis_pair wa nx hk hz ha hb hak hbk hs] at hv
      rw [fndF, hg, if_pos hz, ha, hb, Int.toNat_natCast, Int.toNat_natCast, fir_pair wa nx hk hz ha hb hak hbk hs]
      by_cases hp : 0 < at2 (visK wa nx gs gs.length) a s
      · rw [if_pos hp, if_neg (by omega), fnd_fir wa h hl h1 h24 hfit f a s (by omega) (by omega) hs hp]
      · have h0 : at2 (visK wa nx gs gs.length) a s = 0 := by omega
        rw [if_neg hp, h0, Int.sub_zero, if_pos (by omega), fnd_fir wa h hl h1 h24 hfit f b _ (by omega) (by omega) hmb (by omega)]
theorem fnd_pair (wa : Int → Bool) (nx : List (List Int)) {gs : List Rl} {k a b s f : Nat} {c : Int} (hk : k < gs.length) (hz : gs[k].L.size = 0) (ha : gs[k].l = a) (hb : gs[k].r = b) :
    fndF wa nx gs (f + 1) k s c = if c < at2 (visK wa nx gs gs.length) a s then fndF wa nx gs f a s c else (lens gs).getD a 0 + fndF wa nx gs f b (at2 (mapsK nx gs gs.length) a s).toNat (c - at2 (visK wa nx gs gs.length) a s) := by
  have hg : gs.getD k ⟨ByteArray.empty, 0, 0⟩ = gs[k] := by rw [List.getD_eq_getElem?_getD, List.getElem?_eq_getElem hk]; rfl
  rw [fndF, hg, if_pos hz, ha, hb, Int.toNat_natCast, Int.toNat_natCast]
theorem fnd_letter (wa : Int → Bool) (nx : List (List Int)) {gs : List Rl} {k s f : Nat} {c : Int} (hk : k < gs.length) (hz : gs[k].L.size ≠ 0) : fndF wa nx gs (f + 1) k s c = 1 := by
  have hg : gs.getD k ⟨ByteArray.empty, 0, 0⟩ = gs[k] := by rw [List.getD_eq_getElem?_getD, List.getElem?_eq_getElem hk]; rfl
  rw [fndF, hg, if_neg hz]
theorem fnd_stable {gs : List Rl} (wa : Int → Bool) (nx : List (List Int)) (hfit : fits gs = true) : ∀ f1 f2 k s c, k < gs.length → k < f1 → k < f2 → fndF wa nx gs f1 k s c = fndF wa nx gs f2 k s c
  | 0, f2, k, s, c, hk, h1, h2 => by omega
  | f1 + 1, 0, k, s, c, hk, h1, h2 => by omega
  | f1 + 1, f2 + 1, k, s, c, hk, h1, h2 => by
    rcases rule_cases hfit hk with hz | ⟨hz, a, b, ha, hb, hak, hbk⟩
    · rw [fnd_letter wa nx hk hz, fnd_letter wa nx hk hz]
    · rw [fnd_pair wa nx hk hz ha hb, fnd_pair wa nx hk hz ha hb, fnd_stable wa nx hfit f1 f2 a s c (by omega) (by omega) (by omega), fnd_stable wa nx hfit f1 f2 b _ _ (by omega) (by omega) (by omega)]
/-- there are no more visits than letters, and each lies in the word -/
theorem fnd_bd {nx : List (List Int)} {st : Int} {gs : List Rl} (wa : Int → Bool) (h : nx.all (rowOk st) = true) (hl : (nx.length : Int) = st) (h1 : 1 ≤ st) (h24 : st ≤ 24) (hfit : fits gs = true) : ∀ m k s (c : Int), k < m → k < gs.length → s < 24 →
    at2 (visK wa nx gs gs.length) k s ≤ (lens gs).getD k 0 ∧ (0 ≤ c → c < at2 (visK wa nx gs gs.length) k s → 1 ≤ fndF wa nx gs m k s c ∧ fndF wa nx gs m k s c ≤ (lens gs).getD k 0)
  | 0, k, s, c, hm, _, _ => by omega
  | m + 1, k, s, c, hm, hk, hs => by
    have lk := lens_pos (gs := gs) (k := k) hk (fun j hj _ => fits_at hfit j hj)
    rcases rule_cases hfit hk with hz | ⟨hz, a, b, ha, hb, hak, hbk⟩
    · rw [vis_letter wa nx hk hz hs, fnd_letter wa nx hk hz]
      split <;> omega
    · have hmb := map_lt h hl h1 h24 hfit (show a < gs.length by omega) hs
      have ia := fnd_bd wa h hl h1 h24 hfit m a s c (by omega) (by omega) hs
      have ib := fnd_bd wa h hl h1 h24 hfit m b (at2 (mapsK nx gs gs.length) a s).toNat (c - at2 (visK wa nx gs gs.length) a s) (by omega) (by omega) hmb
      have lp := lens_pos (gs := gs) (k := a) (by omega) (fun j hj _ => fits_at hfit j hj)
      have lb := lens_pos (gs := gs) (k := b) (by omega) (fun j hj _ => fits_at hfit j hj)
      have hsum : (lens gs).getD k 0 = (lens gs).getD a 0 + (lens gs).getD b 0 := by
        have := vals_pair (fun a b => a + b) gs k hk hz (fits_at hfit k hk)
        rw [ha, hb, Int.toNat_natCast, Int.toNat_natCast] at this
        exact this
      rw [vis_pair wa nx hk hz ha hb hak hbk hs, fnd_pair wa nx hk hz ha hb]
      refine ⟨by omega, fun h0 hc => ?_⟩
      split
      · have := ia.2 h0 (by omega); omega
      · have := ib.2 (by omega) (by omega); omega
end Go.Proofs.Ytaffachjopjbgaa
namespace Go.Proofs.Ytaffachjopjbgaa
open Go.RowKit
open Wd
set_option linter.unusedVariables false
/-- five cells -/
def B5 (w : World) (b : Nat) (c0 c1 c2 c3 c4 : Value) (t : TypeId) : Prop := w.heap[b]? = some (.cells #[c0, c1, c2, c3, c4] t (0, 0))
theorem B5.kept {w w' : World} {b : Nat} {c0 c1 c2 c3 c4 : Value} {t : TypeId} (h : B5 w b c0 c1 c2 c3 c4 t) (hb : Below w.heap.size w w') : B5 w' b c0 c1 c2 c3 c4 t := (hb.block b (Array.getElem?_eq_some_iff.1 h).1).trans h
theorem B5.lt {w : World} {b : Nat} {c0 c1 c2 c3 c4 : Value} {t : TypeId} (h : B5 w b c0 c1 c2 c3 c4 t) : b < w.heap.size := (Array.getElem?_eq_some_iff.1 h).1
theorem b5_cells {w : World} {R : Nat} {t : TypeId} {a b c d e : Value} (h : B5 w R a b c d e t) :
    w.cell? ⟨R, 0, none⟩ = some a ∧ w.cell? ⟨R, 1, none⟩ = some b ∧ w.cell? ⟨R, 2, none⟩ = some c ∧ w.cell? ⟨R, 3, none⟩ = some d ∧ w.cell? ⟨R, 4, none⟩ = some e := by
  have key : ∀ o, w.cell? ⟨R, o, none⟩ = (#[a, b, c, d, e] : Array Value)[o]? := fun o => by unfold B5 at h; simp [World.cell?, h]
  exact ⟨by rw [key]; rfl, by rw [key]; rfl, by rw [key]; rfl, by rw [key]; rfl, by rw [key]; rfl⟩
/-- a search's value: a walk, and the visits of all rules -/
def IsS (w : World) (lo : Nat) (sv gv : Value) (gs : List Rl) (nx vs : List (List Int)) (go : Int) : Prop :=
  ∃ lv mv vv, sv = .agg #[gv, lv, mv, .int .i64 go, vv] ∧ OwnsI w lo lv (lens gs) ∧ IsMs w lo mv (mapsK nx gs gs.length) ∧ IsMs w lo vv vs
theorem IsS.kept {w w' : World} {lo : Nat} {sv gv : Value} {gs : List Rl} {nx vs : List (List Int)} {go : Int} (h : IsS w lo sv gv gs nx vs go) (hb : Below w.heap.size w w') : IsS w' lo sv gv gs nx vs go := by
  obtain ⟨lv, mv, vv, h0, h2, h3, h4⟩ := h
  exact ⟨lv, mv, vv, h0, own_below h2 hb (Nat.le_refl _), h3.kept hb, h4.kept hb⟩
theorem win_zero (k s n : Int) (p q : Value) (h : n ≤ 0) (w : World) :
    Calls Try.prog 163 #[.int .i64 k, .int .i64 s, .int .i64 n, p, q] w fun e w' => e = .returned (.int .i64 0) ∧ w' = w := by
  have hd : decide (n ≤ 0) = true := decide_eq_true h
  clear h
  go_enter Try.func163, Try.ntmps163
  go_wp2_with fail
  go_ret
  exact ⟨rfl, rfl⟩
set_option maxRecDepth 100000 in
set_option maxHeartbeats 1600000 in
theorem win_full (k : Nat) (s n : Int) (Wb : Nat) (q : Value) (gv lv mv vv : Value) (st0 : Int) (ls : List Int) (vs : List (List Int)) (lo : Nat) (w : World) (hB : B5 w Wb gv lv mv (.int .i64 st0) vv 116) (hl : IsL w lv ls) (hm : IsMs w lo vv vs) (hk : k < ls.length) (hk2 : k < vs.length) (hn : 0 < n) (hn2 : ls.getD k 0 ≤ n) (hs : 0 ≤ s ∧ s < 24) :
    Calls Try.prog 163 #[.int .i64 k, .int .i64 s, .int .i64 n, .pointer (some ⟨Wb, 0, none⟩), q] w fun e w' => e = .returned (.int .i64 (at2 vs k s.toNat)) ∧ w' = w := by
  obtain ⟨t, rfl⟩ : ∃ t : Nat, s = t := ⟨s.toNat, by omega⟩
  rw [Int.toNat_natCast]
  obtain ⟨p0, p1, p2, p3, p4⟩ := b5_cells hB
  obtain ⟨A2, c2, rfl, h2⟩ := hl
  obtain ⟨A3, c3, rfl, h3⟩ := hm
  rcases h2 with h2 | ⟨a2, rfl, h2⟩
  · rw [h2] at hk; simp at hk
  rcases h3 with h3 | ⟨a3, rfl, _, h3⟩
  · rw [h3] at hk2; simp at hk2
  have c0 := h2 k hk
  have c1 := h3 k t hk2 (by omega)
  rw [show ls[k] = ls.getD k 0 from by rw [List.getD_eq_getElem?_getD, List.getElem?_eq_getElem hk]; rfl] at c0
  unfold at2
  clear h2 h3
  generalize ls.getD k 0 = lk at *
  generalize (vs.getD k []).getD t 0 = z at *
  generalize ls.length = N at *
  generalize vs.length = M at *
  have k0 : (0 : Int) ≤ (k : Int) := by omega
  have k1 : (k : Int) < (N : Int) := by omega
  have k2 : (k : Int) < (M : Int) := by omega
  have k3 : ((k : Int) == -1) = false := by first | (simp; done) | (simp; omega)
  have t0 : (0 : Int) ≤ (t : Int) := by omega
  have t1 : (t : Int) < 24 := by omega
  have hd : decide (n ≤ 0) = false := decide_eq_false (by omega)
  have hd2 : decide (lk ≤ n) = true := decide_eq_true hn2
  clear hB hk hk2 hn hn2 hs
  go_enter Try.func163, Try.ntmps163
  go_wp2_with fail
  go_ret
  exact ⟨rfl, rfl⟩
/-- all visits -/
def allV (vs : List (List Int)) (gs : List Rl) (s : Int) : Int := if gs.length = 0 then 0 else at2 vs (gs.length - 1) s.toNat
set_option maxRecDepth 100000 in
set_option maxHeartbeats 3200000 in
theorem within_any (sv gv : Value) (gs : List Rl) (nx vs : List (List Int)) (s : Int) (lo : Nat) (w : World) (hok : gOk gs = true) (hr : Rules w gv gs) (hv : vs.length = gs.length) (hW : IsS w lo sv gv gs nx vs s) (hs : 0 ≤ s ∧ s < 24) :
    Calls Try.prog 103 #[sv, .int .i64 (wordLen gs)] w fun e w' => e = .returned (.int .i64 (allV vs gs s)) ∧ Below w.heap.size w w' := by
  have hmf : ∀ (fn : Fn) (first cap : Array Value) (w : World), (Instr.makeFunc fn first cap).run Try.prog w = .ok (.func fn first cap) w := fun _ _ _ _ => rfl
  obtain ⟨lv, mv, vv, rfl, h2, h3, h4⟩ := hW
  have hn400 := gOk_len hok
  have hfit := (gOk_iff.1 hok).2.1
  have hb : Below w.heap.size w ((w.alloc (.cells #[gv, lv, mv, .int .i64 s, vv] 116)).alloc (.cells #[.func (.func 163) #[] #[.pointer (some ⟨w.heap.size, 0, none⟩), .pointer (some ⟨w.heap.size + 1, 0, none⟩)]] 202)) := ((Below.refl _ w).alloc (Nat.le_refl _) _).alloc (by simp) _
  have hP : B5 ((w.alloc (.cells #[gv, lv, mv, .int .i64 s, vv] 116)).alloc (.cells #[.func (.func 163) #[] #[.pointer (some ⟨w.heap.size, 0, none⟩), .pointer (some ⟨w.heap.size + 1, 0, none⟩)]] 202)) w.heap.size gv lv mv (.int .i64 s) vv 116 := B5.kept (heap_alloc_new w _) ((Below.refl _ _).alloc (Nat.le_refl _) _)
  have hQ := heap_alloc_new (w.alloc (.cells #[gv, lv, mv, .int .i64 s, vv] 116)) (.cells #[.func (.func 163) #[] #[.pointer (some ⟨w.heap.size, 0, none⟩), .pointer (some ⟨w.heap.size + 1, 0, none⟩)]] 202)
  rw [show (w.alloc (.cells #[gv, lv, mv, .int .i64 s, vv] 116)).heap.size = w.heap.size + 1 from by simp] at hQ
  have hq := cell_of_row _ _ 0 _ _ _ hQ
  have HLD : Hid (∀ W, Below ((w.alloc (.cells #[gv, lv, mv, .int .i64 s, vv] 116)).alloc (.cells #[.func (.func 163) #[] #[.pointer (some ⟨w.heap.size, 0, none⟩), .pointer (some ⟨w.heap.size + 1, 0, none⟩)]] 202)).heap.size ((w.alloc (.cells #[gv, lv, mv, .int .i64 s, vv] 116)).alloc (.cells #[.func (.func 163) #[] #[.pointer (some ⟨w.heap.size, 0, none⟩), .pointer (some ⟨w.heap.size + 1, 0, none⟩)]] 202)) W → Calls Try.prog 163 #[.int .i64 ((gs.length : Int) - 1), .int .i64 s, .int .i64 (wordLen gs), .pointer (some ⟨w.heap.size, 0, none⟩), .pointer (some ⟨w.heap.size + 1, 0, none⟩)] W fun e w' => e = .returned (.int .i64 (allV vs gs s)) ∧ w' = W) := Lib.hid (fun W hW => by
    unfold allV
    by_cases h0 : gs.length = 0
    · rw [if_pos h0, wordLen_zero h0]
      exact win_zero _ s 0 _ _ (by omega) W
    · rw [if_neg h0]
      have hk : ((gs.length : Int) - 1) = ((gs.length - 1 : Nat) : Int) := by omega
      rw [hk]
      have hpos := lens_pos (gs := gs) (k := gs.length - 1) (by omega) (fun j hj _ => fits_at hfit j hj)
      unfold wordLen
      exact win_full (gs.length - 1) s _ w.heap.size _ gv lv mv vv s (lens gs) vs lo W (hP.kept hW) (((IsL.of_own h2).kept hb).kept hW) ((h4.kept hb).kept hW) (by rw [lens_len]; omega) (by rw [hv]; omega) (by omega) (Int.le_refl _) hs)
  have HB := Lib.hid hb
  obtain ⟨p0, p1, p2, p3, p4⟩ := b5_cells hP
  obtain ⟨Ag, cg, rfl, hRx⟩ := hr
  obtain ⟨A2, c2, rfl⟩ := own_slice h2
  obtain ⟨A3, c3, rfl, h3x⟩ := h3
  obtain ⟨A4, c4, rfl, h4x⟩ := h4
  have HLO := Lib.hid (fun W => lastOf_any Ag gs.length cg hn400 W)
  generalize wordLen gs = n at *
  generalize allV vs gs s = z at *
  clear hok hs hn400 hfit hRx h3x h4x h2 hP hQ hv
  go_enter Try.func103, Try.ntmps103
  go_upto_region 3 with fail
  generalize (w.alloc (.cells #[.slice Ag gs.length cg, .slice A2 (lens gs).length c2, .slice A3 (mapsK nx gs gs.length).length c3, .int .i64 s, .slice A4 vs.length c4] 116)).alloc (.cells #[.func (.func 163) #[] #[.pointer (some ⟨w.heap.size, 0, none⟩), .pointer (some ⟨w.heap.size + 1, 0, none⟩)]] 202) = w2 at *
  have hq : w2.cell? ⟨w.heap.size + 1, 0, none⟩ = some (.func (.func 163) #[] #[.pointer (some ⟨w.heap.size, 0, none⟩), .pointer (some ⟨w.heap.size + 1, 0, none⟩)]) := hq
  have HLE := Lib.hid (fun m => HLD.out (w2.drewN m) (below_drewN (Below.refl _ w2) m))
  clear hb HLD
  go_quiet ((first
    | (go_at_call 135; exact Calls.quiet_of_same (HLO.out _))
    | (go_at_call 163; exact Calls.quiet_of_same (HLE.out _))))
  go_wp2_with fail
  go_ret
  exact ⟨rfl, below_drewN HB.out _⟩
set_option maxRecDepth 100000 in
set_option maxHeartbeats 3200000 in
theorem all_any (sv gv : Value) (gs : List Rl) (nx vs : List (List Int)) (s : Int) (lo : Nat) (w : World) (hok : gOk gs = true) (hr : Rules w gv gs) (hv : vs.length = gs.length) (hW : IsS w lo sv gv gs nx vs s) (hs : 0 ≤ s ∧ s < 24) :
    Calls Try.prog 90 #[sv] w fun e w' => e = .returned (.int .i64 (allV vs gs s)) ∧ Below w.heap.size w w' := by
  have HS := Lib.hid hW
  obtain ⟨lv, mv, vv, rfl, h2, h3, h4⟩ := hW
  have hb := (Below.refl _ w).alloc (Nat.le_refl _) (.cells #[gv, lv, mv, .int .i64 s, vv] 116)
  have hP := heap_alloc_new w (.cells #[gv, lv, mv, .int .i64 s, vv] 116)
  have hs0 : w.heap.size < (w.alloc (.cells #[gv, lv, mv, .int .i64 s, vv] 116)).heap.size := by simp
  have HW := Lib.hid (fun W (hb2 : Below w.heap.size w W) => within_any _ gv gs nx vs s lo W hok (hr.kept hb2) hv (HS.out.kept hb2) hs)
  have hwl : (lens gs).getD ((lens gs).length - 1) 0 = wordLen gs := by rw [lens_len]; rfl
  have HWL := Lib.hid (fun W (hb2 : Below w.heap.size w W) => wordLen_any lv (lens gs) (by rw [lens_len]; exact gOk_len hok) W ((IsL.of_own h2).kept hb2))
  rw [hwl] at HWL
  obtain ⟨p0, p1, p2, p3, p4⟩ := b5_cells (show B5 _ _ _ _ _ _ _ _ from hP)
  obtain ⟨Ag, cg, rfl, hRx⟩ := hr
  obtain ⟨A2, c2, rfl⟩ := own_slice h2
  obtain ⟨A3, c3, rfl, h3x⟩ := h3
  obtain ⟨A4, c4, rfl, h4x⟩ := h4
  have HB := Lib.hid hb
  generalize wordLen gs = n at *
  generalize allV vs gs s = z at *
  clear hok hs hRx h3x h4x h2 hP hwl HS hb hv
  go_enter Try.func90, Try.ntmps90
  go_upto_region 1 with fail
  generalize w.alloc (.cells #[.slice Ag gs.length cg, .slice A2 (lens gs).length c2, .slice A3 (mapsK nx gs gs.length).length c3, .int .i64 s, .slice A4 vs.length c4] 116) = w2 at *
  have HC := Lib.hid (And.intro p0 (And.intro p1 (And.intro p2 (And.intro p3 p4))))
  have HBW := Lib.hid HB.out
  go_region_held3 (fun w' => w'.cell? ⟨w.heap.size, 0, none⟩ = some (.slice Ag gs.length cg) ∧ w'.cell? ⟨w.heap.size, 1, none⟩ = some (.slice A2 (lens gs).length c2) ∧ w'.cell? ⟨w.heap.size, 2, none⟩ = some (.slice A3 (mapsK nx gs gs.length).length c3) ∧ w'.cell? ⟨w.heap.size, 3, none⟩ = some (.int .i64 s) ∧ w'.cell? ⟨w.heap.size, 4, none⟩ = some (.slice A4 vs.length c4))
    (first | (with_reducible exact HC.out) | (with_reducible exact HC9.out) | go_keep)
    (first
      | (go_at_call 102
         refine (HWL.out _ ?_).mono ?_
         (first | (with_reducible exact HBW.out) | (with_reducible exact below_drewN HBW.out 1) | exact below_drewN HBW.out _)
         rintro e w8 ⟨rfl, rfl⟩)
      | (go_at_call 103
         refine (HW.out _ ?_).mono ?_
         (first | (with_reducible exact HBW.out) | (with_reducible exact below_drewN HBW.out 1) | exact below_drewN HBW.out _)
         rintro e w9 ⟨rfl, hB9⟩
         have hB9 : Below w2.heap.size w2 w9 := by first | exact hB9 | exact below_undrew hB9
         have HC9 : Hid (w9.cell? ⟨w.heap.size, 0, none⟩ = some (.slice Ag gs.length cg) ∧ w9.cell? ⟨w.heap.size, 1, none⟩ = some (.slice A2 (lens gs).length c2) ∧ w9.cell? ⟨w.heap.size, 2, none⟩ = some (.slice A3 (mapsK nx gs gs.length).length c3) ∧ w9.cell? ⟨w.heap.size, 3, none⟩ = some (.int .i64 s) ∧ w9.cell? ⟨w.heap.size, 4, none⟩ = some (.slice A4 vs.length c4)) := Lib.hid ⟨(hB9.cell (lt_of_cell p0)).trans p0, (hB9.cell (lt_of_cell p1)).trans p1, (hB9.cell (lt_of_cell p2)).trans p2, (hB9.cell (lt_of_cell p3)).trans p3, (hB9.cell (lt_of_cell p4)).trans p4⟩
         have HB9 := Lib.hid (HB.out.trans (hB9.mono HB.out.size))
         clear hB9))
  all_goals
    go_wp2_with fail
    go_ret
    exact ⟨rfl, HB9.out⟩
end Go.Proofs.Ytaffachjopjbgaa
namespace Go.Proofs.Ytaffachjopjbgaa
open Go.RowKit
open Wd
set_option linter.unusedVariables false
theorem tm_lp (v : Value) (w : World) : (Instr.typeAssert (.iface 211 v) 194 198 true).run Try.prog w = .ok (.tuple #[.agg #[.string ⟨#[]⟩, .int .i64 0, .int .i64 0], .bool false]) w := by kernel_rfl
abbrev findV (Wb Qb : Nat) : Value := .func (.func 157) #[] #[.pointer (some ⟨Wb, 0, none⟩), .pointer (some ⟨Qb, 0, none⟩)]
structure SInv (Wb Qb : Nat) (gv lv mv vv : Value) (st0 : Int) (lo : Nat) (nx vs : List (List Int)) (gs : List Rl) (w : World) : Prop where
  b : B5 w Wb gv lv mv (.int .i64 st0) vv 116
  q : w.cell? ⟨Qb, 0, none⟩ = some (findV Wb Qb)
  r : Rules w gv gs
  l : IsL w lv (lens gs)
  m : IsMs w lo mv (mapsK nx gs gs.length)
  v : IsMs w lo vv vs
theorem SInv.kept {Wb Qb : Nat} {gv lv mv vv : Value} {st0 : Int} {lo : Nat} {nx vs : List (List Int)} {gs : List Rl} {w w' : World} (h : SInv Wb Qb gv lv mv vv st0 lo nx vs gs w) (hb : Below w.heap.size w w') : SInv Wb Qb gv lv mv vv st0 lo nx vs gs w' :=
  ⟨h.b.kept hb, (hb.cell (lt_of_cell h.q)).trans h.q, h.r.kept hb, h.l.kept hb, h.m.kept hb, h.v.kept hb⟩
theorem rule3_cellsV {w : World} {R : Nat} {t : TypeId} {a b c : Value} (h : w.heap[R]? = some (.cells #[a, b, c] t (0, 0))) :
    w.cell? ⟨R, 0, none⟩ = some a ∧ w.cell? ⟨R, 1, none⟩ = some b ∧ w.cell? ⟨R, 2, none⟩ = some c := by
  have key : ∀ o, w.cell? ⟨R, o, none⟩ = (#[a, b, c] : Array Value)[o]? := fun o => by simp [World.cell?, h]
  exact ⟨by rw [key]; rfl, by rw [key]; rfl, by rw [key]; rfl⟩
/-- the contract of the closure -/
def FindC (Wb Qb : Nat) (gv lv mv vv : Value) (st0 : Int) (lo : Nat) (nx vs : List (List Int)) (gs : List Rl) (k : Nat) (s c z : Int) : Prop :=
  ∀ W, SInv Wb Qb gv lv mv vv st0 lo nx vs gs W → Calls Try.prog 157 #[.int .i64 k, .int .i64 s, .int .i64 c, .pointer (some ⟨Wb, 0, none⟩), .pointer (some ⟨Qb, 0, none⟩)] W fun e w' => e = .returned (.int .i64 z) ∧ Below W.heap.size W w'
set_option maxRecDepth 100000 in
set_option maxHeartbeats 3200000 in
theorem find_letter (Wb Qb : Nat) (gv lv mv vv : Value) (st0 : Int) (lo : Nat) (nx vs : List (List Int)) (gs : List Rl) (k : Nat) (s c : Int) (hk : k < gs.length) (h0 : gs[k].L.size ≠ 0) : FindC Wb Qb gv lv mv vv st0 lo nx vs gs k s c 1 := by
  intro w hI
  obtain ⟨hB5, hq, hr, hl, hm, hv⟩ := hI
  obtain ⟨p0, p1, p2, p3, p4⟩ := b5_cells hB5
  obtain ⟨A1, c1, rfl, hr⟩ := hr
  rcases hr with hr | ⟨g, rfl, hg, hcc⟩
  · rw [hr] at hk; simp at hk
  obtain ⟨a0, a1, a2⟩ := rules_cells hcc hk
  have HK := Lib.hid (fun W => kind_letter gs[k] h0 W)
  have HT := tm_lp
  have k0 : (0 : Int) ≤ (k : Int) := by omega
  have k1 : (k : Int) < (gs.length : Int) := by omega
  generalize gs[k] = R at *
  clear hB5 hq hl hm hv hcc p1 p2 p3 p4 h0
  go_enter Try.func157, Try.ntmps157
  go_wp2_with fail
  refine (HK.out _).mono ?_
  rintro e w7 ⟨rfl, hB7⟩
  have HB7 := Lib.hid hB7
  clear hB7 a0 a1 a2 p0
  go_wp2_with fail
  go_ret
  exact ⟨rfl, HB7.out.alloc HB7.out.size _⟩
set_option maxRecDepth 100000 in
set_option maxHeartbeats 6400000 in
theorem find_pair (Wb Qb : Nat) (gv lv mv vv : Value) (st0 : Int) (lo : Nat) (nx vs : List (List Int)) (gs : List Rl) (k a b t q : Nat) (c z1 z2 : Int) (hk : k < gs.length) (h0 : gs[k].L.size = 0) (ha : gs[k].l = a) (hb : gs[k].r = b) (hak : a < k) (hbk : b < k) (ht : t < 24) (hvl : vs.length = gs.length) (hq24 : at2 (mapsK nx gs gs.length) a t = (q : Int))
    (hc0 : 0 ≤ c) (hcb : c ≤ 1000000000000000) (hv0 : 0 ≤ at2 vs a t) (hv1 : at2 vs a t ≤ 1000000000000000) (la1 : (lens gs).getD a 0 ≤ 1000000000000000) (la0 : 0 ≤ (lens gs).getD a 0) (hz2 : at2 vs a t ≤ c → 0 ≤ z2 ∧ z2 ≤ 1000000000000000)
    (hA : c < at2 vs a t → FindC Wb Qb gv lv mv vv st0 lo nx vs gs a t c z1) (hB : at2 vs a t ≤ c → FindC Wb Qb gv lv mv vv st0 lo nx vs gs b q (c - at2 vs a t) z2) :
    FindC Wb Qb gv lv mv vv st0 lo nx vs gs k t c (if c < at2 vs a t then z1 else (lens gs).getD a 0 + z2) := by
  intro w hI
  have HI := Lib.hid hI
  obtain ⟨hB5, hqq, hr, hl, hm, hv⟩ := hI
  have HB5 := Lib.hid hB5
  obtain ⟨p0, p1, p2, p3, p4⟩ := b5_cells hB5
  obtain ⟨A1, c1, rfl, hr⟩ := hr
  rcases hr with hr | ⟨g, rfl, hg, hcc⟩
  · rw [hr] at hk; simp at hk
  obtain ⟨a0, a1, a2⟩ := rules_cells hcc hk
  have hlen := lens_len gs
  have hml := mapsK_len nx gs gs.length
  obtain ⟨A2, c2, rfl, h2⟩ := hl
  rcases h2 with h2 | ⟨g2, rfl, h2⟩
  · rw [h2] at hlen; simp at hlen; omega
  obtain ⟨A3, c3, rfl, h3⟩ := hm
  rcases h3 with h3 | ⟨g3, rfl, _, h3⟩
  · rw [h3] at hml; simp at hml; omega
  obtain ⟨A4, c4, rfl, h4⟩ := hv
  rcases h4 with h4 | ⟨g4, rfl, _, h4⟩
  · rw [h4] at hvl; simp at hvl; omega
  have ca := h2 a (by omega)
  rw [show (lens gs)[a]'(by omega) = (lens gs).getD a 0 from by rw [List.getD_eq_getElem?_getD, List.getElem?_eq_getElem (by omega)]; rfl] at ca
  have cm := h3 a t (by omega) ht
  have cv := h4 a t (by omega) ht
  rw [show ((mapsK nx gs gs.length).getD a []).getD t 0 = at2 (mapsK nx gs gs.length) a t from rfl, hq24] at cm
  rw [show (vs.getD a []).getD t 0 = at2 vs a t from rfl] at cv
  have HK := Lib.hid (fun W => kind_pair gs[k] h0 W)
  have HT := tm_pp
  rw [empty_arr h0] at a0
  rw [ha] at a1
  rw [hb] at a2
  have hag : agg3 gs[k] = .agg #[.string ⟨#[]⟩, .int .i64 (a : Int), .int .i64 (b : Int)] := by
    unfold agg3
    rw [empty_arr h0, ha, hb]
  rw [hag] at HK
  obtain ⟨Z, hZ⟩ : ∃ Z, Z = (if c < at2 vs a t then z1 else (lens gs).getD a 0 + z2) := ⟨_, rfl⟩
  rw [← hZ]
  have HZ := Lib.hid hZ
  clear hZ
  have HA := Lib.hid hA
  have HBc := Lib.hid hB
  have k0 : (0 : Int) ≤ (k : Int) := by omega
  have k1 : (k : Int) < (gs.length : Int) := by omega
  have a0' : (0 : Int) ≤ (a : Int) := by omega
  have a1' : (a : Int) < (gs.length : Int) := by omega
  have t0 : (0 : Int) ≤ (t : Int) := by omega
  have t1 : (t : Int) < 24 := by omega
  have hsub : IntKind.i64.wrap (c - at2 vs a t) = c - at2 vs a t := IntWalk.i64_in _ (by omega)
  have hsum : at2 vs a t ≤ c → IntKind.i64.wrap ((lens gs).getD a 0 + z2) = (lens gs).getD a 0 + z2 := fun h => IntWalk.i64_in _ (by have := hz2 h; omega)
  have HSUM := Lib.hid hsum
  have a2' : (a : Int) < ((lens gs).length : Int) := by omega
  have a3' : (a : Int) < ((mapsK nx gs gs.length).length : Int) := by omega
  have a4' : (a : Int) < (vs.length : Int) := by omega
  have lqq := lt_of_cell hqq
  have lb := hB5.lt
  have lca := lt_of_cell ca
  have lcm := lt_of_cell cm
  have HCA := Lib.hid ca
  clear h0 ha hb hag hcc h2 h3 h4 hA hB hz2 la1 la0 hv1 hv0 hc0 hcb hsum hB5 hvl hlen hml
  go_enter Try.func157, Try.ntmps157
  go_wp2_with fail
  refine (HK.out _).mono ?_
  rintro e w7 ⟨rfl, hB7⟩
  have hbk := hB7.alloc hB7.size (.cells #[.string ⟨#[]⟩, .int .i64 (a : Int), .int .i64 (b : Int)] 198)
  have kcs := heap_alloc_new w7 (.cells #[.string ⟨#[]⟩, .int .i64 (a : Int), .int .i64 (b : Int)] 198)
  have hKl : w7.heap.size < (w7.alloc (.cells #[.string ⟨#[]⟩, .int .i64 (a : Int), .int .i64 (b : Int)] 198)).heap.size := by simp
  clear hB7 a0 a1 a2 p0 p1 p2 p3 p4
  go_upto_region 4 with fail
  obtain ⟨Kp, hKp⟩ : ∃ Kp, Kp = w7.heap.size := ⟨_, rfl⟩
  rw [← hKp] at kcs hKl ⊢
  generalize w7.alloc (.cells #[.string ⟨#[]⟩, .int .i64 (a : Int), .int .i64 (b : Int)] 198) = wk at *
  have HBK := Lib.hid hbk
  have HIK := Lib.hid (HI.out.kept hbk)
  have HH := Lib.hid (fun W (h : Below wk.heap.size wk W) => And.intro (b5_cells ((HB5.out.kept hbk).kept h)) (And.intro (rule3_cellsV ((h.block Kp hKl).trans kcs)) (And.intro ((h.cell (lt_of_cell ((hbk.cell lqq).trans hqq))).trans ((hbk.cell lqq).trans hqq)) (And.intro ((h.cell (lt_of_cell ((hbk.cell lca).trans ca))).trans ((hbk.cell lca).trans ca)) (And.intro ((h.cell (lt_of_cell ((hbk.cell lcm).trans cm))).trans ((hbk.cell lcm).trans cm)) ((h.cell (lt_of_cell ((hbk.cell (lt_of_cell cv)).trans cv))).trans ((hbk.cell (lt_of_cell cv)).trans cv)))))))
  clear hKp kcs hbk hqq ca cm cv lqq lb lca lcm hg
  obtain ⟨⟨p0, p1, p2, p3, p4⟩, ⟨r0, r1, r2⟩, qv, cl, cm, cv⟩ := HH.out wk (Below.refl _ _)
  generalize at2 vs a t = V at *
  generalize (lens gs).getD a 0 = la at *
  by_cases hcV : c < V
  · have HE : Hid (Z = z1) := Lib.hid (by rw [HZ.out, if_pos hcV])
    have hd : decide (c < V) = true := decide_eq_true hcV
    have HA2 := Lib.hid (HA.out hcV)
    clear hcV HA HBc
    have qv := qv
    go_wp2_with fail
    refine (HA2.out _ HIK.out).mono ?_
    rintro e w9 ⟨rfl, hB9⟩
    have HB9 := Lib.hid (HBK.out.trans (hB9.mono HBK.out.size))
    clear hB9
    go_wp2_with fail
    go_ret
    exact ⟨by rw [HE.out]; rfl, HB9.out⟩
  · have HE : Hid (Z = la + z2) := Lib.hid (by rw [HZ.out, if_neg hcV])
    have hd : decide (c < V) = false := decide_eq_false hcV
    have HB2 := Lib.hid (HBc.out (by omega))
    have hsum := HSUM.out (by omega)
    have HB3 := Lib.hid (fun m => HB2.out (wk.drewN m) (HIK.out.kept (below_drewN (Below.refl _ wk) m)))
    clear hcV HA HBc HB2
    have qv := qv
    go_upto_region 7 with fail
    have HC := Lib.hid (And.intro p1 (And.intro p2 (And.intro r1 (And.intro r2 (And.intro qv (And.intro cl cm))))))
    have HH2 := Lib.hid (fun W (h : Below wk.heap.size wk W) => And.intro (HH.out W h).1.2.1 (And.intro (HH.out W h).1.2.2.1 (And.intro (HH.out W h).2.1.2.1 (And.intro (HH.out W h).2.1.2.2 (And.intro (HH.out W h).2.2.1 (And.intro (HH.out W h).2.2.2.1 (HH.out W h).2.2.2.2.1))))))
    go_region_held3 (fun w' => w'.cell? ⟨Wb, 1, none⟩ = some (.slice (some g2) (lens gs).length c2) ∧ w'.cell? ⟨Wb, 2, none⟩ = some (.slice (some ⟨g3, 0, none⟩) (mapsK nx gs gs.length).length c3) ∧ w'.cell? ⟨Kp, 1, none⟩ = some (.int .i64 (a : Int)) ∧ w'.cell? ⟨Kp, 2, none⟩ = some (.int .i64 (b : Int)) ∧ w'.cell? ⟨Qb, 0, none⟩ = some (findV Wb Qb) ∧ w'.cell? (g2.add a) = some (.int .i64 la) ∧ w'.cell? ⟨g3, a * 24 + t, none⟩ = some (.int .i64 (q : Int)))
      (first | (with_reducible exact HC.out) | (with_reducible exact HC9.out) | exact HC.out | exact HC9.out | go_keep)
      (first
        | (go_at_call_of 157 (Value.int .i64 (b : Int))
           refine (HB3.out _).mono ?_
           rintro e w9 ⟨rfl, hB9⟩
           have hB9 : Below wk.heap.size wk w9 := below_undrew hB9
           have HC9 := Lib.hid (HH2.out w9 hB9)
           have HB9 := Lib.hid (HBK.out.trans (hB9.mono HBK.out.size))
           clear hB9))
    all_goals
      go_wp2_with fail
      go_ret
      exact ⟨by rw [HE.out]; rfl, HB9.out⟩
theorem find_any (Wb Qb : Nat) (gv lv mv vv : Value) (st0 : Int) (lo : Nat) (wa : Int → Bool) (nx : List (List Int)) (gs : List Rl) (st : Int) (h1 : 1 ≤ st) (h24 : st ≤ 24) (hrow : nx.all (rowOk st) = true) (hlen : (nx.length : Int) = st) (hok : gOk gs = true) : ∀ m k s (c : Int), k < m → k < gs.length → s < 24 → 0 ≤ c → c < at2 (visK wa nx gs gs.length) k s →
    FindC Wb Qb gv lv mv vv st0 lo nx (visK wa nx gs gs.length) gs k (s : Nat) c (fndF wa nx gs (k + 1) k s c)
  | 0, k, s, c, hm, _, _, _, _ => by omega
  | m + 1, k, s, c, hm, hk, hs, hc0, hc => by
    have hfit := (gOk_iff.1 hok).2.1
    rcases rule_cases hfit hk with hz | ⟨hz, a, b, ha, hb, hak, hbk⟩
    · rw [fnd_letter wa nx hk hz]
      exact find_letter Wb Qb gv lv mv vv st0 lo nx _ gs k s c hk hz
    · have hmb := map_lt hrow hlen h1 h24 hfit (show a < gs.length by omega) hs
      have va := vis_fir wa hrow hlen h1 h24 hfit (a + 1) a s (by omega) (by omega) hs
      have ba := fnd_bd wa hrow hlen h1 h24 hfit (a + 1) a s c (by omega) (by omega) hs
      have bb := fnd_bd wa hrow hlen h1 h24 hfit (b + 1) b (at2 (mapsK nx gs gs.length) a s).toNat (c - at2 (visK wa nx gs gs.length) a s) (by omega) (by omega) hmb
      have bk := fnd_bd wa hrow hlen h1 h24 hfit (k + 1) k s c (by omega) hk hs
      have sa := small_at (gOk_iff.1 hok).2.2 a (by omega)
      have sb := small_at (gOk_iff.1 hok).2.2 b (by omega)
      have sk := small_at (gOk_iff.1 hok).2.2 k hk
      have la := lens_pos (gs := gs) (k := a) (by omega) (fun j hj _ => fits_at hfit j hj)
      have hma := (mapsK_ok hrow hlen h1 h24 hfit gs.length (Nat.le_refl _) a (by omega))
      have hq0 : 0 ≤ at2 (mapsK nx gs gs.length) a s := by
        unfold at2
        rw [List.getD_eq_getElem?_getD (i := s), List.getElem?_eq_getElem (by rw [hma.1]; omega), Option.getD_some]
        exact (hma.2 _ (List.getElem_mem _)).1
      have hvp := vis_pair wa nx hk hz ha hb hak hbk hs
      have hcb : c ≤ 1000000000000000 := by have := bk.1; omega
      rw [hvp] at hc
      rw [fnd_pair wa nx hk hz ha hb, fnd_stable wa nx hfit k (a + 1) a s c (by omega) (by omega) (by omega), fnd_stable wa nx hfit k (b + 1) b _ _ (by omega) (by omega) (by omega)]
      obtain ⟨q, hq⟩ : ∃ q : Nat, at2 (mapsK nx gs gs.length) a s = q := ⟨(at2 (mapsK nx gs gs.length) a s).toNat, by omega⟩
      rw [hq, Int.toNat_natCast] at hc hmb bb ⊢
      exact find_pair Wb Qb gv lv mv vv st0 lo nx _ gs k a b s q c _ _ hk hz ha hb hak hbk hs (visK_len wa nx gs _) hq hc0 hcb va.1 (by omega) sa (by omega)
        (fun h => by have := bb.2 (by omega) (by omega); omega)
        (fun h => find_any Wb Qb gv lv mv vv st0 lo wa nx gs st h1 h24 hrow hlen hok m a s c (by omega) (by omega) hs hc0 h)
        (fun h => find_any Wb Qb gv lv mv vv st0 lo wa nx gs st h1 h24 hrow hlen hok m b q (c - at2 (visK wa nx gs gs.length) a s) (by omega) (by omega) hmb (by omega) (by omega))
set_option maxRecDepth 100000 in
set_option maxHeartbeats 3200000 in
theorem visit_any (sv gv : Value) (gs : List Rl) (wa : Int → Bool) (nx : List (List Int)) (st s c : Int) (lo : Nat) (w : World) (h1 : 1 ≤ st) (h24 : st ≤ 24) (hrow : nx.all (rowOk st) = true) (hlen : (nx.length : Int) = st) (hok : gOk gs = true) (hr : Rules w gv gs) (hW : IsS w lo sv gv gs nx (visK wa nx gs gs.length) s) (hs : 0 ≤ s ∧ s < 24) (hg0 : 0 < gs.length) (hc0 : 0 ≤ c) (hc : c < allV (visK wa nx gs gs.length) gs s) :
    Calls Try.prog 91 #[sv, .int .i64 c] w fun e w' => e = .returned (.int .i64 (fndF wa nx gs gs.length (gs.length - 1) s.toNat c)) ∧ Below w.heap.size w w' := by
  have hmf : ∀ (fn : Fn) (first cap : Array Value) (w : World), (Instr.makeFunc fn first cap).run Try.prog w = .ok (.func fn first cap) w := fun _ _ _ _ => rfl
  obtain ⟨lv, mv, vv, rfl, h2, h3, h4⟩ := hW
  have hn400 := gOk_len hok
  have hfit := (gOk_iff.1 hok).2.1
  have hb : Below w.heap.size w ((w.alloc (.cells #[gv, lv, mv, .int .i64 s, vv] 116)).alloc (.cells #[findV w.heap.size (w.heap.size + 1)] 202)) := ((Below.refl _ w).alloc (Nat.le_refl _) _).alloc (by simp) _
  have hP : B5 ((w.alloc (.cells #[gv, lv, mv, .int .i64 s, vv] 116)).alloc (.cells #[findV w.heap.size (w.heap.size + 1)] 202)) w.heap.size gv lv mv (.int .i64 s) vv 116 := B5.kept (heap_alloc_new w _) ((Below.refl _ _).alloc (Nat.le_refl _) _)
  have hQ := heap_alloc_new (w.alloc (.cells #[gv, lv, mv, .int .i64 s, vv] 116)) (.cells #[findV w.heap.size (w.heap.size + 1)] 202)
  rw [show (w.alloc (.cells #[gv, lv, mv, .int .i64 s, vv] 116)).heap.size = w.heap.size + 1 from by simp] at hQ
  have hq := cell_of_row _ _ 0 _ _ _ hQ
  have hk : ((gs.length : Int) - 1) = ((gs.length - 1 : Nat) : Int) := by omega
  have hst : ((s.toNat : Nat) : Int) = s := by omega
  have HLD : Hid (∀ W, Below ((w.alloc (.cells #[gv, lv, mv, .int .i64 s, vv] 116)).alloc (.cells #[findV w.heap.size (w.heap.size + 1)] 202)).heap.size ((w.alloc (.cells #[gv, lv, mv, .int .i64 s, vv] 116)).alloc (.cells #[findV w.heap.size (w.heap.size + 1)] 202)) W → Calls Try.prog 157 #[.int .i64 ((gs.length : Int) - 1), .int .i64 s, .int .i64 c, .pointer (some ⟨w.heap.size, 0, none⟩), .pointer (some ⟨w.heap.size + 1, 0, none⟩)] W fun e w' => e = .returned (.int .i64 (fndF wa nx gs gs.length (gs.length - 1) s.toNat c)) ∧ Below W.heap.size W w') := Lib.hid (fun W hW => by
    unfold allV at hc
    rw [if_neg (by omega)] at hc
    have := find_any w.heap.size (w.heap.size + 1) gv lv mv vv s lo wa nx gs st h1 h24 hrow hlen hok gs.length (gs.length - 1) s.toNat c (by omega) (by omega) (by omega) hc0 hc W ⟨hP.kept hW, (hW.cell (lt_of_cell hq)).trans hq, (hr.kept hb).kept hW, ((IsL.of_own h2).kept hb).kept hW, (h3.kept hb).kept hW, (h4.kept hb).kept hW⟩
    rw [hk]
    rw [hst, show gs.length - 1 + 1 = gs.length by omega] at this
    exact this)
  have HB := Lib.hid hb
  obtain ⟨p0, p1, p2, p3, p4⟩ := b5_cells hP
  obtain ⟨Ag, cg, rfl, hRx⟩ := hr
  obtain ⟨A2, c2, rfl⟩ := own_slice h2
  obtain ⟨A3, c3, rfl, h3x⟩ := h3
  obtain ⟨A4, c4, rfl, h4x⟩ := h4
  have HLO := Lib.hid (fun W => lastOf_any Ag gs.length cg hn400 W)
  generalize fndF wa nx gs gs.length (gs.length - 1) s.toNat c = z at *
  clear hok hs hrow hlen hn400 hfit hRx h3x h4x h2 hP hQ hc hc0 hg0 hk hst
  go_enter Try.func91, Try.ntmps91
  go_upto_region 3 with fail
  have hq : ((w.alloc (.cells #[.slice Ag gs.length cg, .slice A2 (lens gs).length c2, .slice A3 (mapsK nx gs gs.length).length c3, .int .i64 s, .slice A4 (visK wa nx gs gs.length).length c4] 116)).alloc (.cells #[findV w.heap.size (w.heap.size + 1)] 202)).cell? ⟨w.heap.size + 1, 0, none⟩ = some (findV w.heap.size (w.heap.size + 1)) := hq
  generalize (w.alloc (.cells #[.slice Ag gs.length cg, .slice A2 (lens gs).length c2, .slice A3 (mapsK nx gs gs.length).length c3, .int .i64 s, .slice A4 (visK wa nx gs gs.length).length c4] 116)).alloc (.cells #[findV w.heap.size (w.heap.size + 1)] 202) = w2 at *
  have HLE := Lib.hid (fun m => HLD.out (w2.drewN m) (below_drewN (Below.refl _ w2) m))
  clear hb HLD
  have HQ := Lib.hid hq
  have HS := Lib.hid (And.intro hq (And.intro p0 p3))
  have HP0 := Lib.hid p0
  have HP3 := Lib.hid p3
  go_region_held3 (fun w' => w'.cell? ⟨w.heap.size + 1, 0, none⟩ = some (findV w.heap.size (w.heap.size + 1)) ∧ w'.cell? ⟨w.heap.size, 0, none⟩ = some (.slice Ag gs.length cg) ∧ w'.cell? ⟨w.heap.size, 3, none⟩ = some (.int .i64 s))
    (first | (with_reducible exact HS.out) | (with_reducible exact HS9.out) | exact HS.out | exact HS9.out)
    (first
      | (go_at_call 135
         refine (HLO.out _).mono ?_
         rintro e w8 ⟨rfl, rfl⟩)
      | (go_at_call 157
         refine (HLE.out _).mono ?_
         rintro e w9 ⟨rfl, hB9⟩
         have hB9 : Below w2.heap.size w2 w9 := below_undrew hB9
         have HS9 := Lib.hid (And.intro ((hB9.cell (lt_of_cell HQ.out)).trans HQ.out) (And.intro ((hB9.cell (lt_of_cell HP0.out)).trans HP0.out) ((hB9.cell (lt_of_cell HP3.out)).trans HP3.out)))
         have HB9 := Lib.hid (HB.out.trans (hB9.mono HB.out.size))
         clear hB9))
  all_goals
    go_wp2_with fail
    go_ret
    exact ⟨rfl, HB9.out⟩
end Go.Proofs.Ytaffachjopjbgaa
namespace Go.Proofs.Ytaffachjopjbgaa
open Go.RowKit
open Wd
set_option linter.unusedVariables false
theorem visR_len (wa : Int → Bool) (ms vs : List (List Int)) (x : Rl) (m : List Int) : (visR wa ms vs x m).length = 24 := by simp [visR]
theorem visK_wide (wa : Int → Bool) (nx : List (List Int)) (gs : List Rl) : ∀ k, wide (visK wa nx gs k)
  | 0 => by intro r hr; cases hr
  | k + 1 => by
    intro r hr
    rw [visK] at hr
    rcases List.mem_append.1 hr with hr | hr
    · exact visK_wide wa nx gs k r hr
    · rw [List.mem_singleton] at hr
      rw [hr, visR_len]
/-- a row of which the first s cells are written -/
def rowS (row : List Int) (s : Nat) : List Int := row.take s ++ List.replicate (24 - s) 0
theorem rowS_len {row : List Int} {s : Nat} (h : row.length = 24) (hs : s ≤ 24) : (rowS row s).length = 24 := by
  unfold rowS; rw [List.length_append, List.length_take, List.length_replicate, h]; omega
theorem rowS_all {row : List Int} (h : row.length = 24) : rowS row 24 = row := by
  unfold rowS; rw [List.take_of_length_le (by omega)]; simp
theorem rowS_set {row : List Int} {s : Nat} (h : row.length = 24) (hs : s < 24) : (rowS row s).set s (row[s]'(by omega)) = rowS row (s + 1) := by
  unfold rowS
  apply List.ext_getElem?
  intro i
  rw [List.getElem?_set]
  have hl : (row.take s).length = s := by rw [List.length_take]; omega
  have hl2 : (row.take (s + 1)).length = s + 1 := by rw [List.length_take]; omega
  by_cases hi : s = i
  · subst hi
    rw [if_pos rfl, if_pos (by rw [List.length_append, hl, List.length_replicate]; omega), List.getElem?_append_left (by omega), List.getElem?_take, if_pos (by omega), List.getElem?_eq_getElem]
  · rw [if_neg hi]
    by_cases hlt : i < s
    · rw [List.getElem?_append_left (by omega), List.getElem?_append_left (by omega), List.getElem?_take, List.getElem?_take, if_pos hlt, if_pos (by omega)]
    · rw [List.getElem?_append_right (by omega), List.getElem?_append_right (by omega), hl, hl2, List.getElem?_replicate, List.getElem?_replicate]
      by_cases h24 : i < 24
      · rw [if_pos (by omega), if_pos (by omega)]
      · rw [if_neg (by omega), if_neg (by omega)]
/-- the whole table, flat: the rows before, the row under way, zeros -/
def flS (ms : List (List Int)) (row : List Int) (s n : Nat) : List Int := flK (ms ++ [rowS row s]) n
theorem flS_zero {ms : List (List Int)} {row : List Int} {n : Nat} (hn : ms.length < n) : flS ms row 0 n = flK ms n := by
  unfold flS flK rowS
  have e : (n - ms.length) * 24 = 24 + (n - (ms.length + 1)) * 24 := by omega
  rw [List.flatten_append, List.length_append]
  simp only [List.take_zero, List.nil_append, List.flatten_cons, List.flatten_nil, List.append_nil, List.length_cons, List.length_nil, Nat.sub_zero, Nat.zero_add]
  rw [e, ← List.replicate_append_replicate, List.append_assoc]
theorem flS_all {ms : List (List Int)} {row : List Int} {n : Nat} (hr : row.length = 24) : flS ms row 24 n = flK (ms ++ [row]) n := by
  unfold flS; rw [rowS_all hr]
theorem flS_set {ms : List (List Int)} {row : List Int} {s n : Nat} (hw : wide ms) (hr : row.length = 24) (hs : s < 24) : (flS ms row s n).set (ms.length * 24 + s) (row[s]'(by omega)) = flS ms row (s + 1) n := by
  unfold flS flK
  rw [List.flatten_append, List.flatten_append]
  simp only [List.flatten_cons, List.flatten_nil, List.append_nil, List.length_append, List.length_cons, List.length_nil]
  have hl := flat_len ms hw
  rw [List.append_assoc, List.append_assoc, List.set_append_right _ _ (by omega), hl, Nat.add_sub_cancel_left, List.set_append_left _ _ (by rw [rowS_len hr (by omega)]; exact hs), rowS_set hr hs]
/-- a cell of an earlier row -/
theorem flS_get {ms : List (List Int)} {row : List Int} {s n j i : Nat} (hw : wide ms) (hj : j < ms.length) (hi : i < 24) : (flS ms row s n)[j * 24 + i]? = some (at2 ms j i) := by
  have hl := flat_len ms hw
  unfold flS flK
  rw [List.flatten_append, List.append_assoc, List.getElem?_append_left (by omega)]
  exact flat_get ms hw j i hj hi
theorem flS_len {ms : List (List Int)} {row : List Int} {s n : Nat} (hw : wide ms) (hr : row.length = 24) (hs : s ≤ 24) (hn : ms.length < n) : (flS ms row s n).length = n * 24 := by
  unfold flS
  refine flK_len _ n (fun r hr2 => ?_) (by rw [List.length_append]; simp; omega)
  rcases List.mem_append.1 hr2 with h | h
  · exact hw r h
  · rw [List.mem_singleton] at h; rw [h, rowS_len hr hs]
theorem take_set_drop {α : Type} (l : List α) (o : Nat) (v : α) (h : o < l.length) : l.take o ++ [v] ++ l.drop (o + 1) = l.set o v := by
  rw [List.set_eq_take_append_cons_drop, if_pos h, List.append_assoc]
  rfl
theorem iv_set (l : List Int) (o : Nat) (z : Int) : (iv l).set o (.int .i64 z) = iv (l.set o z) := by unfold iv; rw [List.map_set]
/-- the row while one more cell is written -/
theorem flS_store {w : World} {M n e s : Nat} {ms : List (List Int)} {row : List Int} (h : w.ownsRow M e 24 (.slice (some ⟨M, 0, none⟩) n n) n (iv (flS ms row s n))) (hw : wide ms) (hr : row.length = 24) (hs : s < 24) (hn : ms.length < n) :
    (w.setCell ⟨M, ms.length * 24 + s, none⟩ (.int .i64 (row[s]'(by omega)))).ownsRow M e 24 (.slice (some ⟨M, 0, none⟩) n n) n (iv (flS ms row (s + 1) n)) := by
  have hl := flS_len (s := s) (n := n) hw hr (by omega) hn
  have h1 := own_setCells [.int .i64 (row[s]'(by omega))] (ms.length * 24 + s) w _ h (by rw [iv_len, hl]; simp; omega)
  simp only [List.length_cons, List.length_nil, Nat.zero_add] at h1
  rw [take_set_drop _ _ _ (by rw [iv_len, hl]; omega), iv_set, flS_set hw hr hs] at h1
  exact h1
end Go.Proofs.Ytaffachjopjbgaa
namespace Go.Proofs.Ytaffachjopjbgaa
open Go.RowKit
open Wd
set_option linter.unusedVariables false
theorem Try.info_tally : (Try.prog.info? 201).map (fun i => (i.zero, i.size, i.bytes)) = some (some (.agg (iv (List.replicate 24 0)).toArray), 24, 192) := by kernel_rfl
theorem set_apart (w : World) (M o o' : Nat) (v : Value) (h : o' ≠ o) : (w.setCell ⟨M, o, none⟩ v).cell? ⟨M, o', none⟩ = w.cell? ⟨M, o', none⟩ := by
  unfold World.setCell World.cell?
  simp only [Array.getElem?_modify, if_true]
  cases hh : w.heap[M]? with
  | none => rfl
  | some x =>
    cases x <;> simp [Ne.symm h]
theorem rowS_skip {row : List Int} {s : Nat} (h : row.length = 24) (hs : s < 24) (hz : row[s]'(by omega) = 0) : rowS row (s + 1) = rowS row s := by
  rw [← rowS_set h hs, hz]
  apply List.ext_getElem?
  intro i
  rw [List.getElem?_set]
  by_cases hi : s = i
  · subst hi
    rw [if_pos rfl, if_pos (by rw [rowS_len h (by omega)]; exact hs)]
    unfold rowS
    rw [List.getElem?_append_right (by rw [List.length_take]; omega), List.getElem?_replicate, if_pos (by rw [List.length_take]; omega)]
  · rw [if_neg hi]
theorem b5_all {w : World} {R : Nat} {t : TypeId} {a b c d e a' b' c' d' e' : Value} (h : B5 w R a b c d e t) : B5 (((((w.setCell ⟨R, 0, none⟩ a').setCell ⟨R, 1, none⟩ b').setCell ⟨R, 2, none⟩ c').setCell ⟨R, 3, none⟩ d').setCell ⟨R, 4, none⟩ e') R a' b' c' d' e' t := by
  unfold B5 at h ⊢
  simp [World.setCell, Array.getElem?_modify, h]
theorem b5_frozen {w : World} {R o : Nat} {t : TypeId} {a b c d e : Value} (h : B5 w R a b c d e t) : w.frozen? ⟨R, o, none⟩ = false := by unfold B5 at h; simp [World.frozen?, h]
/-- between two rules -/
def SfRel (wa : Int → Bool) (nx : List (List Int)) (gs : List Rl) (w : World) (M n : Nat) (i : Value) (wr : World) : Prop :=
  ∃ k : Nat, k ≤ n ∧ i = .int .i64 k ∧ wr.ownsRow M 201 24 (.slice (some ⟨M, 0, none⟩) n n) n (iv (flK (visK wa nx gs k) n)) ∧ Below M w wr
set_option maxRecDepth 100000 in
set_option maxHeartbeats 12800000 in
theorem searchFor_any (wv gv : Value) (gs : List Rl) (nx : List (List Int)) (st go : Int) (lo P : Nat) (wa : Int → Bool) (w : World) (h1 : 1 ≤ st) (h24 : st ≤ 24) (hrow : nx.all (rowOk st) = true) (hlen : (nx.length : Int) = st) (hok : gOk gs = true) (hr : Rules w gv gs) (hW : IsW w lo wv gv gs nx go) (hwd : ∀ (W : World) (z : Int), Below w.heap.size w W → Calls Try.prog 161 #[.int .i64 z, .pointer (some ⟨P, 0, none⟩)] W fun e w' => e = .returned (.bool (wa z)) ∧ w' = W) :
    Calls Try.prog 88 #[wv, .func (.func 161) #[] #[.pointer (some ⟨P, 0, none⟩)]] w fun e w' => ∃ sv, e = .returned sv ∧ IsS w' 0 sv gv gs nx (visK wa nx gs gs.length) go ∧ Below w.heap.size w w' := by
  obtain ⟨i0, hi, hz0, hz1, hz2⟩ := info_parts Try.info_tally
  obtain ⟨lv, mv, rfl, h2, h3⟩ := hW
  have hn400 := gOk_len hok
  have hfit := (gOk_iff.1 hok).2.1
  have H2 := Lib.hid h2
  have H3 := Lib.hid h3
  have HR := Lib.hid hr
  have HP := Lib.hid hwd
  have HROW := Lib.hid hrow
  have HLEN := Lib.hid hlen
  have HFIT := Lib.hid hfit
  have HSM := Lib.hid (fun j (hj : j < gs.length) => small_at (gOk_iff.1 hok).2.2 j hj)
  obtain ⟨Ag, cg, rfl, hrx⟩ := hr
  obtain ⟨A2, c2, rfl⟩ := own_slice h2
  obtain ⟨A3, c3, rfl, h3x⟩ := h3
  have hb : Below w.heap.size w ((w.alloc (.cells #[.slice Ag gs.length cg, .slice A2 (lens gs).length c2, .slice A3 (mapsK nx gs gs.length).length c3, .int .i64 go] 110)).alloc (.cells #[.slice none 0 0, .slice none 0 0, .slice none 0 0, .int .i64 0, .slice none 0 0] 116)) := ((Below.refl _ w).alloc (Nat.le_refl _) _).alloc (by simp) _
  have hWb : B4 ((w.alloc (.cells #[.slice Ag gs.length cg, .slice A2 (lens gs).length c2, .slice A3 (mapsK nx gs gs.length).length c3, .int .i64 go] 110)).alloc (.cells #[.slice none 0 0, .slice none 0 0, .slice none 0 0, .int .i64 0, .slice none 0 0] 116)) w.heap.size (.slice Ag gs.length cg) (.slice A2 (lens gs).length c2) (.slice A3 (mapsK nx gs gs.length).length c3) (.int .i64 go) 110 := (B4.new w _ _ _ _ _).alloc _
  have HB := Lib.hid hb
  have HWB := Lib.hid hWb
  have hSb : B5 ((w.alloc (.cells #[.slice Ag gs.length cg, .slice A2 (lens gs).length c2, .slice A3 (mapsK nx gs gs.length).length c3, .int .i64 go] 110)).alloc (.cells #[.slice none 0 0, .slice none 0 0, .slice none 0 0, .int .i64 0, .slice none 0 0] 116)) (w.heap.size + 1) (.slice none 0 0) (.slice none 0 0) (.slice none 0 0) (.int .i64 0) (.slice none 0 0) 116 := by
    have := heap_alloc_new (w.alloc (.cells #[.slice Ag gs.length cg, .slice A2 (lens gs).length c2, .slice A3 (mapsK nx gs gs.length).length c3, .int .i64 go] 110)) (.cells #[.slice none 0 0, .slice none 0 0, .slice none 0 0, .int .i64 0, .slice none 0 0] 116)
    rwa [show (w.alloc (.cells #[.slice Ag gs.length cg, .slice A2 (lens gs).length c2, .slice A3 (mapsK nx gs gs.length).length c3, .int .i64 go] 110)).heap.size = w.heap.size + 1 from by simp] at this
  have HSB := Lib.hid hSb
  clear hSb
  clear hb hWb hrx h3x h2 hrow hlen hfit hok hwd
  go_enter Try.func88, Try.ntmps88
  go_upto_region 1 with fail
  obtain ⟨⟨p0, p1, p2, p3⟩, _⟩ := blk4_cells HWB.out
  have HN0 : Hid (gs.length ≤ 400) := Lib.hid hn400
  obtain ⟨w5, hw5⟩ : ∃ w5, w5 = ((w.alloc (.cells #[.slice Ag gs.length cg, .slice A2 (lens gs).length c2, .slice A3 (mapsK nx gs gs.length).length c3, .int .i64 go] 110)).alloc (.cells #[.slice none 0 0, .slice none 0 0, .slice none 0 0, .int .i64 0, .slice none 0 0] 116)) := ⟨_, rfl⟩
  rw [← hw5] at HB HWB HSB p0 p1 p2 p3 ⊢
  clear hw5
  obtain ⟨n, hne⟩ : ∃ n, n = gs.length := ⟨_, rfl⟩
  rw [← hne] at p0 hn400
  have HN := Lib.hid hne
  clear hne
  go_wp2_with (refine wpList_make_full _ rfl _ _ 114 rfl w5.heap.size 201 i0 (.agg (iv (List.replicate 24 0)).toArray) 24 Try.underlying114 hi hz0 hz1 .i64 .i64 _ _ n rfl rfl rfl rfl (by rw [hz2]; omega) (by unfold maxLen; omega) (Nat.le_refl _) ?_)
  intro w6 hown hgr
  have hown : w6.ownsRow w5.heap.size 201 24 (.slice (some ⟨w5.heap.size, 0, none⟩) n n) n (iv (flK [] n)) := by rw [← made_map]; exact hown
  have hB6 := below_of_grown hgr
  obtain ⟨M, hM⟩ : ∃ M, M = w5.heap.size := ⟨_, rfl⟩
  rw [← hM] at hown hB6 ⊢
  have HST : Hid (SfRel wa nx gs w5 M n (.int .i64 0) w6) := Lib.hid ⟨0, Nat.zero_le _, rfl, hown, hB6⟩
  have HME := Lib.hid hM
  have HWB5 := Lib.hid (fun W (hb : Below w5.heap.size w5 W) => HWB.out.kept hb)
  obtain ⟨⟨y0, y1, y2, y3⟩, _⟩ := blk4_cells (HWB5.out w6 (by rw [← hM]; exact hB6))
  rw [← HN.out] at y0
  clear hown hgr hB6 hM p0 p1 p2 p3
  go_wp2_with fail
  clear y0 y1 y2 y3
  go_loopw [20] (fun i wr => SfRel wa nx gs w5 M n i wr) (fun i _ => n - (intOf i).toNat)
  case atStart => exact HST.out
  case round =>
    obtain ⟨k, hk, rfl, hown, hB⟩ := hrel
    obtain ⟨wo, rfl⟩ : ∃ wo : World, wo = wr := ⟨_, rfl⟩
    have hB' : Below w5.heap.size w5 wo := by rw [← HME.out]; exact hB
    have hBw := HB.out.trans (hB'.mono HB.out.size)
    obtain ⟨⟨p0, p1, p2, p3⟩, _⟩ := blk4_cells (HWB5.out wo hB')
    rw [← HN.out] at p0
    by_cases hkn : k < n
    · have hkg : k < gs.length := by rw [← HN.out]; exact hkn
      obtain ⟨Ay, cy, hvy, hcy⟩ := HR.out.kept hBw
      injection hvy with hvA _ hvc
      subst hvA hvc
      rcases hcy with hn0 | ⟨g, rfl, hg, hc⟩
      · rw [hn0] at hkg; simp at hkg
      obtain ⟨a0, a1, a2⟩ := rules_cells hc hkg
      have k0 : (0 : Int) ≤ (k : Int) := by omega
      have k1 : (k : Int) < (n : Int) := by omega
      have hM : M < wo.heap.size := (hown.lt M rfl).2
      have HOW := Lib.hid hown
      have HBO := Lib.hid hB
      clear hown hB hB' hBw hc hg
      obtain ⟨A3', c3', hv3, h3z | ⟨g3, hA3, _, h3c⟩⟩ := H3.out
      · have := mapsK_len nx gs gs.length; rw [h3z] at this; simp at this; omega
      injection hv3 with hv3 hv4 hv5
      clear hv4 hv5
      rw [← hv3] at hA3
      subst hA3
      have hmk := mapsK_ok HROW.out HLEN.out h1 h24 HFIT.out gs.length (Nat.le_refl _) k hkg
      have HRM := Lib.hid (fun W (hb : Below w.heap.size w W) => show W.rangeAt g3 (k * 24) (iv ((mapsK nx gs gs.length).getD k [])) from by
        intro i v hv
        have hi24 : i < 24 := by have := (List.getElem?_eq_some_iff.1 hv).1; rw [iv_len, hmk.1] at this; exact this
        rw [iv_get _ i (by rw [hmk.1]; omega)] at hv
        injection hv with hv
        subst hv
        have h5 := h3c k i (by rw [mapsK_len]; exact hkg) hi24
        rw [List.getD_eq_getElem?_getD (i := i), List.getElem?_eq_getElem (by rw [hmk.1]; omega)] at h5
        exact (hb.cell (lt_of_cell h5)).trans h5)
      have HMC := Lib.hid (fun W (hb : Below w.heap.size w W) j i (hj : j < gs.length) (hi : i < 24) => show W.cell? ⟨g3, j * 24 + i, none⟩ = some (.int .i64 (at2 (mapsK nx gs gs.length) j i)) from by
        have h5 := h3c j i (by rw [mapsK_len]; exact hj) hi
        exact (hb.cell (lt_of_cell h5)).trans h5)
      obtain ⟨m, hm⟩ : ∃ m, m = (mapsK nx gs gs.length).getD k [] := ⟨_, rfl⟩
      rw [← hm] at HRM hmk
      have HMM := Lib.hid hm
      have HMK := Lib.hid hmk
      have hmz : (Try.prog.info? 197).map (·.size) = some (iv m).length := by rw [size_map, iv_len, hmk.1]
      have HMZ := Lib.hid hmz
      have HBW := Lib.hid (HB.out.trans ((show Below w5.heap.size w5 wo by rw [← HME.out]; exact HBO.out).mono HB.out.size))
      have k2 : (k : Int) < ((mapsK nx gs gs.length).length : Int) := by rw [mapsK_len]; omega
      clear hv3 hm hmk hmz h3c
      obtain ⟨row, hrw⟩ : ∃ row, row = visR wa (mapsK nx gs k) (visK wa nx gs k) gs[k] ((mapsK nx gs (k + 1)).getD k []) := ⟨_, rfl⟩
      have hr24 : row.length = 24 := by rw [hrw, visR_len]
      have HNX : Hid (visK wa nx gs (k + 1) = visK wa nx gs k ++ [row]) := Lib.hid (by rw [visK, List.getD_eq_getElem?_getD (l := gs), List.getElem?_eq_getElem hkg, hrw]; rfl)
      have HRV : Hid (∀ s (hs : s < 24), row[s]'(by omega) = at2 (visK wa nx gs gs.length) k s) := Lib.hid (fun s hs => by
        rw [visK_at wa nx gs k s _ hkg]
        unfold at2
        rw [HNX.out, getD_snoc_eq _ _ _ _ (visK_len wa nx gs k).symm, List.getD_eq_getElem?_getD, List.getElem?_eq_getElem (by omega)]
        rfl)
      have HVW := Lib.hid (visK_wide wa nx gs k)
      have HVL := Lib.hid (visK_len wa nx gs k)
      have HR24 := Lib.hid hr24
      clear hrw
      by_cases h0 : gs[k].L.size = 0
      · have HK := Lib.hid (fun W => kind_pair gs[k] h0 W)
        have HT := tm_pp
        have hp := (ok_pair h0).1 (fits_at HFIT.out k hkg)
        obtain ⟨a, ha⟩ : ∃ a : Nat, gs[k].l = a := ⟨gs[k].l.toNat, by omega⟩
        obtain ⟨b, hb⟩ : ∃ b : Nat, gs[k].r = b := ⟨gs[k].r.toNat, by omega⟩
        have hak : a < k := by omega
        have hbk : b < k := by omega
        have HVP := Lib.hid (fun s (hs : s < 24) => vis_pair wa nx hkg h0 ha hb hak hbk hs)
        have hag : agg3 gs[k] = .agg #[.string ⟨#[]⟩, .int .i64 (a : Int), .int .i64 (b : Int)] := by
          unfold agg3
          rw [empty_arr h0, ha, hb]
        rw [hag] at HK
        rw [empty_arr h0] at a0
        rw [ha] at a1
        rw [hb] at a2
        clear hp hag ha hb h0
        go_wp2_with fail
        refine (HK.out _).mono ?_
        rintro e w7 ⟨rfl, hB7⟩
        have hb7 := ((Below.refl _ wo).alloc (Nat.le_refl _) (.cells #[.string ⟨#[]⟩, .int .i64 (a : Int), .int .i64 (b : Int)] 127)).trans (hB7.mono (by simp))
        have HB7 := Lib.hid hb7
        have q2 := (hb7.cell (lt_of_cell p2)).trans p2
        have HRM7 := Lib.hid (HRM.out w7 (HBW.out.trans (hb7.mono HBW.out.size)))
        clear hB7 hb7 a0 a1 a2 p0 p1 p2 p3
        go_wp2_with (first | (with_reducible refine wpList_load_mid rfl 197 _ rfl g3 (k * 24) rfl (iv m) _ HRM7.out und_map rfl HMZ.out ?_))
        have HOWs : Hid (w7.ownsRow M 201 24 (.slice (some ⟨M, 0, none⟩) n n) n (iv (flS (visK wa nx gs k) row 0 n))) := Lib.hid (by
          rw [flS_zero (by rw [HVL.out]; exact hkn)]
          exact own_below HOW.out HB7.out (Nat.le_refl _))
        have HB57 : Hid (Below M w5 w7) := Lib.hid (HBO.out.trans (HB7.out.mono (by omega)))
        clear q2
        go_loopw [32] (fun i wr => ∃ s : Nat, s ≤ 24 ∧ i = .int .i64 s ∧ wr.ownsRow M 201 24 (.slice (some ⟨M, 0, none⟩) n n) n (iv (flS (visK wa nx gs k) row s n)) ∧ Below M w5 wr) (fun i _ => 24 - (intOf i).toNat)
        case atStart => exact ⟨0, by omega, rfl, HOWs.out, HB57.out⟩
        case round =>
          obtain ⟨s, hs, rfl, hos, hBs⟩ := hrel
          obtain ⟨wu, rfl⟩ : ∃ wu : World, wu = wr := ⟨_, rfl⟩
          by_cases hs24 : s < 24
          · have hBs5 : Below w5.heap.size w5 wu := by rw [← HME.out]; exact hBs
            obtain ⟨⟨p0, p1, p2, p3⟩, _⟩ := blk4_cells (HWB5.out wu hBs5)
            have hBwu := HB.out.trans (hBs5.mono HB.out.size)
            have cq := HMC.out wu hBwu a s (by omega) hs24
            have hqb := map_lt HROW.out HLEN.out h1 h24 HFIT.out (k := a) (s := s) (by omega) hs24
            have hma := (mapsK_ok HROW.out HLEN.out h1 h24 HFIT.out gs.length (Nat.le_refl _) a (by omega))
            have hq0 : 0 ≤ at2 (mapsK nx gs gs.length) a s := by
              unfold at2
              rw [List.getD_eq_getElem?_getD (i := s), List.getElem?_eq_getElem (by rw [hma.1]; omega), Option.getD_some]
              exact (hma.2 _ (List.getElem_mem _)).1
            have hvp := HVP.out s hs24
            have va := vis_fir wa HROW.out HLEN.out h1 h24 HFIT.out (a + 1) a s (by omega) (by omega) hs24
            have vb := vis_fir wa HROW.out HLEN.out h1 h24 HFIT.out (b + 1) b (at2 (mapsK nx gs gs.length) a s).toNat (by omega) (by omega) hqb
            have ba := (fnd_bd wa HROW.out HLEN.out h1 h24 HFIT.out (a + 1) a s 0 (by omega) (by omega) hs24).1
            have bb := (fnd_bd wa HROW.out HLEN.out h1 h24 HFIT.out (b + 1) b (at2 (mapsK nx gs gs.length) a s).toNat 0 (by omega) (by omega) hqb).1
            have sa := HSM.out a (by omega)
            have sb := HSM.out b (by omega)
            obtain ⟨q, hq⟩ : ∃ q : Nat, at2 (mapsK nx gs gs.length) a s = q := ⟨(at2 (mapsK nx gs gs.length) a s).toNat, by omega⟩
            rw [hq, Int.toNat_natCast] at hvp vb bb hqb
            rw [hq] at cq
            have hcell : ∀ j i, j < k → i < 24 → wu.cell? ⟨M, j * 24 + i, none⟩ = some (.int .i64 (at2 (visK wa nx gs gs.length) j i)) := fun j i hj hi => by
              have h5 := flS_get (row := row) (s := s) (n := n) HVW.out (by rw [HVL.out]; exact hj) hi
              have hl5 := flS_len (row := row) (s := s) (n := n) HVW.out hr24 (by omega) (by rw [HVL.out]; exact hkn)
              rw [World.ownsRow.cellAt hos (j * 24 + i) (by omega), iv_get _ _ (by rw [hl5]; omega)]
              rw [List.getElem?_eq_getElem (by rw [hl5]; omega)] at h5
              injection h5 with h5
              rw [h5, visK_at wa nx gs j i k hj, visK_at wa nx gs j i gs.length (by omega)]
            have ca := hcell a s hak hs24
            have cb := hcell b q hbk hqb
            have HSTO := Lib.hid (fun (hv : Nat) => flS_store (w := wu) hos HVW.out hr24 hs24 (by rw [HVL.out]; exact hkn))
            have hzr := HRV.out s hs24
            rw [hvp] at hzr
            have HOSS := Lib.hid hos
            have HBSS := Lib.hid hBs
            clear hos hBs hBs5 hBwu hcell hma hq0 hvp hq
            generalize at2 (visK wa nx gs gs.length) a s = V at *
            generalize at2 (visK wa nx gs gs.length) b q = V2 at *
            have hws : IntKind.i64.wrap (V + V2) = V + V2 := IntWalk.i64_in _ (by omega)
            have hix := index_map m HMK.out.1 s hs24
            unfold mv at hix
            have hMu : M < wu.heap.size := (HOSS.out.lt M rfl).2
            have hbk := (Below.refl _ wu).alloc (Nat.le_refl _) (.cells #[.string ⟨#[]⟩, .int .i64 (a : Int), .int .i64 (b : Int)] 198)
            have kcs := heap_alloc_new wu (.cells #[.string ⟨#[]⟩, .int .i64 (a : Int), .int .i64 (b : Int)] 198)
            obtain ⟨_, r1, r2⟩ := rule3_cellsV kcs
            have P2 := (hbk.cell (lt_of_cell p2)).trans p2
            have CA := (hbk.cell (p := ⟨M, a * 24 + s, none⟩) hMu).trans ca
            have CB := (hbk.cell (p := ⟨M, b * 24 + q, none⟩) hMu).trans cb
            have CQ := (hbk.cell (lt_of_cell cq)).trans cq
            have hgM : g3 < M := by rw [HME.out]; exact Nat.lt_of_lt_of_le (lt_of_cell (HMC.out w (Below.refl _ _) a s (by omega) hs24)) HB.out.size
            have hwM : w.heap.size < M := by rw [HME.out]; exact HWB.out.lt
            go_upto_region 11 with fail
            obtain ⟨Kp, hKp⟩ : ∃ Kp, Kp = wu.heap.size := ⟨_, rfl⟩
            rw [← hKp] at r1 r2 ⊢
            have HOK : Hid ((wu.alloc (.cells #[.string ⟨#[]⟩, .int .i64 (a : Int), .int .i64 (b : Int)] 198)).ownsRow M 201 24 (.slice (some ⟨M, 0, none⟩) n n) n (iv (flS (visK wa nx gs k) row s n))) := Lib.hid (own_below HOSS.out hbk (Nat.le_refl _))
            have HBK : Hid (Below M w5 (wu.alloc (.cells #[.string ⟨#[]⟩, .int .i64 (a : Int), .int .i64 (b : Int)] 198))) := Lib.hid (HBSS.out.trans (hbk.mono (by omega)))
            have hKM : M ≠ Kp := by omega
            have hKM2 : Kp ≠ M := by omega
            have hgM2 : g3 ≠ M := by omega
            have hwM2 : w.heap.size ≠ M := by omega
            clear hbk kcs p0 p1 p2 p3 ca cb cq hKp
            generalize wu.alloc (.cells #[.string ⟨#[]⟩, .int .i64 (a : Int), .int .i64 (b : Int)] 198) = wk at *
            have HNX2 : Hid ((wk.setCell ⟨M, k * 24 + s, none⟩ (.int .i64 (V + V2))).ownsRow M 201 24 (.slice (some ⟨M, 0, none⟩) n n) n (iv (flS (visK wa nx gs k) row (s + 1) n))) := Lib.hid (by
              have := flS_store (w := wk) HOK.out HVW.out hr24 hs24 (by rw [HVL.out]; exact hkn)
              rw [HVL.out, hzr] at this
              exact this)
            have HBX : Hid (Below M w5 (wk.setCell ⟨M, k * 24 + s, none⟩ (.int .i64 (V + V2)))) := Lib.hid (HBK.out.setCell (Nat.le_refl _) _)
            have e1 : a * 24 + s ≠ k * 24 + s := by omega
            have e2 : b * 24 + q ≠ k * 24 + s := by omega
            have hfz : wk.frozen? ⟨M, k * 24 + s, none⟩ = false := HOK.out.frozenAt _
            have hfd : wk.drew.frozen? ⟨M, k * 24 + s, none⟩ = false := hfz
            obtain ⟨old, hct⟩ : ∃ old, wk.cell? ⟨M, k * 24 + s, none⟩ = some old := by
              have hl5 := flS_len (row := row) (s := s) (n := n) HVW.out hr24 (by omega) (by rw [HVL.out]; exact hkn)
              have h9 := World.ownsRow.cellAt HOK.out (k * 24 + s) (by omega)
              rw [iv_get _ _ (by rw [hl5]; omega)] at h9
              exact ⟨_, h9⟩
            have hcd : wk.drew.cell? ⟨M, k * 24 + s, none⟩ = some old := hct
            have a0' : (0 : Int) ≤ (a : Int) := by omega
            have a1' : (a : Int) < (n : Int) := by omega
            have a2' : (a : Int) < ((mapsK nx gs gs.length).length : Int) := by rw [mapsK_len]; omega
            have b0' : (0 : Int) ≤ (b : Int) := by omega
            have b1' : (b : Int) < (n : Int) := by omega
            have q0' : (0 : Int) ≤ (q : Int) := by omega
            have q1' : (q : Int) < 24 := by omega
            have s0' : (0 : Int) ≤ (s : Int) := by omega
            have s1' : (s : Int) < 24 := by omega
            have HS := Lib.hid (And.intro r1 (And.intro r2 (And.intro P2 (And.intro CQ (And.intro CA CB)))))
            have HS2 := Lib.hid (show ((wk.setCell ⟨M, k * 24 + s, none⟩ (.int .i64 (V + V2))).cell? ⟨Kp, 1, none⟩ = some (.int .i64 (a : Int)) ∧ (wk.setCell ⟨M, k * 24 + s, none⟩ (.int .i64 (V + V2))).cell? ⟨Kp, 2, none⟩ = some (.int .i64 (b : Int)) ∧ (wk.setCell ⟨M, k * 24 + s, none⟩ (.int .i64 (V + V2))).cell? ⟨w.heap.size, 2, none⟩ = some (.slice (some ⟨g3, 0, none⟩) (mapsK nx gs gs.length).length c3) ∧ (wk.setCell ⟨M, k * 24 + s, none⟩ (.int .i64 (V + V2))).cell? ⟨g3, a * 24 + s, none⟩ = some (.int .i64 (q : Int)) ∧ (wk.setCell ⟨M, k * 24 + s, none⟩ (.int .i64 (V + V2))).cell? ⟨M, a * 24 + s, none⟩ = some (.int .i64 V) ∧ (wk.setCell ⟨M, k * 24 + s, none⟩ (.int .i64 (V + V2))).cell? ⟨M, b * 24 + q, none⟩ = some (.int .i64 V2)) from
              ⟨(World.cell?_of_block (a := ⟨Kp, 1, none⟩) (Below.heap_setCell wk ⟨M, k * 24 + s, none⟩ _ Kp hKM2)).trans r1, (World.cell?_of_block (a := ⟨Kp, 2, none⟩) (Below.heap_setCell wk ⟨M, k * 24 + s, none⟩ _ Kp hKM2)).trans r2, (World.cell?_of_block (a := ⟨w.heap.size, 2, none⟩) (Below.heap_setCell wk ⟨M, k * 24 + s, none⟩ _ w.heap.size hwM2)).trans P2, (World.cell?_of_block (a := ⟨g3, a * 24 + s, none⟩) (Below.heap_setCell wk ⟨M, k * 24 + s, none⟩ _ g3 hgM2)).trans CQ, (set_apart wk M _ _ _ e1).trans CA, (set_apart wk M _ _ _ e2).trans CB⟩)
            go_region_held3 (fun w' => w'.cell? ⟨Kp, 1, none⟩ = some (.int .i64 (a : Int)) ∧ w'.cell? ⟨Kp, 2, none⟩ = some (.int .i64 (b : Int)) ∧ w'.cell? ⟨w.heap.size, 2, none⟩ = some (.slice (some ⟨g3, 0, none⟩) (mapsK nx gs gs.length).length c3) ∧ w'.cell? ⟨g3, a * 24 + s, none⟩ = some (.int .i64 (q : Int)) ∧ w'.cell? ⟨M, a * 24 + s, none⟩ = some (.int .i64 V) ∧ w'.cell? ⟨M, b * 24 + q, none⟩ = some (.int .i64 V2))
              (first | (with_reducible exact HS.out) | exact HS.out | exact HS2.out)
              (fail)
            all_goals
              go_wp2_with fail
              go_roundw
            case rel => first | exact ⟨s + 1, by omega, by go_num, HNX2.out, HBX.out⟩ | ((repeat apply Exists.intro); exact ⟨⟨s + 1, by omega, by go_num, HNX2.out, HBX.out⟩, rfl⟩) | exact ⟨s + 1, by omega, by go_num, own_drewN HNX2.out 1, below_drewN HBX.out 1⟩ | ((repeat apply Exists.intro); exact ⟨⟨s + 1, by omega, by go_num, own_drewN HNX2.out 1, below_drewN HBX.out 1⟩, rfl⟩)
            case measure => (first | (simp [intOf]; done) | (simp [intOf]; omega))
          · obtain rfl : s = 24 := by omega
            rw [flS_all HR24.out, ← HNX.out] at hos
            have HN9 : Hid (SfRel wa nx gs w5 M n (.int .i64 ((k + 1 : Nat) : Int)) wu) := Lib.hid ⟨k + 1, hkn, rfl, hos, hBs⟩
            clear hos hBs
            go_wp2_with fail
            go_roundw
            case rel => first | exact HN9.out | ((repeat apply Exists.intro); exact ⟨HN9.out, rfl⟩)
            case measure => (first | (simp [intOf]; done) | (simp [intOf]; omega))
      · have HK := Lib.hid (fun W => kind_letter gs[k] h0 W)
        have HT := tm_lp
        have HVT := Lib.hid (fun s (hs : s < 24) => vis_letter wa nx hkg h0 hs)
        generalize gs[k] = R at *
        obtain ⟨L, l, r⟩ := R
        unfold agg3 at HK
        simp only at HK a0 a1 a2
        clear h0
        go_wp2_with fail
        refine (HK.out _).mono ?_
        rintro e w7 ⟨rfl, hB7⟩
        have hb7 := ((Below.refl _ wo).alloc (Nat.le_refl _) (.cells #[.string L, .int .i64 l, .int .i64 r] 127)).trans (hB7.mono (by simp))
        have HB7 := Lib.hid hb7
        have q2 := (hb7.cell (lt_of_cell p2)).trans p2
        have HRM7 := Lib.hid (HRM.out w7 (HBW.out.trans (hb7.mono HBW.out.size)))
        clear hB7 hb7 a0 a1 a2 p0 p1 p2 p3
        go_wp2_with (first | (with_reducible refine wpList_load_mid rfl 197 _ rfl g3 (k * 24) rfl (iv m) _ HRM7.out und_map rfl HMZ.out ?_))
        have HOWs : Hid (w7.ownsRow M 201 24 (.slice (some ⟨M, 0, none⟩) n n) n (iv (flS (visK wa nx gs k) row 0 n))) := Lib.hid (by
          rw [flS_zero (by rw [HVL.out]; exact hkn)]
          exact own_below HOW.out HB7.out (Nat.le_refl _))
        have HB57 : Hid (Below M w5 w7) := Lib.hid (HBO.out.trans (HB7.out.mono (by omega)))
        clear q2
        go_loopw [32] (fun i wr => ∃ s : Nat, s ≤ 24 ∧ i = .int .i64 s ∧ wr.ownsRow M 201 24 (.slice (some ⟨M, 0, none⟩) n n) n (iv (flS (visK wa nx gs k) row s n)) ∧ Below M w5 wr) (fun i _ => 24 - (intOf i).toNat)
        case atStart => exact ⟨0, by omega, rfl, HOWs.out, HB57.out⟩
        case round =>
          obtain ⟨s, hs, rfl, hos, hBs⟩ := hrel
          obtain ⟨wu, rfl⟩ : ∃ wu : World, wu = wr := ⟨_, rfl⟩
          by_cases hs24 : s < 24
          · have hBs5 : Below w5.heap.size w5 wu := by rw [← HME.out]; exact hBs
            have hBwu := HB.out.trans (hBs5.mono HB.out.size)
            have hix := index_map m HMK.out.1 s hs24
            unfold mv at hix
            have hzr := HRV.out s hs24
            rw [HVT.out s hs24] at hzr
            have hmv : m[s]?.getD 0 = at2 (mapsK nx gs gs.length) k s := by
              unfold at2
              rw [← HMM.out, List.getD_eq_getElem?_getD]
            rw [← hmv] at hzr
            have hbk := (Below.refl _ wu).alloc (Nat.le_refl _) (.cells #[.string ⟨#[]⟩, .int .i64 0, .int .i64 0] 198)
            have HOK : Hid ((wu.alloc (.cells #[.string ⟨#[]⟩, .int .i64 0, .int .i64 0] 198)).ownsRow M 201 24 (.slice (some ⟨M, 0, none⟩) n n) n (iv (flS (visK wa nx gs k) row s n))) := Lib.hid (own_below hos hbk (Nat.le_refl _))
            have hMu : M < wu.heap.size := (hos.lt M rfl).2
            have HBK : Hid (Below M w5 (wu.alloc (.cells #[.string ⟨#[]⟩, .int .i64 0, .int .i64 0] 198))) := Lib.hid (hBs.trans (hbk.mono (by omega)))
            have HPK : Hid (∀ z : Int, Calls Try.prog 161 #[.int .i64 z, .pointer (some ⟨P, 0, none⟩)] (wu.alloc (.cells #[.string ⟨#[]⟩, .int .i64 0, .int .i64 0] 198)) fun e w' => e = .returned (.bool (wa z)) ∧ w' = (wu.alloc (.cells #[.string ⟨#[]⟩, .int .i64 0, .int .i64 0] 198))) := Lib.hid (fun z => HP.out _ z (hBwu.trans (hbk.mono hBwu.size)))
            clear hos hBs hBs5 hBwu hbk hmv
            go_upto_region 12 with fail
            generalize wu.alloc (.cells #[.string ⟨#[]⟩, .int .i64 0, .int .i64 0] 198) = wk at *
            have HZR := Lib.hid hzr
            clear hzr
            go_wp2_with fail
            have hzr := HZR.out
            generalize m[s]?.getD 0 = z at *
            have HWD := Lib.hid (HPK.out z)
            by_cases hzt : wa z = true
            · rw [if_pos hzt] at hzr
              rw [hzt] at HWD
              have hfz : wk.frozen? ⟨M, k * 24 + s, none⟩ = false := HOK.out.frozenAt _
              obtain ⟨old, hct⟩ : ∃ old, wk.cell? ⟨M, k * 24 + s, none⟩ = some old := by
                have hl5 := flS_len (row := row) (s := s) (n := n) HVW.out hr24 (by omega) (by rw [HVL.out]; exact hkn)
                have h9 := World.ownsRow.cellAt HOK.out (k * 24 + s) (by omega)
                rw [iv_get _ _ (by rw [hl5]; omega)] at h9
                exact ⟨_, h9⟩
              have HNX2 : Hid ((wk.setCell ⟨M, k * 24 + s, none⟩ (.int .i64 1)).ownsRow M 201 24 (.slice (some ⟨M, 0, none⟩) n n) n (iv (flS (visK wa nx gs k) row (s + 1) n))) := Lib.hid (by
                have := flS_store (w := wk) HOK.out HVW.out hr24 hs24 (by rw [HVL.out]; exact hkn)
                rw [HVL.out, hzr] at this
                exact this)
              have HBX : Hid (Below M w5 (wk.setCell ⟨M, k * 24 + s, none⟩ (.int .i64 1))) := Lib.hid (HBK.out.setCell (Nat.le_refl _) _)
              have s0' : (0 : Int) ≤ (s : Int) := by omega
              have s1' : (s : Int) < 24 := by omega
              clear hzt hzr
              refine HWD.out.mono ?_
              rintro e w9 ⟨rfl, hw9⟩
              obtain rfl := hw9.symm
              go_wp2_with fail
              go_roundw
              case rel => first | exact ⟨s + 1, by omega, by go_num, HNX2.out, HBX.out⟩ | ((repeat apply Exists.intro); exact ⟨⟨s + 1, by omega, by go_num, HNX2.out, HBX.out⟩, rfl⟩)
              case measure => (first | (simp [intOf]; done) | (simp [intOf]; omega))
            · rw [if_neg hzt] at hzr
              rw [Bool.eq_false_iff.2 hzt] at HWD
              have HNX2 : Hid (wk.ownsRow M 201 24 (.slice (some ⟨M, 0, none⟩) n n) n (iv (flS (visK wa nx gs k) row (s + 1) n))) := Lib.hid (by
                have := HOK.out
                unfold flS at this ⊢
                rw [rowS_skip hr24 hs24 hzr]
                exact this)
              clear hzt hzr
              refine HWD.out.mono ?_
              rintro e w9 ⟨rfl, hw9⟩
              obtain rfl := hw9.symm
              go_wp2_with fail
              go_roundw
              case rel => first | exact ⟨s + 1, by omega, by go_num, HNX2.out, HBK.out⟩ | ((repeat apply Exists.intro); exact ⟨⟨s + 1, by omega, by go_num, HNX2.out, HBK.out⟩, rfl⟩)
              case measure => (first | (simp [intOf]; done) | (simp [intOf]; omega))
          · obtain rfl : s = 24 := by omega
            rw [flS_all HR24.out, ← HNX.out] at hos
            have HN9 : Hid (SfRel wa nx gs w5 M n (.int .i64 ((k + 1 : Nat) : Int)) wu) := Lib.hid ⟨k + 1, hkn, rfl, hos, hBs⟩
            clear hos hBs
            go_wp2_with fail
            go_roundw
            case rel => first | exact HN9.out | ((repeat apply Exists.intro); exact ⟨HN9.out, rfl⟩)
            case measure => (first | (simp [intOf]; done) | (simp [intOf]; omega))
    · obtain rfl : k = n := by omega
      have hSB := HSB.out.kept hB'
      have HE := Lib.hid (b5_cells (b5_all (a' := .slice Ag k cg) (b' := .slice A2 (lens gs).length c2) (c' := .slice A3 (mapsK nx gs gs.length).length c3) (d' := .int .i64 go) (e' := .slice (some ⟨M, 0, none⟩) k k) hSB))
      obtain ⟨z0, z1, z2, z3, z4⟩ := b5_cells hSB
      have f0 := b5_frozen (o := 0) hSB
      have f1 := b5_frozen (o := 1) hSB
      have f2 := b5_frozen (o := 2) hSB
      have f3 := b5_frozen (o := 3) hSB
      have f4 := b5_frozen (o := 4) hSB
      have hMR : M ≠ w.heap.size + 1 := by have := HSB.out.lt; rw [HME.out]; omega
      have hR1 : w.heap.size + 1 < wo.heap.size := hSB.lt
      have HSET : Hid (∀ d0 d1 d2 d3 d4, IsS (((((wo.setCell ⟨w.heap.size + 1, 0, none⟩ d0).setCell ⟨w.heap.size + 1, 1, none⟩ d1).setCell ⟨w.heap.size + 1, 2, none⟩ d2).setCell ⟨w.heap.size + 1, 3, none⟩ d3).setCell ⟨w.heap.size + 1, 4, none⟩ d4) 0 (.agg #[.slice Ag k cg, .slice A2 (lens gs).length c2, .slice A3 (mapsK nx gs gs.length).length c3, .int .i64 go, .slice (some ⟨M, 0, none⟩) k k]) (.slice Ag gs.length cg) gs nx (visK wa nx gs gs.length) go ∧ Below w.heap.size w (((((wo.setCell ⟨w.heap.size + 1, 0, none⟩ d0).setCell ⟨w.heap.size + 1, 1, none⟩ d1).setCell ⟨w.heap.size + 1, 2, none⟩ d2).setCell ⟨w.heap.size + 1, 3, none⟩ d3).setCell ⟨w.heap.size + 1, 4, none⟩ d4)) := Lib.hid (fun d0 d1 d2 d3 d4 => by
        have hbF : Below w.heap.size w (((((wo.setCell ⟨w.heap.size + 1, 0, none⟩ d0).setCell ⟨w.heap.size + 1, 1, none⟩ d1).setCell ⟨w.heap.size + 1, 2, none⟩ d2).setCell ⟨w.heap.size + 1, 3, none⟩ d3).setCell ⟨w.heap.size + 1, 4, none⟩ d4) := ((((hBw.setCell (by simp) _).setCell (by simp) _).setCell (by simp) _).setCell (by simp) _).setCell (by simp) _
        have gk : wo.grownBy (((((wo.setCell ⟨w.heap.size + 1, 0, none⟩ d0).setCell ⟨w.heap.size + 1, 1, none⟩ d1).setCell ⟨w.heap.size + 1, 2, none⟩ d2).setCell ⟨w.heap.size + 1, 3, none⟩ d3).setCell ⟨w.heap.size + 1, 4, none⟩ d4) (some (w.heap.size + 1)) := by
          refine ⟨rfl, rfl, rfl, by simp, fun i hi hne => ?_⟩
          have hne' : i ≠ w.heap.size + 1 := fun e => hne (by rw [e])
          rw [Below.heap_setCell _ _ _ _ hne', Below.heap_setCell _ _ _ _ hne', Below.heap_setCell _ _ _ _ hne', Below.heap_setCell _ _ _ _ hne', Below.heap_setCell _ _ _ _ hne']
        have hms := isMs_of_own (World.ownsRow.kept hown gk (.inr (by simp [Value.ownBlock]; exact hMR))) (visK_wide wa nx gs k) (visK_len wa nx gs k)
        have hAk : Value.slice Ag k cg = Value.slice Ag gs.length cg := by rw [HN.out]
        refine ⟨⟨_, _, _, by rw [hAk], own_lower (own_below H2.out hbF (Nat.le_refl _)) (Nat.zero_le _), (H3.out.kept hbF).lower (Nat.zero_le _), ?_⟩, hbF⟩
        rw [← HN.out]
        exact hms.lower (Nat.zero_le _))
      clear hown hB hB' hBw hSB
      go_wp2_with fail
      obtain ⟨y0, y1, y2, y3, y4⟩ := HE.out
      refine bodyPost_ret (v := .agg #[.slice Ag k cg, .slice A2 (lens gs).length c2, .slice A3 (mapsK nx gs gs.length).length c3, .int .i64 go, .slice (some ⟨M, 0, none⟩) k k]) (by simp [results, Try.results88, go_sem, y0, y1, y2, y3, y4]) rfl ⟨_, rfl, (HSET.out _ _ _ _ _).1, (HSET.out _ _ _ _ _).2⟩
end Go.Proofs.Ytaffachjopjbgaa
