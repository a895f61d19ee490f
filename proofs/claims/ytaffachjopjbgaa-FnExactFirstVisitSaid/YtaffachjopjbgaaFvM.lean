/-
  Visits of states as numbers: how many there are in a rule's word, behind how many letters the first one is. Nothing of the program.
-/
import Derived.Test.YtaffachjopjbgaaMapM
namespace Go.Proofs.Ytaffachjopjbgaa
open Go.RowKit
open Wd
set_option linter.unusedVariables false
namespace Wd
/-- a cell of a table -/
def at2 (t : List (List Int)) (k : Nat) (s : Nat) : Int := (t.getD k []).getD s 0
/-- the visits of a rule, 24 wide: wa tells which states are wanted -/
def visR (wa : Int → Bool) (ms vs : List (List Int)) (x : Rl) (m : List Int) : List Int :=
  (List.range 24).map fun s => if x.L.size = 0 then at2 vs x.l.toNat s + at2 vs x.r.toNat (at2 ms x.l.toNat s).toNat else if wa (m.getD s 0) = true then 1 else 0
/-- those of the first rules -/
def visK (wa : Int → Bool) (nx : List (List Int)) (gs : List Rl) : Nat → List (List Int)
  | 0 => []
  | k + 1 => visK wa nx gs k ++ [visR wa (mapsK nx gs k) (visK wa nx gs k) (gs.getD k ⟨ByteArray.empty, 0, 0⟩) ((mapsK nx gs (k + 1)).getD k [])]
/-- behind how many letters the first visit is, -1 if there is none -/
def firR (wa : Int → Bool) (ln : List Int) (ms vs : List (List Int)) (x : Rl) (m : List Int) : List Int :=
  (List.range 24).map fun s => if x.L.size = 0 then (if at2 vs x.l.toNat s < 0 ∧ 0 ≤ at2 vs x.r.toNat (at2 ms x.l.toNat s).toNat then ln.getD x.l.toNat 0 + at2 vs x.r.toNat (at2 ms x.l.toNat s).toNat else at2 vs x.l.toNat s) else if wa (m.getD s 0) = true then 1 else -1
def firK (wa : Int → Bool) (nx : List (List Int)) (gs : List Rl) : Nat → List (List Int)
  | 0 => []
  | k + 1 => firK wa nx gs k ++ [firR wa (lens gs) (mapsK nx gs k) (firK wa nx gs k) (gs.getD k ⟨ByteArray.empty, 0, 0⟩) ((mapsK nx gs (k + 1)).getD k [])]
/-- the visit with a number, downwards -/
def fndF (wa : Int → Bool) (nx : List (List Int)) (gs : List Rl) : Nat → Nat → Nat → Int → Int
  | 0, _, _, _ => 1
  | f + 1, k, s, c =>
    if (gs.getD k ⟨ByteArray.empty, 0, 0⟩).L.size = 0 then
      (if c < at2 (visK wa nx gs gs.length) (gs.getD k ⟨ByteArray.empty, 0, 0⟩).l.toNat s then fndF wa nx gs f (gs.getD k ⟨ByteArray.empty, 0, 0⟩).l.toNat s c
       else (lens gs).getD (gs.getD k ⟨ByteArray.empty, 0, 0⟩).l.toNat 0 + fndF wa nx gs f (gs.getD k ⟨ByteArray.empty, 0, 0⟩).r.toNat (at2 (mapsK nx gs gs.length) (gs.getD k ⟨ByteArray.empty, 0, 0⟩).l.toNat s).toNat (c - at2 (visK wa nx gs gs.length) (gs.getD k ⟨ByteArray.empty, 0, 0⟩).l.toNat s))
    else 1
end Wd
theorem visK_len (wa : Int → Bool) (nx : List (List Int)) (gs : List Rl) : ∀ k, (visK wa nx gs k).length = k
  | 0 => rfl
  | k + 1 => by rw [visK, List.length_append, visK_len wa nx gs k]; rfl
theorem firK_len (wa : Int → Bool) (nx : List (List Int)) (gs : List Rl) : ∀ k, (firK wa nx gs k).length = k
  | 0 => rfl
  | k + 1 => by rw [firK, List.length_append, firK_len wa nx gs k]; rfl
theorem getD_snoc_lt {α : Type} (l : List α) (x d : α) (j : Nat) (h : j < l.length) : (l ++ [x]).getD j d = l.getD j d := by
  rw [List.getD_eq_getElem?_getD, List.getD_eq_getElem?_getD, List.getElem?_append_left h]
theorem getD_snoc_eq {α : Type} (l : List α) (x d : α) (j : Nat) (h : j = l.length) : (l ++ [x]).getD j d = x := by
  subst h; rw [List.getD_eq_getElem?_getD, List.getElem?_append_right (Nat.le_refl _)]; simp
theorem visK_at (wa : Int → Bool) (nx : List (List Int)) (gs : List Rl) (j s : Nat) : ∀ k, j < k → at2 (visK wa nx gs k) j s = at2 (visK wa nx gs (j + 1)) j s
  | 0, h => by omega
  | k + 1, h => by
    by_cases e : j = k
    · subst e; rfl
    · have := visK_at wa nx gs j s k (by omega)
      rw [← this]
      unfold at2
      rw [visK, getD_snoc_lt _ _ _ _ (by rw [visK_len]; omega)]
theorem firK_at (wa : Int → Bool) (nx : List (List Int)) (gs : List Rl) (j s : Nat) : ∀ k, j < k → at2 (firK wa nx gs k) j s = at2 (firK wa nx gs (j + 1)) j s
  | 0, h => by omega
  | k + 1, h => by
    by_cases e : j = k
    · subst e; rfl
    · have := firK_at wa nx gs j s k (by omega)
      rw [← this]
      unfold at2
      rw [firK, getD_snoc_lt _ _ _ _ (by rw [firK_len]; omega)]
theorem mapsK_at (nx : List (List Int)) (gs : List Rl) (j s : Nat) {k n : Nat} (h1 : j < k) (h2 : j < n) : at2 (mapsK nx gs k) j s = at2 (mapsK nx gs n) j s := by
  unfold at2
  rw [mapsK_getD nx gs j k h1, mapsK_getD nx gs j n h2]
/-- the equations of a rule, over the whole tables -/
theorem vis_pair (wa : Int → Bool) (nx : List (List Int)) {gs : List Rl} {k a b s : Nat} (hk : k < gs.length) (hz : gs[k].L.size = 0) (ha : gs[k].l = a) (hb : gs[k].r = b) (hak : a < k) (hbk : b < k) (hs : s < 24) :
    at2 (visK wa nx gs gs.length) k s = at2 (visK wa nx gs gs.length) a s + at2 (visK wa nx gs gs.length) b (at2 (mapsK nx gs gs.length) a s).toNat := by
  rw [visK_at wa nx gs k s _ hk, visK_at wa nx gs a _ _ (Nat.lt_trans hak hk), visK_at wa nx gs b _ _ (Nat.lt_trans hbk hk), ← visK_at wa nx gs a s k hak, ← visK_at wa nx gs b _ k hbk, mapsK_at nx gs a s (Nat.lt_trans hak hk) hak]
  conv => lhs; unfold at2
  rw [visK, getD_snoc_eq _ _ _ _ (visK_len wa nx gs k).symm]
  unfold visR
  rw [List.getD_eq_getElem?_getD, List.getElem?_map, List.getElem?_range hs, List.getD_eq_getElem?_getD, List.getElem?_eq_getElem hk]
  simp only [Option.map_some, Option.getD_some, if_pos hz, ha, hb, Int.toNat_natCast]
theorem vis_letter (wa : Int → Bool) (nx : List (List Int)) {gs : List Rl} {k s : Nat} (hk : k < gs.length) (hz : gs[k].L.size ≠ 0) (hs : s < 24) :
    at2 (visK wa nx gs gs.length) k s = if wa (at2 (mapsK nx gs gs.length) k s) = true then 1 else 0 := by
  rw [visK_at wa nx gs k s _ hk, mapsK_at nx gs k s hk (Nat.lt_succ_self k)]
  conv => lhs; unfold at2
  rw [visK, getD_snoc_eq _ _ _ _ (visK_len wa nx gs k).symm]
  unfold visR
  rw [List.getD_eq_getElem?_getD, List.getElem?_map, List.getElem?_range hs, List.getD_eq_getElem?_getD (l := gs), List.getElem?_eq_getElem hk]
  simp only [Option.map_some, Option.getD_some, if_neg hz]
  rfl
theorem fir_pair (wa : Int → Bool) (nx : List (List Int)) {gs : List Rl} {k a b s : Nat} (hk : k < gs.length) (hz : gs[k].L.size = 0) (ha : gs[k].l = a) (hb : gs[k].r = b) (hak : a < k) (hbk : b < k) (hs : s < 24) :
    at2 (firK wa nx gs gs.length) k s = if at2 (firK wa nx gs gs.length) a s < 0 ∧ 0 ≤ at2 (firK wa nx gs gs.length) b (at2 (mapsK nx gs gs.length) a s).toNat then (lens gs).getD a 0 + at2 (firK wa nx gs gs.length) b (at2 (mapsK nx gs gs.length) a s).toNat else at2 (firK wa nx gs gs.length) a s := by
  rw [firK_at wa nx gs k s _ hk, firK_at wa nx gs a _ _ (Nat.lt_trans hak hk), firK_at wa nx gs b _ _ (Nat.lt_trans hbk hk), ← firK_at wa nx gs a s k hak, ← firK_at wa nx gs b _ k hbk, mapsK_at nx gs a s (Nat.lt_trans hak hk) hak]
  conv => lhs; unfold at2
  rw [firK, getD_snoc_eq _ _ _ _ (firK_len wa nx gs k).symm]
  unfold firR
  rw [List.getD_eq_getElem?_getD, List.getElem?_map, List.getElem?_range hs, List.getD_eq_getElem?_getD (l := gs), List.getElem?_eq_getElem hk]
  simp only [Option.map_some, Option.getD_some, if_pos hz, ha, hb, Int.toNat_natCast]
theorem fir_letter (wa : Int → Bool) (nx : List (List Int)) {gs : List Rl} {k s : Nat} (hk : k < gs.length) (hz : gs[k].L.size ≠ 0) (hs : s < 24) :
    at2 (firK wa nx gs gs.length) k s = if wa (at2 (mapsK nx gs gs.length) k s) = true then 1 else -1 := by
  rw [firK_at wa nx gs k s _ hk, mapsK_at nx gs k s hk (Nat.lt_succ_self k)]
  conv => lhs; unfold at2
  rw [firK, getD_snoc_eq _ _ _ _ (firK_len wa nx gs k).symm]
  unfold firR
  rw [List.getD_eq_getElem?_getD, List.getElem?_map, List.getElem?_range hs, List.getD_eq_getElem?_getD (l := gs), List.getElem?_eq_getElem hk]
  simp only [Option.map_some, Option.getD_some, if_neg hz]
  rfl
/-- what is right of a grammar's rule -/
theorem rule_cases {gs : List Rl} (hfit : fits gs = true) {k : Nat} (hk : k < gs.length) : gs[k].L.size ≠ 0 ∨ (gs[k].L.size = 0 ∧ ∃ a b : Nat, gs[k].l = a ∧ gs[k].r = b ∧ a < k ∧ b < k) := by
  by_cases hz : gs[k].L.size = 0
  · obtain ⟨⟨a1, a2⟩, b1, b2⟩ := (ok_pair hz).1 (fits_at hfit k hk)
    exact .inr ⟨hz, gs[k].l.toNat, gs[k].r.toNat, by omega, by omega, by omega, by omega⟩
  · exact .inl hz
theorem map_lt {nx : List (List Int)} {st : Int} {gs : List Rl} (h : nx.all (rowOk st) = true) (hl : (nx.length : Int) = st) (h1 : 1 ≤ st) (h24 : st ≤ 24) (hfit : fits gs = true) {k s : Nat} (hk : k < gs.length) (hs : s < 24) : (at2 (mapsK nx gs gs.length) k s).toNat < 24 := by
  obtain ⟨m1, m2⟩ := mapsK_ok h hl h1 h24 hfit gs.length (Nat.le_refl _) k hk
  unfold at2
  rw [List.getD_eq_getElem?_getD (i := s), List.getElem?_eq_getElem (by omega), Option.getD_some]
  have := m2 _ (List.getElem_mem (show s < ((mapsK nx gs gs.length).getD k []).length by omega))
  omega
/-- visits are counted upwards from 0; there is a first one where there is one -/
theorem vis_fir {nx : List (List Int)} {st : Int} {gs : List Rl} (wa : Int → Bool) (h : nx.all (rowOk st) = true) (hl : (nx.length : Int) = st) (h1 : 1 ≤ st) (h24 : st ≤ 24) (hfit : fits gs = true) : ∀ m k s, k < m → k < gs.length → s < 24 →
    0 ≤ at2 (visK wa nx gs gs.length) k s ∧ (at2 (visK wa nx gs gs.length) k s = 0 ∧ at2 (firK wa nx gs gs.length) k s = -1 ∨ 0 < at2 (visK wa nx gs gs.length) k s ∧ 1 ≤ at2 (firK wa nx gs gs.length) k s)
  | 0, k, s, hm, _, _ => by omega
  | m + 1, k, s, hm, hk, hs => by
    rcases rule_cases hfit hk with hz | ⟨hz, a, b, ha, hb, hak, hbk⟩
    · rw [vis_letter wa nx hk hz hs, fir_letter wa nx hk hz hs]
      split
      · omega
      · omega
    · have ia := vis_fir wa h hl h1 h24 hfit m a s (by omega) (by omega) hs
      have ib := vis_fir wa h hl h1 h24 hfit m b (at2 (mapsK nx gs gs.length) a s).toNat (by omega) (by omega) (map_lt h hl h1 h24 hfit (by omega) hs)
      have lp := lens_pos (gs := gs) (k := a) (by omega) (fun j hj _ => fits_at hfit j hj)
      rw [vis_pair wa nx hk hz ha hb hak hbk hs, fir_pair wa nx hk hz ha hb hak hbk hs]
      split <;> omega
/-- the first visit lies in the word -/
theorem fir_bd {nx : List (List Int)} {st : Int} {gs : List Rl} (wa : Int → Bool) (h : nx.all (rowOk st) = true) (hl : (nx.length : Int) = st) (h1 : 1 ≤ st) (h24 : st ≤ 24) (hfit : fits gs = true) : ∀ m k s, k < m → k < gs.length → s < 24 →
    -1 ≤ at2 (firK wa nx gs gs.length) k s ∧ at2 (firK wa nx gs gs.length) k s ≤ (lens gs).getD k 0
  | 0, k, s, hm, _, _ => by omega
  | m + 1, k, s, hm, hk, hs => by
    have lk := lens_pos (gs := gs) (k := k) hk (fun j hj _ => fits_at hfit j hj)
    rcases rule_cases hfit hk with hz | ⟨hz, a, b, ha, hb, hak, hbk⟩
    · rw [fir_letter wa nx hk hz hs]
      split <;> omega
    · have ia := fir_bd wa h hl h1 h24 hfit m a s (by omega) (by omega) hs
      have ib := fir_bd wa h hl h1 h24 hfit m b (at2 (mapsK nx gs gs.length) a s).toNat (by omega) (by omega) (map_lt h hl h1 h24 hfit (by omega) hs)
      have lp := lens_pos (gs := gs) (k := a) (by omega) (fun j hj _ => fits_at hfit j hj)
      have hok := fits_at hfit k hk
      have hsum : (lens gs).getD k 0 = (lens gs).getD a 0 + (lens gs).getD b 0 := by
        have := vals_pair (fun a b => a + b) gs k hk hz hok
        rw [ha, hb, Int.toNat_natCast, Int.toNat_natCast] at this
        exact this
      have lb := lens_pos (gs := gs) (k := b) (by omega) (fun j hj _ => fits_at hfit j hj)
      rw [fir_pair wa nx hk hz ha hb hak hbk hs]
      split <;> omega
/-- the visit with the number 0 is the first one -/
theorem fnd_fir {nx : List (List Int)} {st : Int} {gs : List Rl} (wa : Int → Bool) (h : nx.all (rowOk st) = true) (hl : (nx.length : Int) = st) (h1 : 1 ≤ st) (h24 : st ≤ 24) (hfit : fits gs = true) : ∀ f k s, k < f → k < gs.length → s < 24 → 0 < at2 (visK wa nx gs gs.length) k s →
    fndF wa nx gs f k s 0 = at2 (firK wa nx gs gs.length) k s
  | 0, k, s, hm, _, _, _ => by omega
  | f + 1, k, s, hm, hk, hs, hv => by
    have hg : gs.getD k ⟨ByteArray.empty, 0, 0⟩ = gs[k] := by rw [List.getD_eq_getElem?_getD, List.getElem?_eq_getElem hk]; rfl
    rcases rule_cases hfit hk with hz | ⟨hz, a, b, ha, hb, hak, hbk⟩
    · rw [fndF, hg, if_neg hz]
      rw [vis_letter wa nx hk hz hs] at hv
      rw [fir_letter wa nx hk hz hs]
      split at hv
      · next hw => rw [if_pos hw]
      · omega
    · have hmb := map_lt h hl h1 h24 hfit (show a < gs.length by omega) hs
      have ia := vis_fir wa h hl h1 h24 hfit (a + 1) a s (by omega) (by omega) hs
      have ib := vis_fir wa h hl h1 h24 hfit (b + 1) b (at2 (mapsK nx gs gs.length) a s).toNat (by omega) (by omega) hmb
      rw [vis_pair wa nx hk hz ha hb hak hbk hs] at hv
      rw [fndF, hg, if_pos hz, ha, hb, Int.toNat_natCast, Int.toNat_natCast, fir_pair wa nx hk hz ha hb hak hbk hs]
      by_cases hp : 0 < at2 (visK wa nx gs gs.length) a s
      · rw [if_pos hp, if_neg (by omega), fnd_fir wa h hl h1 h24 hfit f a s (by omega) (by omega) hs hp]
      · have h0 : at2 (visK wa nx gs gs.length) a s = 0 := by omega
        rw [if_neg hp, h0, Int.sub_zero, if_pos (by omega), fnd_fir wa h hl h1 h24 hfit f b _ (by omega) (by omega) hmb (by omega)]
theorem fnd_pair (wa : Int → Bool) (nx : List (List Int)) {gs : List Rl} {k a b s f : Nat} {c : Int} (hk : k < gs.length) (hz : gs[k].L.size = 0) (ha : gs[k].l = a) (hb : gs[k].r = b) :
    fndF wa nx gs (f + 1) k s c = if c < at2 (visK wa nx gs gs.length) a s then fndF wa nx gs f a s c else (lens gs).getD a 0 + fndF wa nx gs f b (at2 (mapsK nx gs gs.length) a s).toNat (c - at2 (visK wa nx gs gs.length) a s) := by
  have hg : gs.getD k ⟨ByteArray.empty, 0, 0⟩ = gs[k] := by rw [List.getD_eq_getElem?_getD, List.getElem?_eq_getElem hk]; rfl
  rw [fndF, hg, if_pos hz, ha, hb, Int.toNat_natCast, Int.toNat_natCast]
theorem fnd_letter (wa : Int → Bool) (nx : List (List Int)) {gs : List Rl} {k s f : Nat} {c : Int} (hk : k < gs.length) (hz : gs[k].L.size ≠ 0) : fndF wa nx gs (f + 1) k s c = 1 := by
  have hg : gs.getD k ⟨ByteArray.empty, 0, 0⟩ = gs[k] := by rw [List.getD_eq_getElem?_getD, List.getElem?_eq_getElem hk]; rfl
  rw [fndF, hg, if_neg hz]
theorem fnd_stable {gs : List Rl} (wa : Int → Bool) (nx : List (List Int)) (hfit : fits gs = true) : ∀ f1 f2 k s c, k < gs.length → k < f1 → k < f2 → fndF wa nx gs f1 k s c = fndF wa nx gs f2 k s c
  | 0, f2, k, s, c, hk, h1, h2 => by omega
  | f1 + 1, 0, k, s, c, hk, h1, h2 => by omega
  | f1 + 1, f2 + 1, k, s, c, hk, h1, h2 => by
    rcases rule_cases hfit hk with hz | ⟨hz, a, b, ha, hb, hak, hbk⟩
    · rw [fnd_letter wa nx hk hz, fnd_letter wa nx hk hz]
    · rw [fnd_pair wa nx hk hz ha hb, fnd_pair wa nx hk hz ha hb, fnd_stable wa nx hfit f1 f2 a s c (by omega) (by omega) (by omega), fnd_stable wa nx hfit f1 f2 b _ _ (by omega) (by omega) (by omega)]
/-- there are no more visits than letters, and each lies in the word -/
theorem fnd_bd {nx : List (List Int)} {st : Int} {gs : List Rl} (wa : Int → Bool) (h : nx.all (rowOk st) = true) (hl : (nx.length : Int) = st) (h1 : 1 ≤ st) (h24 : st ≤ 24) (hfit : fits gs = true) : ∀ m k s (c : Int), k < m → k < gs.length → s < 24 →
    at2 (visK wa nx gs gs.length) k s ≤ (lens gs).getD k 0 ∧ (0 ≤ c → c < at2 (visK wa nx gs gs.length) k s → 1 ≤ fndF wa nx gs m k s c ∧ fndF wa nx gs m k s c ≤ (lens gs).getD k 0)
  | 0, k, s, c, hm, _, _ => by omega
  | m + 1, k, s, c, hm, hk, hs => by
    have lk := lens_pos (gs := gs) (k := k) hk (fun j hj _ => fits_at hfit j hj)
    rcases rule_cases hfit hk with hz | ⟨hz, a, b, ha, hb, hak, hbk⟩
    · rw [vis_letter wa nx hk hz hs, fnd_letter wa nx hk hz]
      split <;> omega
    · have hmb := map_lt h hl h1 h24 hfit (show a < gs.length by omega) hs
      have ia := fnd_bd wa h hl h1 h24 hfit m a s c (by omega) (by omega) hs
      have ib := fnd_bd wa h hl h1 h24 hfit m b (at2 (mapsK nx gs gs.length) a s).toNat (c - at2 (visK wa nx gs gs.length) a s) (by omega) (by omega) hmb
      have lp := lens_pos (gs := gs) (k := a) (by omega) (fun j hj _ => fits_at hfit j hj)
      have lb := lens_pos (gs := gs) (k := b) (by omega) (fun j hj _ => fits_at hfit j hj)
      have hsum : (lens gs).getD k 0 = (lens gs).getD a 0 + (lens gs).getD b 0 := by
        have := vals_pair (fun a b => a + b) gs k hk hz (fits_at hfit k hk)
        rw [ha, hb, Int.toNat_natCast, Int.toNat_natCast] at this
        exact this
      rw [vis_pair wa nx hk hz ha hb hak hbk hs, fnd_pair wa nx hk hz ha hb]
      refine ⟨by omega, fun h0 hc => ?_⟩
      split
      · have := ia.2 h0 (by omega); omega
      · have := ib.2 (by omega) (by omega); omega
end Go.Proofs.Ytaffachjopjbgaa
