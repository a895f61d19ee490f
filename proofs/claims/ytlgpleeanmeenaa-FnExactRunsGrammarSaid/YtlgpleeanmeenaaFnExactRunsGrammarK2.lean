/-
  PcT, PcU, Var, Meas, MeasL, VLen, in one text.
-/
import Derived.Test.YtlgpleeanmeenaaFnExactRunsGrammarK1
import Derived.Deep.RegionHeld3
import Derived.Laws.EntriesVeiled
namespace Go.Proofs.Ytlgpleeanmeenaa
open Go.RowKit
set_option linter.unusedVariables false
namespace Wd
/-- the next rule's measure, by its own fields -/
theorem lens_pairO {gs : List Rl} (h : fits gs = true) {k : Nat} {x : Rl} (hk : gs[k]? = some x) (h0 : x.L.size = 0) :
    (0 ≤ x.l ∧ x.l < k) ∧ (0 ≤ x.r ∧ x.r < k) ∧ (lens gs).getD k 0 = (lens gs).getD x.l.toNat 0 + (lens gs).getD x.r.toNat 0 := by
  obtain ⟨hlt, rfl⟩ := List.getElem?_eq_some_iff.1 hk
  have hf := fits_at h k hlt
  have h1 := (ok_pair h0).1 hf
  exact ⟨h1.1, h1.2, vals_pair (fun a b => a + b) gs k hlt h0 hf⟩
theorem lens_letO {gs : List Rl} {k : Nat} {x : Rl} (hk : gs[k]? = some x) (h0 : x.L.size ≠ 0) : (lens gs).getD k 0 = 1 := by
  obtain ⟨hlt, rfl⟩ := List.getElem?_eq_some_iff.1 hk
  exact vals_letter (fun a b => a + b) gs k hlt h0
theorem fits_of {gs : List Rl} (h : ∀ (k : Nat) (x : Rl), gs[k]? = some x → x.ok k = true) : fits gs = true :=
  decide_eq_true fun k hk => h k _ (List.getElem?_eq_getElem hk)
/-- the numbers of the first ones, shorter lists of them -/
theorem fT_getP (gs : List Rl) (i j k : Nat) (h1 : k < i) (h2 : k < j) : (fT gs i).getD k 0 = (fT gs j).getD k 0 := by
  rw [List.getD_eq_getElem?_getD, List.getD_eq_getElem?_getD, fT_pre gs k i h1, fT_pre gs k j h2]
theorem nx_ok {gs : List Rl} (h : fits gs = true) {j : Nat} (hj : j < gs.length) : (nxT gs j).ok j = true := by
  have hg : gs.getD j zeroR = gs[j] := by rw [List.getD_eq_getElem?_getD, List.getElem?_eq_getElem hj, Option.getD_some]
  have hf := fits_at h j hj
  unfold nxT redR
  rw [hg]
  by_cases h0 : gs[j].L.size = 0
  · have h1 := (ok_pair h0).1 hf
    rw [if_pos h0, ok_pair (by rfl)]
    have a := fT_le gs j gs[j].l.toNat (by omega)
    have b := fT_le gs j gs[j].r.toNat (by omega)
    simp only
    omega
  · rw [if_neg h0]
    exact hf
theorem kT_fits {gs : List Rl} (h : fits gs = true) : fits (kT gs gs.length) = true := fits_of fun k x hk => by
  have hlt : k < gs.length := by have := (List.getElem?_eq_some_iff.1 hk).1; rwa [kT_len] at this
  rw [kT_pre gs k _ hlt] at hk
  injection hk with hk
  rw [← hk]
  exact nx_ok h hlt
/-- equal rules have words of one length -/
theorem lens_same {gs : List Rl} (h : fits gs = true) {j k : Nat} {x : Rl} (hj : gs[j]? = some x) (hk : gs[k]? = some x) : (lens gs).getD j 0 = (lens gs).getD k 0 := by
  by_cases h0 : x.L.size = 0
  · rw [(lens_pairO h hj h0).2.2, (lens_pairO h hk h0).2.2]
  · rw [lens_letO hj h0, lens_letO hk h0]
theorem first_at (gs : List Rl) (j : Nat) (hj : j < gs.length) : (kT gs gs.length)[(fT gs gs.length).getD j 0]? = some (nxT gs j) := by
  rw [List.getD_eq_getElem?_getD, fT_pre gs j _ hj, Option.getD_some]
  by_cases hm : nxT gs j ∈ kT gs j
  · have h1 := List.idxOf_lt_length_iff.2 hm
    have h2 : (kT gs j).idxOf (nxT gs j) < j := by rwa [kT_len] at h1
    have h3 := kT_take gs j gs.length (by omega)
    have h4 : (kT gs j)[(kT gs j).idxOf (nxT gs j)]? = some (nxT gs j) := by rw [List.getElem?_eq_getElem h1, List.getElem_idxOf]
    rw [← h3] at h4
    rw [← h3]
    rw [List.getElem?_take] at h4
    split at h4
    · exact h4
    · cases h4
  · rw [List.idxOf_eq_length hm, kT_len]
    exact kT_pre gs j _ hj
theorem kT_lens {gs : List Rl} (h : fits gs = true) : ∀ n j, j < n → j < gs.length → (lens (kT gs gs.length)).getD j 0 = (lens gs).getD j 0
  | 0, _, h, _ => by omega
  | n + 1, j, hn, hj => by
    have hK := kT_pre gs j gs.length hj
    have hg : gs.getD j zeroR = gs[j] := by rw [List.getD_eq_getElem?_getD, List.getElem?_eq_getElem hj, Option.getD_some]
    by_cases h0 : gs[j].L.size = 0
    · have hnx : nxT gs j = ⟨⟨#[]⟩, ((fT gs j).getD gs[j].l.toNat 0 : Nat), ((fT gs j).getD gs[j].r.toNat 0 : Nat)⟩ := by unfold nxT redR; rw [hg, if_pos h0]
      have hp := lens_pairO h (List.getElem?_eq_getElem hj) h0
      have hq := lens_pairO (kT_fits h) hK (by rw [hnx]; rfl)
      rw [hq.2.2, hp.2.2, hnx]
      simp only [Int.toNat_natCast]
      have hone : ∀ q : Int, 0 ≤ q → q < j → (lens (kT gs gs.length)).getD ((fT gs j).getD q.toNat 0) 0 = (lens gs).getD q.toNat 0 := fun q q0 q1 => by
        rw [fT_getP gs j gs.length q.toNat (by omega) (by omega), lens_same (kT_fits h) (first_at gs q.toNat (by omega)) (kT_pre gs q.toNat gs.length (by omega))]
        exact kT_lens h n q.toNat (by omega) (by omega)
      rw [hone _ hp.1.1 hp.1.2, hone _ hp.2.1.1 hp.2.1.2]
    · have hnx : nxT gs j = gs[j] := by unfold nxT redR; rw [hg, if_neg h0]
      rw [lens_letO hK (by rw [hnx]; exact h0), lens_letO (List.getElem?_eq_getElem hj) h0]
/-- a mark that is set stays -/
theorem set1_at (nd : List Bool) (a : Nat) (h : a < nd.length) : (nd.set a true).getD a false = true := by
  rw [List.getD_eq_getElem?_getD, List.getElem?_set_self h, Option.getD_some]
theorem set1_true (nd : List Bool) (a i : Nat) (h : nd.getD i false = true) : (nd.set a true).getD i false = true := by
  by_cases e : a = i
  · subst e
    have hi : a < nd.length := by
      rcases Nat.lt_or_ge a nd.length with h' | h'
      · exact h'
      · rw [List.getD_eq_getElem?_getD, List.getElem?_eq_none h'] at h; cases h
    exact set1_at nd a hi
  · rw [List.getD_eq_getElem?_getD, List.getElem?_set_ne e, ← List.getD_eq_getElem?_getD]; exact h
theorem set2_true (nd : List Bool) (a b i : Nat) (h : nd.getD i false = true) : ((nd.set a true).set b true).getD i false = true := set1_true _ _ _ (set1_true _ _ _ h)
theorem set2_far (nd : List Bool) (a b i : Nat) (h1 : a ≠ i) (h2 : b ≠ i) : ((nd.set a true).set b true).getD i false = nd.getD i false := by
  simp only [List.getD_eq_getElem?_getD]
  rw [List.getElem?_set_ne h2, List.getElem?_set_ne h1]
theorem set2_at (nd : List Bool) (a b : Nat) (h1 : a < nd.length) (h2 : b < nd.length) : ((nd.set a true).set b true).getD a false = true ∧ ((nd.set a true).set b true).getD b false = true :=
  ⟨set1_true _ _ _ (set1_at _ _ h1), set1_at _ _ (by simpa using h2)⟩
/-- what is marked behind t steps: the children of all marked rules above, none above the top -/
theorem nd_inv {K : List Rl} (hK : fits K = true) (nd : List Bool) (top : Nat) (hl : nd.length = K.length) (ht : ∀ i, nd.getD i false = true → i ≤ top) (h1 : nd.getD top false = true) : ∀ t, t ≤ K.length →
    (ndT K nd K.length t).getD top false = true ∧ (∀ i, (ndT K nd K.length t).getD i false = true → i ≤ top) ∧
    ∀ i x, K.length - t ≤ i → (ndT K nd K.length t).getD i false = true → K[i]? = some x → x.L.size = 0 → (ndT K nd K.length t).getD x.l.toNat false = true ∧ (ndT K nd K.length t).getD x.r.toNat false = true
  | 0, _ => ⟨h1, ht, fun i x hi _ hx => by have := (List.getElem?_eq_some_iff.1 hx).1; omega⟩
  | t + 1, hts => by
    obtain ⟨a1, a2, a3⟩ := nd_inv hK nd top hl ht h1 t (by omega)
    have hlen := ndT_len K nd K.length t
    rw [ndT]
    generalize ndT K nd K.length t = m at *
    unfold ndStep
    have hi : K.length - 1 - t < K.length := by omega
    have hgd : K.getD (K.length - 1 - t) zeroR = K[K.length - 1 - t] := by rw [List.getD_eq_getElem?_getD, List.getElem?_eq_getElem hi, Option.getD_some]
    rw [hgd]
    by_cases hc : m.getD (K.length - 1 - t) false = true ∧ K[K.length - 1 - t].L.size = 0
    · rw [if_pos hc]
      have hp := lens_pairO hK (List.getElem?_eq_getElem hi) hc.2
      have hle := a2 _ hc.1
      refine ⟨set2_true _ _ _ _ a1, fun i h => ?_, fun i x hk hm hx h0 => ?_⟩
      · by_cases e1 : K[K.length - 1 - t].l.toNat = i
        · omega
        · by_cases e2 : K[K.length - 1 - t].r.toNat = i
          · omega
          · rw [set2_far _ _ _ _ e1 e2] at h
            exact a2 i h
      · by_cases e : i = K.length - 1 - t
        · subst e
          rw [List.getElem?_eq_getElem hi] at hx
          injection hx with hx
          subst hx
          exact set2_at m _ _ (by rw [hlen, hl]; omega) (by rw [hlen, hl]; omega)
        · rw [set2_far _ _ _ _ (by omega) (by omega)] at hm
          have := a3 i x (by omega) hm hx h0
          exact ⟨set2_true _ _ _ _ this.1, set2_true _ _ _ _ this.2⟩
    · rw [if_neg hc]
      refine ⟨a1, a2, fun i x hk hm hx h0 => ?_⟩
      by_cases e : i = K.length - 1 - t
      · subst e
        rw [List.getElem?_eq_getElem hi] at hx
        injection hx with hx
        subst hx
        exact absurd ⟨hm, h0⟩ hc
      · exact a3 i x (by omega) hm hx h0
end Wd
end Go.Proofs.Ytlgpleeanmeenaa
namespace Go.Proofs.Ytlgpleeanmeenaa
open Go.RowKit
set_option linter.unusedVariables false
namespace Wd
theorem setN_self (G : List Nat) (i v : Nat) (h : i < G.length) : (G.set i v).getD i 0 = v := by
  rw [List.getD_eq_getElem?_getD, List.getElem?_set_self h, Option.getD_some]
theorem setN_ne (G : List Nat) (i j v : Nat) (h : i ≠ j) : (G.set i v).getD j 0 = G.getD j 0 := by
  rw [List.getD_eq_getElem?_getD, List.getElem?_set_ne h, ← List.getD_eq_getElem?_getD]
theorem fits_snoc {O : List Rl} {X : Rl} (h : fits O = true) (hX : X.ok O.length = true) : fits (O ++ [X]) = true := fits_of fun k x hk => by
  rcases Nat.lt_or_ge k O.length with h' | h'
  · rw [List.getElem?_append_left h', List.getElem?_eq_getElem h'] at hk
    injection hk with hk
    rw [← hk]
    exact fits_at h k h'
  · have hl := (List.getElem?_eq_some_iff.1 hk).1
    rw [List.length_append, List.length_singleton] at hl
    obtain rfl : k = O.length := by omega
    rw [List.getElem?_append_right (Nat.le_refl _), Nat.sub_self] at hk
    injection hk with hk
    rw [← hk]
    exact hX
theorem letter_any {x : Rl} {n m : Nat} (h0 : x.L.size ≠ 0) (h : x.ok n = true) : x.ok m = true := (ok_letter h0).2 ((ok_letter h0).1 h)
structure OutInv (K : List Rl) (nd : List Bool) (i : Nat) : Prop where
  fit : fits (outT K nd i).2 = true
  at_ : ∀ j, j < i → nd.getD j false = true → (outT K nd i).1.getD j 0 < (outT K nd i).2.length ∧ (lens (outT K nd i).2).getD ((outT K nd i).1.getD j 0) 0 = (lens K).getD j 0
  all_ : ∀ p, p < (outT K nd i).2.length → ∃ j, j < i ∧ nd.getD j false = true ∧ (lens (outT K nd i).2).getD p 0 = (lens K).getD j 0
  top : ∀ j, j < i → nd.getD j false = true → (∀ j', j < j' → j' < i → nd.getD j' false = false) → (outT K nd i).1.getD j 0 + 1 = (outT K nd i).2.length
theorem out_inv {K : List Rl} {nd : List Bool} (hK : fits K = true) (hl : nd.length = K.length) (hc : ∀ i x, nd.getD i false = true → K[i]? = some x → x.L.size = 0 → nd.getD x.l.toNat false = true ∧ nd.getD x.r.toNat false = true) : ∀ i, i ≤ K.length → OutInv K nd i
  | 0, _ => ⟨decide_eq_true fun k h => by simp [outT] at h, fun j h => by omega, fun p h => by simp [outT] at h, fun j h => by omega⟩
  | i + 1, hi => by
    have ih := out_inv hK hl hc i (by omega)
    have hlen := outT_len K nd i
    by_cases hn : nd.getD i false = true
    · have he : outT K nd (i + 1) = ((outT K nd i).1.set i (outT K nd i).2.length, (outT K nd i).2 ++ [redR ((outT K nd i).1.set i (outT K nd i).2.length) (K.getD i zeroR)]) := by rw [outT, if_pos hn]
      have hgd : K.getD i zeroR = K[i] := by rw [List.getD_eq_getElem?_getD, List.getElem?_eq_getElem (by omega), Option.getD_some]
      obtain ⟨fit, at1, all1, top1⟩ := ih
      rw [hgd] at he
      have hX : (redR ((outT K nd i).1.set i (outT K nd i).2.length) K[i]).ok (outT K nd i).2.length = true ∧ ∀ h : fits ((outT K nd i).2 ++ [redR ((outT K nd i).1.set i (outT K nd i).2.length) K[i]]) = true, (lens ((outT K nd i).2 ++ [redR ((outT K nd i).1.set i (outT K nd i).2.length) K[i]])).getD (outT K nd i).2.length 0 = (lens K).getD i 0 := by
        have hat : ((outT K nd i).2 ++ [redR ((outT K nd i).1.set i (outT K nd i).2.length) K[i]])[(outT K nd i).2.length]? = some (redR ((outT K nd i).1.set i (outT K nd i).2.length) K[i]) := by
          rw [List.getElem?_append_right (Nat.le_refl _), Nat.sub_self]; rfl
        have hki : K[i]? = some K[i] := List.getElem?_eq_getElem (by omega)
        by_cases h0 : K[i].L.size = 0
        · have hp := lens_pairO hK hki h0
          have hcc := hc i _ hn hki h0
          have hr : redR ((outT K nd i).1.set i (outT K nd i).2.length) K[i] = ⟨⟨#[]⟩, ((outT K nd i).1.getD K[i].l.toNat 0 : Nat), ((outT K nd i).1.getD K[i].r.toNat 0 : Nat)⟩ := by
            unfold redR
            rw [if_pos h0, setN_ne _ _ _ _ (by omega), setN_ne _ _ _ _ (by omega)]
          rw [hr] at hat ⊢
          have a := at1 _ (by omega) hcc.1
          have b := at1 _ (by omega) hcc.2
          refine ⟨by rw [ok_pair (by rfl)]; simp only; omega, fun h => ?_⟩
          rw [(lens_pairO h hat (by rfl)).2.2]
          simp only [Int.toNat_natCast]
          rw [lens_pre _ _ _ a.1, lens_pre _ _ _ b.1, a.2, b.2, hp.2.2]
        · have hr : redR ((outT K nd i).1.set i (outT K nd i).2.length) K[i] = K[i] := by unfold redR; rw [if_neg h0]
          rw [hr] at hat ⊢
          exact ⟨letter_any h0 (fits_at hK i (by omega)), fun _ => by rw [lens_letO hat h0, lens_letO hki h0]⟩
      have hf := fits_snoc fit hX.1
      have hx2 := hX.2 hf
      refine ⟨by rw [he]; exact hf, fun j hj hnj => ?_, fun p hp => ?_, fun j hj hnj hno => ?_⟩
      · rw [he]
        simp only [List.length_append, List.length_singleton]
        by_cases e : i = j
        · subst e
          rw [setN_self _ _ _ (by rw [hlen, hl]; omega)]
          exact ⟨by omega, hx2⟩
        · rw [setN_ne _ _ _ _ e]
          have a := at1 j (by omega) hnj
          exact ⟨by omega, by rw [lens_pre _ _ _ a.1]; exact a.2⟩
      · rw [he] at hp ⊢
        simp only [List.length_append, List.length_singleton] at hp ⊢
        rcases Nat.lt_or_ge p (outT K nd i).2.length with h' | h'
        · obtain ⟨j, h1, h2, h3⟩ := all1 p h'
          exact ⟨j, by omega, h2, by rw [lens_pre _ _ _ h']; exact h3⟩
        · obtain rfl : p = (outT K nd i).2.length := by omega
          exact ⟨i, by omega, hn, hx2⟩
      · rw [he]
        simp only [List.length_append, List.length_singleton]
        by_cases e : i = j
        · subst e
          rw [setN_self _ _ _ (by rw [hlen, hl]; omega)]
        · have := hno i (by omega) (by omega)
          rw [hn] at this
          cases this
    · have he : outT K nd (i + 1) = outT K nd i := by rw [outT, if_neg hn]
      obtain ⟨fit, at1, all1, top1⟩ := ih
      have hne : ∀ j, j < i + 1 → nd.getD j false = true → j < i := fun j hj h => by
        by_cases e : j = i
        · subst e; exact absurd h hn
        · omega
      refine ⟨by rw [he]; exact fit, fun j hj h => by rw [he]; exact at1 j (hne j hj h) h, fun p hp => ?_, fun j hj h hno => by rw [he]; exact top1 j (hne j hj h) h fun j' a b => hno j' a (by omega)⟩
      rw [he] at hp ⊢
      obtain ⟨j, h1, h2, h3⟩ := all1 p hp
      exact ⟨j, by omega, h2, h3⟩
theorem trim_word {gs : List Rl} (hfit : fits gs = true) : fits (trimG gs) = true ∧ (∀ p, p < (trimG gs).length → ∃ j, j < gs.length ∧ (lens (trimG gs)).getD p 0 = (lens gs).getD j 0) ∧ wordLen (trimG gs) = wordLen gs := by
  rcases Nat.eq_zero_or_pos gs.length with h0 | h0
  · have : gs = [] := List.eq_nil_of_length_eq_zero h0
    subst this
    exact ⟨fits_nil, fun p hp => by simp [trim_nil] at hp, rfl⟩
  · have hK := kT_fits hfit
    have hKl := kT_len gs gs.length
    have hF := fT_le gs gs.length (gs.length - 1) (by omega)
    obtain ⟨tp, htp⟩ : ∃ tp, tp = (fT gs gs.length).getD (gs.length - 1) 0 := ⟨_, rfl⟩
    rw [← htp] at hF
    have hnl : ((List.replicate gs.length false).set tp true).length = (kT gs gs.length).length := by simp [hKl]
    have hinv := nd_inv hK ((List.replicate gs.length false).set tp true) tp hnl (fun i h => by
      by_cases e : tp = i
      · omega
      · rw [List.getD_eq_getElem?_getD, List.getElem?_set_ne e, List.getElem?_replicate] at h
        split at h <;> cases h) (set1_at _ _ (by simp; omega)) gs.length (by omega)
    rw [hKl] at hinv
    have hnd : ndT (kT gs gs.length) ((List.replicate gs.length false).set tp true) gs.length gs.length = ndAll gs := by unfold ndAll; rw [htp]
    rw [hnd] at hinv
    obtain ⟨n1, n2, n3⟩ := hinv
    have hout := out_inv hK (nd := ndAll gs) (by rw [ndAll_len, hKl]) (fun i x h hx hz => n3 i x (by omega) h hx hz) gs.length (by omega)
    obtain ⟨fit, at1, all1, top1⟩ := hout
    have htop := top1 tp (by omega) n1 fun j' a _ => by
      cases hc : (ndAll gs).getD j' false with
      | false => rfl
      | true => have := n2 j' hc; omega
    have hat := at1 tp (by omega) n1
    have hlens := fun j (hj : j < gs.length) => kT_lens hfit (j + 1) j (by omega) hj
    have hsame : (lens (kT gs gs.length)).getD tp 0 = (lens gs).getD (gs.length - 1) 0 := by
      rw [htp, lens_same hK (first_at gs (gs.length - 1) (by omega)) (kT_pre gs (gs.length - 1) gs.length (by omega)), hlens _ (by omega)]
    refine ⟨fit, fun p hp => ?_, ?_⟩
    · obtain ⟨j, h1, _, h3⟩ := all1 p hp
      unfold trimG
      exact ⟨j, h1, by rw [h3, hlens j h1]⟩
    · unfold wordLen trimG
      rw [show (outT (kT gs gs.length) (ndAll gs) gs.length).2.length - 1 = (outT (kT gs gs.length) (ndAll gs) gs.length).1.getD tp 0 from by omega, hat.2, hsame]
theorem trim_ok {gs : List Rl} (hok : gOk gs = true) : gOk (trimG gs) = true ∧ wordLen (trimG gs) = wordLen gs := by
  obtain ⟨hl4, hfit, hsm⟩ := gOk_iff.1 hok
  obtain ⟨h1, h2, h3⟩ := trim_word hfit
  refine ⟨gOk_iff.2 ⟨Nat.le_trans (trimG_le gs) hl4, h1, decide_eq_true fun p hp => ?_⟩, h3⟩
  obtain ⟨j, hj, he⟩ := h2 p hp
  rw [he]
  exact small_at hsm j hj
end Wd
end Go.Proofs.Ytlgpleeanmeenaa
namespace Go.Proofs.Ytlgpleeanmeenaa
open Go.RowKit
open Wd
set_option linter.unusedVariables false

theorem rules_gpT {w : World} {v : Value} {gs : List Rl} (h : Rules w v gs) (t : TypeId) : GP (w.alloc (.cells #[v] t)) w.heap.size gs :=
  ⟨v, cell_new w v t, h.kept ((Below.refl _ w).alloc (Nat.le_refl _) _)⟩
/-- a variable in a block of its own -/
def Var (w : World) (b : Nat) (v : Value) (t : TypeId) : Prop := w.heap[b]? = some (.cells #[v] t (0, 0))
theorem Var.new (w : World) (v : Value) (t : TypeId) : Var (w.alloc (.cells #[v] t)) w.heap.size v t := heap_alloc_new w _
theorem Var.cell {w : World} {b : Nat} {v : Value} {t : TypeId} (h : Var w b v t) : w.cell? ⟨b, 0, none⟩ = some v ∧ w.frozen? ⟨b, 0, none⟩ = false := by
  refine ⟨by rw [cell_of_row _ _ _ _ _ _ h]; rfl, ?_⟩
  unfold Var at h
  simp [World.frozen?, h]
theorem Var.lt {w : World} {b : Nat} {v : Value} {t : TypeId} (h : Var w b v t) : b < w.heap.size := (Array.getElem?_eq_some_iff.1 h).1
theorem Var.kept {w w' : World} {b : Nat} {v : Value} {t : TypeId} (h : Var w b v t) (hb : Below w.heap.size w w') : Var w' b v t := (hb.block b h.lt).trans h
theorem Var.far {w : World} {b : Nat} {v : Value} {t : TypeId} (h : Var w b v t) (p : Addr) (u : Value) (hp : b ≠ p.block) : Var (w.setCell p u) b v t := (Below.heap_setCell w p u b hp).trans h
theorem Var.drewN {w : World} {b : Nat} {v : Value} {t : TypeId} (h : Var w b v t) (n : Nat) : Var (w.drewN n) b v t := h
theorem rules_cases {w : World} {v : Value} {gs : List Rl} (h : Rules w v gs) :
    (∃ c, v = .slice none 0 c ∧ gs = []) ∨ ∃ ad c, v = .slice (some ad) gs.length c ∧ ∀ j u, (rv gs)[j]? = some u → w.cell? (ad.add j) = some u := by
  obtain ⟨A, c, rfl, h | ⟨g, rfl, hg, hc⟩⟩ := h
  · subst h
    cases A with
    | none => exact .inl ⟨c, rfl, rfl⟩
    | some ad => exact .inr ⟨ad, c, rfl, fun j u hu => by simp [rv] at hu⟩
  · refine .inr ⟨_, c, rfl, fun j u hu => ?_⟩
    have := hc j u hu
    unfold Addr.add
    split
    · subst_vars; exact this
    · simpa using this

end Go.Proofs.Ytlgpleeanmeenaa
namespace Go.Proofs.Ytlgpleeanmeenaa
open Go.RowKit
open Wd
set_option linter.unusedVariables false

theorem ta_ll (v : Value) (w : World) : (Instr.typeAssert (.iface 222 v) 220 222 true).run Try.prog w = .ok (.tuple #[v, .bool true]) w := by kernel_rfl
theorem ta_pp (v : Value) (w : World) : (Instr.typeAssert (.iface 223 v) 220 223 true).run Try.prog w = .ok (.tuple #[v, .bool true]) w := by kernel_rfl
theorem ta_pl (v : Value) (w : World) : (Instr.typeAssert (.iface 223 v) 220 222 true).run Try.prog w = .ok (.tuple #[.agg #[.string ⟨#[]⟩, .int .i64 0, .int .i64 0], .bool false]) w := by kernel_rfl

namespace Wd
/-- rules in a block below a number -/
def RulesU (B : Nat) (w : World) (v : Value) (gs : List Rl) : Prop :=
  ∃ A c, v = .slice A gs.length c ∧ (gs = [] ∨ ∃ g, A = some ⟨g, 0, none⟩ ∧ g < B ∧ ∀ j u, (rv gs)[j]? = some u → w.cell? ⟨g, j, none⟩ = some u)
theorem Rules.under {w w' : World} {v : Value} {gs : List Rl} (h : Rules w v gs) (hb : Below w.heap.size w w') : RulesU w.heap.size w' v gs := by
  obtain ⟨A, c, hv, h | ⟨g, hA, hg, hc⟩⟩ := h
  · exact ⟨A, c, hv, .inl h⟩
  · exact ⟨A, c, hv, .inr ⟨g, hA, hg, fun j u hu => (hb.cell (p := ⟨g, j, none⟩) hg).trans (hc j u hu)⟩⟩
/-- what a memory may hold -/
def MemOk (V : Nat → Int) (mem : List Int) : Prop := ∀ k, k < mem.length → mem.getD k 0 = 0 ∨ mem.getD k 0 = V k
theorem MemOk.set {V : Nat → Int} {mem : List Int} (h : MemOk V mem) (k : Nat) : MemOk V (mem.set k (V k)) := by
  intro j hj
  have hj' : j < mem.length := by simpa using hj
  by_cases e : k = j
  · subst e; right; simp [List.getD_eq_getElem?_getD, hj']
  · have := h j hj'
    simpa [List.getD_eq_getElem?_getD, List.getElem?_set_ne e] using this
theorem MemOk.zero (V : Nat → Int) (n : Nat) : MemOk V (List.replicate n 0) := by
  intro k hk; left
  simp at hk
  simp [List.getD_eq_getElem?_getD, hk]
end Wd

/-- the closure, and what it has captured -/
abbrev measV (bm br bj bf : Nat) : Value := .func (.func 202) #[] #[.pointer (some ⟨bm, 0, none⟩), .pointer (some ⟨br, 0, none⟩), .pointer (some ⟨bj, 0, none⟩), .pointer (some ⟨bf, 0, none⟩)]
/-- the captured variables, and the memory -/
structure MeasSt (B bm br bj bf M : Nat) (jv : Value) (gs : List Rl) (w : World) : Prop where
  m : w.cell? ⟨bm, 0, none⟩ = some (.slice (some ⟨M, 0, none⟩) gs.length gs.length)
  r : ∃ v, w.cell? ⟨br, 0, none⟩ = some v ∧ RulesU B w v gs
  j : w.cell? ⟨bj, 0, none⟩ = some jv
  f : w.cell? ⟨bf, 0, none⟩ = some (measV bm br bj bf)
  nm : bm ≠ M
  nr : br ≠ M
  nj : bj ≠ M
  nf : bf ≠ M
  hB : B ≤ M
  hs : B ≤ w.heap.size
theorem MeasSt.kept {B bm br bj bf M : Nat} {jv : Value} {gs : List Rl} {w w' : World} (h : MeasSt B bm br bj bf M jv gs w) (hg : w.grownBy w' (some M)) : MeasSt B bm br bj bf M jv gs w' := by
  have hcell : ∀ (b o : Nat) v, b ≠ M → w.cell? ⟨b, o, none⟩ = some v → w'.cell? ⟨b, o, none⟩ = some v := fun b o v hne hc => by
    rw [World.cell?_of_block (a := ⟨b, o, none⟩) (hg.block b (lt_of_cell hc) (fun e => hne (by injection e)))]; exact hc
  obtain ⟨v, hv, A, c, rfl, hr⟩ := h.r
  refine ⟨hcell _ _ _ h.nm h.m, ⟨_, hcell _ _ _ h.nr hv, A, c, rfl, ?_⟩, hcell _ _ _ h.nj h.j, hcell _ _ _ h.nf h.f, h.nm, h.nr, h.nj, h.nf, h.hB, Nat.le_trans h.hs hg.size⟩
  rcases hr with hr | ⟨g, hA, hg', hc⟩
  · exact .inl hr
  · exact .inr ⟨g, hA, hg', fun j u hu => hcell _ _ _ (by have := h.hB; omega) (hc j u hu)⟩

/-- what a measuring leaves -/
def MeasPost (B M : Nat) (gs : List Rl) (V : Nat → Int) (k : Nat) (w : World) (e : Ending) (w' : World) : Prop :=
  e = .returned (.int .i64 (V k)) ∧ (∃ mem : List Int, mem.length = gs.length ∧ MemOk V mem ∧ w'.ownsRow B 2 1 (.slice (some ⟨M, 0, none⟩) gs.length gs.length) gs.length (iv mem)) ∧ w.grownBy w' (some M)

set_option maxRecDepth 100000 in
set_option maxHeartbeats 3200000 in
/-- a measure that is known -/
theorem meas_known (B bm br bj bf M : Nat) (jv : Value) (gs : List Rl) (V : Nat → Int) (k : Nat) (w : World) (hk : k < gs.length) (hn : gs.length ≤ 1048576) (hst : MeasSt B bm br bj bf M jv gs w)
    (mem : List Int) (hl : mem.length = gs.length) (hm : MemOk V mem) (hown : w.ownsRow B 2 1 (.slice (some ⟨M, 0, none⟩) gs.length gs.length) gs.length (iv mem)) (h1 : 0 < V k) (h2 : mem.getD k 0 = V k) :
    Calls Try.prog 202 #[.int .i64 k, .pointer (some ⟨bm, 0, none⟩), .pointer (some ⟨br, 0, none⟩), .pointer (some ⟨bj, 0, none⟩), .pointer (some ⟨bf, 0, none⟩)] w (MeasPost B M gs V k w) := by
  have HP : Hid (MeasPost B M gs V k w (.returned (.int .i64 (V k))) w) := Lib.hid ⟨rfl, ⟨mem, hl, hm, hown⟩, World.grownBy.refl _ _⟩
  have hc : w.cell? ⟨M, k, none⟩ = some (.int .i64 (V k)) := by
    rw [hown.cellAt k (by omega)]
    simp only [iv, List.getElem?_map]
    rw [List.getD_eq_getElem?_getD, List.getElem?_eq_getElem (by omega), Option.getD_some] at h2
    rw [List.getElem?_eq_getElem (by omega), Option.map_some, h2]
  have hm1 := hst.m
  generalize V k = z at *
  generalize gs.length = n at *
  clear hown hm hl hst h2
  go_enter Try.func202, Try.ntmps202
  go_wp2_with fail
  go_ret
  exact HP.out
theorem iv_at {mem : List Int} {k : Nat} (h : k < mem.length) : (iv mem)[k]? = some (.int .i64 (mem.getD k 0)) := by
  simp only [iv, List.getElem?_map]
  rw [List.getD_eq_getElem?_getD, List.getElem?_eq_getElem h, Option.getD_some, Option.map_some]
theorem iv_setk (mem : List Int) (k : Nat) (z : Int) : iv (mem.set k z) = (iv mem).set k (.int .i64 z) := by simp [iv, List.map_set]
theorem gbOf {w w' : World} (h : Below w.heap.size w w') (row : Option Nat) : w.grownBy w' row := ⟨h.os, h.tape, h.output, h.size, fun i hi _ => h.block i hi⟩
theorem gbTrans {a b c : World} {row : Option Nat} (h : a.grownBy b row) (h' : b.grownBy c row) : a.grownBy c row :=
  ⟨h'.os.trans h.os, h'.tape.trans h.tape, h'.output.trans h.output, Nat.le_trans h.size h'.size, fun i hi hne => (h'.block i (Nat.lt_of_lt_of_le hi h.size) hne).trans (h.block i hi hne)⟩
theorem only_alloc {a w : World} {row : Option Nat} (h : a.grownBy w row) (o : Obj) : a.grownBy (w.alloc o) row :=
  ⟨h.os, h.tape, h.output, Nat.le_trans h.size (by simp), fun i hi hne => (Below.heap_alloc w o i (Nat.lt_of_lt_of_le hi h.size)).trans (h.block i hi hne)⟩

set_option maxRecDepth 100000 in
set_option maxHeartbeats 3200000 in
/-- a letter -/
theorem meas_letter (B bm br bj bf M : Nat) (jv : Value) (gs : List Rl) (V : Nat → Int) (k : Nat) (w : World) (hk : k < gs.length) (hn : gs.length ≤ 1048576) (hst : MeasSt B bm br bj bf M jv gs w)
    (mem : List Int) (hl : mem.length = gs.length) (hm : MemOk V mem) (hown : w.ownsRow B 2 1 (.slice (some ⟨M, 0, none⟩) gs.length gs.length) gs.length (iv mem)) (h1 : V k = 1) (h2 : mem.getD k 0 = 0) (h0 : gs[k].L.size ≠ 0) :
    Calls Try.prog 202 #[.int .i64 k, .pointer (some ⟨bm, 0, none⟩), .pointer (some ⟨br, 0, none⟩), .pointer (some ⟨bj, 0, none⟩), .pointer (some ⟨bf, 0, none⟩)] w (MeasPost B M gs V k w) := by
  have hc : w.cell? ⟨M, k, none⟩ = some (.int .i64 0) := by
    rw [hown.cellAt k (by omega), iv_at (by omega), h2]
  have hm1 := hst.m
  obtain ⟨v, hv, A, c, rfl, hr⟩ := hst.r
  rcases hr with hr | ⟨g, rfl, hg, hcc⟩
  · rw [hr] at hk; simp at hk
  obtain ⟨a0, a1, a2⟩ := rules_cells hcc hk
  have HK := Lib.hid (fun W => kind_letter gs[k] h0 W)
  have HTA := ta_ll
  have H1 := Lib.hid h1
  have HL := Lib.hid hl
  have HM := Lib.hid hm
  obtain ⟨n, hng⟩ : ∃ n, n = gs.length := ⟨_, rfl⟩
  have HN := Lib.hid hng
  have hkn : k < n := by omega
  rw [← hng] at hm1 hv hn
  clear hng hcc h2 h1 hl hm
  go_enter Try.func202, Try.ntmps202
  go_wp2_with fail
  refine (HK.out _).mono ?_
  rintro e w1 ⟨rfl, hB1⟩
  have l1 := lt_of_cell hm1
  have l2 := lt_of_cell hc
  have d1 := (hB1.cell (p := ⟨bm, 0, none⟩) l1).trans hm1
  have d2 := (hB1.cell (p := ⟨M, k, none⟩) l2).trans hc
  have hown1 := own_below hown hB1 (Nat.le_refl _)
  have f2 : w1.frozen? ⟨M, k, none⟩ = false := by rw [← HN.out] at hown1; exact hown1.frozenAt _
  have l3 : bm < w1.heap.size := Nat.lt_of_lt_of_le l1 hB1.size
  have l4 : M < w1.heap.size := Nat.lt_of_lt_of_le l2 hB1.size
  have HP : Hid (∀ o : Obj, MeasPost B M gs V k w (.returned (.int .i64 1)) ((w1.setCell ⟨M, k, none⟩ (.int .i64 1)).alloc o)) := Lib.hid fun o => by
    obtain ⟨h5, h6⟩ := hown1.stored k (.int .i64 1)
    refine ⟨by rw [H1.out], ⟨mem.set k (V k), by simpa using HL.out, HM.out.set k, ?_⟩, ?_⟩
    · rw [H1.out, iv_setk]; exact World.ownsRow.alloc h5 o
    · exact only_alloc (gbTrans (gbOf hB1 (some M)) h6) o
  have d3 : (w1.setCell ⟨M, k, none⟩ (.int .i64 1)).cell? ⟨bm, 0, none⟩ = some (.slice (some ⟨M, 0, none⟩) n n) := by
    rw [World.cell?_setCell_other _ _ _ _ (fun e => hst.nm (congrArg Addr.block e).symm)]; exact d1
  have d4 : (w1.setCell ⟨M, k, none⟩ (.int .i64 1)).cell? ⟨M, k, none⟩ = some (.int .i64 1) := World.cell?_setCell_same _ _ _ d2
  clear hown hown1 a0 a1 a2 hv hc hm1 hst hB1 l1 l2
  go_wp2_with fail
  go_ret
  exact HP.out _
/-- all that a measuring wants, and keeps -/
def MInv (B bm br bj bf M : Nat) (jv : Value) (gs : List Rl) (V : Nat → Int) (w : World) : Prop :=
  MeasSt B bm br bj bf M jv gs w ∧ ∃ mem : List Int, mem.length = gs.length ∧ MemOk V mem ∧ w.ownsRow B 2 1 (.slice (some ⟨M, 0, none⟩) gs.length gs.length) gs.length (iv mem)
theorem MeasSt.drewN {B bm br bj bf M : Nat} {jv : Value} {gs : List Rl} {w : World} (h : MeasSt B bm br bj bf M jv gs w) (n : Nat) : MeasSt B bm br bj bf M jv gs (w.drewN n) :=
  ⟨h.m, h.r, h.j, h.f, h.nm, h.nr, h.nj, h.nf, h.hB, h.hs⟩
theorem MInv.drewN {B bm br bj bf M : Nat} {jv : Value} {gs : List Rl} {V : Nat → Int} {w : World} (h : MInv B bm br bj bf M jv gs V w) (n : Nat) : MInv B bm br bj bf M jv gs V (w.drewN n) :=
  ⟨h.1.drewN n, h.2⟩
theorem MInv.below {B bm br bj bf M : Nat} {jv : Value} {gs : List Rl} {V : Nat → Int} {w w' : World} (h : MInv B bm br bj bf M jv gs V w) (hb : Below w.heap.size w w') : MInv B bm br bj bf M jv gs V w' := by
  obtain ⟨h1, mem, h2, h3, h4⟩ := h
  exact ⟨h1.kept (gbOf hb _), mem, h2, h3, own_below h4 hb (Nat.le_refl _)⟩
theorem MeasPost.inv {B bm br bj bf M : Nat} {jv : Value} {gs : List Rl} {V : Nat → Int} {k : Nat} {w w' : World} {e : Ending} (h : MeasPost B M gs V k w e w') (h1 : MeasSt B bm br bj bf M jv gs w) :
    e = .returned (.int .i64 (V k)) ∧ MInv B bm br bj bf M jv gs V w' ∧ w.grownBy w' (some M) :=
  ⟨h.1, ⟨h1.kept h.2.2, h.2.1⟩, h.2.2⟩
theorem MInv.slot {B bm br bj bf M : Nat} {jv : Value} {gs : List Rl} {V : Nat → Int} {w : World} (h : MInv B bm br bj bf M jv gs V w) {k : Nat} (hk : k < gs.length) :
    (∃ z, w.cell? ⟨M, k, none⟩ = some (.int .i64 z)) ∧ w.frozen? ⟨M, k, none⟩ = false := by
  obtain ⟨h1, mem, h2, h3, h4⟩ := h
  exact ⟨⟨_, by rw [h4.cellAt k (by omega)]; exact iv_at (by omega)⟩, h4.frozenAt _⟩
theorem MInv.store {B bm br bj bf M : Nat} {jv : Value} {gs : List Rl} {V : Nat → Int} {w : World} (h : MInv B bm br bj bf M jv gs V w) {k : Nat} :
    MInv B bm br bj bf M jv gs V (w.setCell ⟨M, k, none⟩ (.int .i64 (V k))) ∧ w.grownBy (w.setCell ⟨M, k, none⟩ (.int .i64 (V k))) (some M) := by
  obtain ⟨h1, mem, h2, h3, h4⟩ := h
  obtain ⟨h5, h6⟩ := h4.stored k (.int .i64 (V k))
  exact ⟨⟨h1.kept h6, mem.set k (V k), by simpa using h2, h3.set k, by rw [iv_setk]; exact h5⟩, h6⟩

theorem MInv.held {B bm br bj bf M K n : Nat} {jv : Value} {gs : List Rl} {V : Nat → Int} {w w' : World} {a b : Int} (h : MInv B bm br bj bf M jv gs V w') (hg : w.grownBy w' (some M)) (hn : n = gs.length) (hK : K ≠ M)
    (h1 : w.cell? ⟨K, 1, none⟩ = some (.int .i64 a)) (h2 : w.cell? ⟨K, 2, none⟩ = some (.int .i64 b)) :
    w'.cell? ⟨bm, 0, none⟩ = some (.slice (some ⟨M, 0, none⟩) n n) ∧ w'.cell? ⟨bj, 0, none⟩ = some jv ∧ w'.cell? ⟨bf, 0, none⟩ = some (measV bm br bj bf) ∧ w'.cell? ⟨K, 1, none⟩ = some (.int .i64 a) ∧ w'.cell? ⟨K, 2, none⟩ = some (.int .i64 b) := by
  have hcell : ∀ (o : Nat) v, w.cell? ⟨K, o, none⟩ = some v → w'.cell? ⟨K, o, none⟩ = some v := fun o v hc => by
    rw [World.cell?_of_block (a := ⟨K, o, none⟩) (hg.block K (lt_of_cell hc) (fun e => hK (by injection e)))]; exact hc
  exact ⟨by rw [hn]; exact h.1.m, h.1.j, h.1.f, hcell _ _ h1, hcell _ _ h2⟩
theorem grownBy_drewN {a w : World} {row : Option Nat} (h : a.grownBy w row) (n : Nat) : a.grownBy (w.drewN n) row := ⟨h.os, h.tape, h.output, h.size, h.block⟩
theorem grownBy_undrew {a w : World} {row : Option Nat} {n : Nat} (h : (a.drewN n).grownBy w row) : a.grownBy w row := ⟨h.os, h.tape, h.output, h.size, h.block⟩

/-- a measuring at a number -/
abbrev MeasCalls (B bm br bj bf M : Nat) (jv : Value) (gs : List Rl) (V : Nat → Int) (k : Nat) (w : World) : Prop :=
  Calls Try.prog 202 #[.int .i64 k, .pointer (some ⟨bm, 0, none⟩), .pointer (some ⟨br, 0, none⟩), .pointer (some ⟨bj, 0, none⟩), .pointer (some ⟨bf, 0, none⟩)] w
    fun e w' => e = .returned (.int .i64 (V k)) ∧ MInv B bm br bj bf M jv gs V w' ∧ w.grownBy w' (some M)

end Go.Proofs.Ytlgpleeanmeenaa
namespace Go.Proofs.Ytlgpleeanmeenaa.len
open Go.RowKit
open Wd
set_option linter.unusedVariables false

/-- the join of lengths -/
abbrev joinV : Value := .func (.func 185) #[] #[]

set_option maxRecDepth 100000 in
set_option maxHeartbeats 6400000 in
/-- a pair, out of its two rules -/
theorem meas_pair (B bm br bj bf M : Nat) (gs : List Rl) (V : Nat → Int) (k a b : Nat) (w : World) (hk : k < gs.length) (hn : gs.length ≤ 1048576) (hI : MInv B bm br bj bf M joinV gs V w)
    (h0 : gs[k].L.size = 0) (ha : gs[k].l = a) (hb : gs[k].r = b) (hak : a < k) (hbk : b < k)
    (hz : w.cell? ⟨M, k, none⟩ = some (.int .i64 0))
    (hA : ∀ W, MInv B bm br bj bf M joinV gs V W → MeasCalls B bm br bj bf M joinV gs V a W)
    (hB : ∀ W, MInv B bm br bj bf M joinV gs V W → MeasCalls B bm br bj bf M joinV gs V b W)
    (hJ : ∀ W, Calls Try.prog 185 #[.int .i64 (V a), .int .i64 (V b)] W fun e w' => e = .returned (.int .i64 (V k)) ∧ W = w') :
    MeasCalls B bm br bj bf M joinV gs V k w := by
  have hst := hI.1
  have hm1 := hst.m
  obtain ⟨v, hv, A, c, rfl, hr⟩ := hst.r
  rcases hr with hr | ⟨g, rfl, hg, hcc⟩
  · rw [hr] at hk; simp at hk
  obtain ⟨a0, a1, a2⟩ := rules_cells hcc hk
  have HK := Lib.hid (fun W => kind_pair gs[k] h0 W)
  have he := empty_arr h0
  rw [ha] at a1
  rw [hb] at a2
  have HX := Lib.hid (show agg3 gs[k] = .agg #[.string ⟨#[]⟩, .int .i64 a, .int .i64 b] by unfold agg3; rw [he, ha, hb])
  have HTP := ta_pp
  have HTL := ta_pl
  obtain ⟨n, hng⟩ : ∃ n, n = gs.length := ⟨_, rfl⟩
  have HN := Lib.hid hng
  have hkn : k < n := by omega
  rw [← hng] at hm1 hv hn
  rw [he] at a0
  rw [HX.out] at HK
  have HI := Lib.hid hI
  have HA := Lib.hid hA
  have HB := Lib.hid hB
  have HJ := Lib.hid hJ
  have HS := Lib.hid hst
  clear hng hcc ha hb he hI hst hA hB hJ
  go_enter Try.func202, Try.ntmps202
  go_wp2_with fail
  refine (HK.out _).mono ?_
  rintro e w1 ⟨rfl, hB1⟩
  have HI1 := Lib.hid (HI.out.below hB1)
  have hm2 := HI1.out.1.m
  rw [← HN.out] at hm2
  have hj2 := HI1.out.1.j
  have hf2 := HI1.out.1.f
  have l1 := lt_of_cell hm2
  have l2 := lt_of_cell hj2
  have l3 := lt_of_cell hf2
  clear a0 a1 a2 hv hm1 hz
  go_wp2_with fail
  have hB2 := hB1.alloc hB1.size (.cells #[.string ⟨#[]⟩, .int .i64 a, .int .i64 b] 223)
  have HI2 := Lib.hid (HI.out.below hB2)
  obtain ⟨K, hKe⟩ : ∃ K, K = w1.heap.size := ⟨_, rfl⟩
  have c1 : (w1.alloc (.cells #[.string ⟨#[]⟩, .int .i64 a, .int .i64 b] 223)).cell? ⟨K, 1, none⟩ = some (.int .i64 a) := by rw [hKe, cell_of_row _ _ _ _ _ _ (heap_alloc_new w1 _)]; rfl
  have c2 : (w1.alloc (.cells #[.string ⟨#[]⟩, .int .i64 a, .int .i64 b] 223)).cell? ⟨K, 2, none⟩ = some (.int .i64 b) := by rw [hKe, cell_of_row _ _ _ _ _ _ (heap_alloc_new w1 _)]; rfl
  have hKM : K ≠ M := by
    obtain ⟨z, hz⟩ := (HI1.out.slot hk).1
    have := lt_of_cell hz
    simp only at this
    omega
  rw [← hKe]
  generalize w1.alloc (.cells #[.string ⟨#[]⟩, .int .i64 a, .int .i64 b] 223) = w2 at *
  have HH := Lib.hid (fun w' (h : MInv B bm br bj bf M joinV gs V w') (hg : w2.grownBy w' (some M)) => h.held hg HN.out hKM c1 c2)
  have HS2 := Lib.hid (HH.out _ HI2.out (World.grownBy.refl _ _))
  clear hm2 hj2 hf2 l1 l2 l3 hKe
  obtain ⟨t1, t2, t3, t4, t5⟩ := HS2.out
  clear c1 c2
  go_region_held3 (fun w' => w'.cell? ⟨bm, 0, none⟩ = some (.slice (some ⟨M, 0, none⟩) n n) ∧ w'.cell? ⟨bj, 0, none⟩ = some (.func (.func 185) #[] #[]) ∧ w'.cell? ⟨bf, 0, none⟩ = some (measV bm br bj bf) ∧ w'.cell? ⟨K, 1, none⟩ = some (.int .i64 a) ∧ w'.cell? ⟨K, 2, none⟩ = some (.int .i64 b))
    (first | go_keep | exact hSA | exact hSB | exact HSC.out)
    (first
      | (go_at_call_of 202 (Value.int .i64 a); refine (HA.out _ (HI2.out.drewN _)).mono ?_; rintro e wA ⟨rfl, hIA, hgA⟩; have hSA := HH.out _ hIA (grownBy_undrew hgA))
      | (go_at_call_of 202 (Value.int .i64 b); refine (HB.out _ hIA).mono ?_; rintro e wB ⟨rfl, hIB, hgB⟩; have hSB := HH.out _ hIB (gbTrans (grownBy_undrew hgA) hgB); obtain ⟨⟨zB, hzB⟩, hfB⟩ := hIB.slot hk; have hstB := Lib.hid (hIB.store (k := k)); have hgB2 := Lib.hid (gbTrans (gbTrans (grownBy_undrew hgA) hgB) hstB.out.2); have HSC := Lib.hid (HH.out _ hstB.out.1 hgB2.out))
      | (go_at_call 185; refine (HJ.out _).mono ?_; rintro e wJ ⟨rfl, rfl⟩))
  have q1 := HSC.out.1
  have q2 : (wB.setCell ⟨M, k, none⟩ (.int .i64 (V k))).cell? ⟨M, k, none⟩ = some (.int .i64 (V k)) := World.cell?_setCell_same _ _ _ hzB
  have HF := Lib.hid (gbTrans (gbOf hB2 (some M)) hgB2.out)
  clear hSA hSB t1 t2 t3 t4 t5 hzB hfB hgA hgB hIA hIB
  go_wp2_with fail
  go_ret
  exact ⟨rfl, hstB.out.1, HF.out⟩

theorem join_any (a b : Int) (w : World) (h1 : 1 ≤ a) (h2 : a ≤ 1000000000000000) (h3 : 1 ≤ b) (h4 : b ≤ 1000000000000000) :
    Calls Try.prog 185 #[.int .i64 a, .int .i64 b] w fun e w' => e = .returned (.int .i64 (a + b)) ∧ w = w' := by
  go_enter Try.func185, Try.ntmps185
  go_wp2
  go_ret
  exact ⟨rfl, rfl⟩

/-- the length of a word, out of those below -/
def lenV (gs : List Rl) (j : Nat) : Int := (lens gs).getD j 0
theorem meas_any (B bm br bj bf M : Nat) (gs : List Rl) (hn : gs.length ≤ 1048576) : ∀ m k, k < m → (hk : k < gs.length) → UpTo gs k → gs[k].ok k = true → ∀ W, MInv B bm br bj bf M joinV gs (lenV gs) W → MeasCalls B bm br bj bf M joinV gs (lenV gs) k W
  | 0, k, hm, _, _, _, _, _ => by omega
  | m + 1, k, hm, hk, hu, hok, W, hI => by
    have hpos : 1 ≤ lenV gs k := lens_pos hk fun j hj hjk => by
      by_cases e : j = k
      · subst e; exact hok
      · exact (hu j hj (by omega)).1
    obtain ⟨hst, mem, hl, hmem, hown⟩ := hI
    rcases hmem k (by omega) with h2 | h2
    · by_cases h0 : gs[k].L.size = 0
      · obtain ⟨a, b, ha, hb, hak, hbk, hsum, pa1, pa2, pb1, pb2⟩ := lens_next hk hu hok h0
        have hz : W.cell? ⟨M, k, none⟩ = some (.int .i64 0) := by rw [hown.cellAt k (by omega), iv_at (by omega), h2]
        refine meas_pair B bm br bj bf M gs (lenV gs) k a b W hk hn ⟨hst, mem, hl, hmem, hown⟩ h0 ha hb hak hbk hz ?_ ?_ ?_
        · exact fun W' hI' => meas_any B bm br bj bf M gs hn m a (by omega) (by omega) (fun j hj hja => hu j hj (by omega)) (hu a (by omega) hak).1 W' hI'
        · exact fun W' hI' => meas_any B bm br bj bf M gs hn m b (by omega) (by omega) (fun j hj hjb => hu j hj (by omega)) (hu b (by omega) hbk).1 W' hI'
        · intro W'
          have := join_any (lenV gs a) (lenV gs b) W' pa1 pa2 pb1 pb2
          rw [← show lenV gs k = lenV gs a + lenV gs b from hsum] at this
          exact this
      · exact (meas_letter B bm br bj bf M joinV gs (lenV gs) k W hk hn hst mem hl hmem hown (vals_letter _ gs k hk h0) h2 h0).mono fun e w' h => h.inv hst
    · exact (meas_known B bm br bj bf M joinV gs (lenV gs) k W hk hn hst mem hl hmem hown (by omega) h2).mono fun e w' h => h.inv hst
end Go.Proofs.Ytlgpleeanmeenaa.len
namespace Go.Proofs.Ytlgpleeanmeenaa.len
open Go.RowKit
open Wd
set_option linter.unusedVariables false

theorem made_inv {w w1 : World} {B : Nat} {gs : List Rl} {A : Option Addr} {c n t1 t2 t3 t4 : Nat} (V : Nat → Int) (hn : n = gs.length) (hBs : B ≤ w.heap.size)
    (hr : gs = [] ∨ ∃ g, A = some ⟨g, 0, none⟩ ∧ g < B ∧ ∀ j u, (rv gs)[j]? = some u → w.cell? ⟨g, j, none⟩ = some u)
    (hown : w1.ownsRow w.heap.size 2 1 (.slice (some ⟨w.heap.size + 1 + 1, 0, none⟩) n n) n (iv (List.replicate n 0)))
    (hg : ((w.alloc (.cells #[.slice A n c] t1)).alloc (.cells #[joinV] t2)).grownBy w1 none) :
    w.heap.size + 1 + 1 < w1.heap.size ∧ Below w.heap.size w ((w1.alloc (.cells #[.slice (some ⟨w.heap.size + 1 + 1, 0, none⟩) n n] t3)).alloc (.cells #[measV w1.heap.size w.heap.size (w.heap.size + 1) (w1.heap.size + 1)] t4)) ∧
    MInv B w1.heap.size w.heap.size (w.heap.size + 1) (w1.heap.size + 1) (w.heap.size + 1 + 1) joinV gs V ((w1.alloc (.cells #[.slice (some ⟨w.heap.size + 1 + 1, 0, none⟩) n n] t3)).alloc (.cells #[measV w1.heap.size w.heap.size (w.heap.size + 1) (w1.heap.size + 1)] t4)) := by
  have hlt : w.heap.size + 1 + 1 < w1.heap.size := (hown.lt _ rfl).2
  have hB1 := below_of_grown hg
  have hBw : Below w.heap.size w w1 := (((Below.refl _ w).alloc (Nat.le_refl _) _).alloc (by simp) _).trans (hB1.mono (by simp; omega))
  obtain ⟨o1, ho1⟩ : ∃ o1, o1 = Obj.cells #[.slice (some ⟨w.heap.size + 1 + 1, 0, none⟩) n n] t3 := ⟨_, rfl⟩
  obtain ⟨o2, ho2⟩ : ∃ o2, o2 = Obj.cells #[measV w1.heap.size w.heap.size (w.heap.size + 1) (w1.heap.size + 1)] t4 := ⟨_, rfl⟩
  have hBf : Below w1.heap.size w1 ((w1.alloc o1).alloc o2) := ((Below.refl _ w1).alloc (Nat.le_refl _) _).alloc (by simp) _
  have c1 : ((w1.alloc o1).alloc o2).cell? ⟨w1.heap.size, 0, none⟩ = some (.slice (some ⟨w.heap.size + 1 + 1, 0, none⟩) n n) := by
    rw [((Below.refl _ (w1.alloc o1)).alloc (Nat.le_refl _) o2).cell (p := ⟨w1.heap.size, 0, none⟩) (by simp), ho1]; exact cell_new _ _ _
  have c2 : ((w1.alloc o1).alloc o2).cell? ⟨w1.heap.size + 1, 0, none⟩ = some (measV w1.heap.size w.heap.size (w.heap.size + 1) (w1.heap.size + 1)) := by
    have := cell_new (w1.alloc o1) (measV w1.heap.size w.heap.size (w.heap.size + 1) (w1.heap.size + 1)) t4
    rw [ho2]
    simp at this ⊢
  have c3 : ((w1.alloc o1).alloc o2).cell? ⟨w.heap.size, 0, none⟩ = some (.slice A n c) := by
    rw [hBf.cell (p := ⟨w.heap.size, 0, none⟩) (by simp; omega), hB1.cell (p := ⟨w.heap.size, 0, none⟩) (by simp; omega), ((Below.refl _ (w.alloc _)).alloc (Nat.le_refl _) _).cell (p := ⟨w.heap.size, 0, none⟩) (by simp)]; exact cell_new _ _ _
  have c4 : ((w1.alloc o1).alloc o2).cell? ⟨w.heap.size + 1, 0, none⟩ = some joinV := by
    rw [hBf.cell (p := ⟨w.heap.size + 1, 0, none⟩) (by simp; omega), hB1.cell (p := ⟨w.heap.size + 1, 0, none⟩) (by simp)]
    have := cell_new (w.alloc (.cells #[.slice A n c] t1)) joinV t2
    simp at this ⊢
  have hBa := hBw.trans (hBf.mono (by omega))
  have hoF := own_below (own_below hown ((Below.refl _ w1).alloc (Nat.le_refl _) o1) (Nat.le_refl _)) ((Below.refl _ (w1.alloc o1)).alloc (Nat.le_refl _) o2) (Nat.le_refl _)
  rw [← ho1, ← ho2]
  refine ⟨hlt, hBa, ⟨by rw [← hn]; exact c1, ⟨_, c3, A, c, by rw [hn], ?_⟩, c4, c2, by omega, by omega, by omega, by omega, by omega, Nat.le_trans hBs hBa.size⟩, List.replicate n 0, by simp [hn], MemOk.zero _ _, by rw [← hn]; exact own_lower hoF hBs⟩
  rcases hr with hr | ⟨g, hA, hg', hc⟩
  · exact .inl hr
  · exact .inr ⟨g, hA, hg', fun j u hu => (hBa.cell (p := ⟨g, j, none⟩) (Nat.lt_of_lt_of_le hg' hBs)).trans (hc j u hu)⟩
theorem made_i64 (n : Nat) : (madeCells #[.int .i64 0] n).toList = iv (List.replicate n 0) := by
  apply List.ext_getElem
  · simp [madeCells, iv]
  · intro i h1 h2
    simp [madeCells, iv, Nat.mod_one]

set_option maxRecDepth 100000 in
set_option maxHeartbeats 3200000 in
/-- impl.measured at the join of lengths -/
theorem measured_any (B : Nat) (v : Value) (gs : List Rl) (w : World) (hn : gs.length ≤ 1048576) (hBs : B ≤ w.heap.size) (hr : RulesU B w v gs) :
    Calls Try.prog 184 #[v, joinV] w fun e w' => ∃ bm br bj bf M, e = .returned (measV bm br bj bf) ∧ (w.heap.size ≤ bm ∧ w.heap.size ≤ br ∧ w.heap.size ≤ bj ∧ w.heap.size ≤ bf ∧ w.heap.size ≤ M) ∧ MInv B bm br bj bf M joinV gs (lenV gs) w' ∧ Below w.heap.size w w' := by
  obtain ⟨i0, hi, hz0, hz1, hz2⟩ := info_parts Try.info_i64
  obtain ⟨A, c, rfl, hr⟩ := hr
  obtain ⟨n, hng⟩ : ∃ n, n = gs.length := ⟨_, rfl⟩
  rw [← hng] at hn ⊢
  have HN := Lib.hid hng
  have HR := Lib.hid hr
  have HBS := Lib.hid hBs
  clear hng hr hBs
  go_enter Try.func184, Try.ntmps184
  go_wp2_with (refine wpList_make_full _ rfl _ _ 82 rfl w.heap.size 2 i0 (.int .i64 0) 1 Try.underlying82 hi hz0 hz1 .i64 .i64 _ _ n rfl rfl rfl rfl (by rw [hz2]; omega) (by unfold maxLen; omega) (by simp; omega) ?_)
  intro w1 hown hg
  rw [made_i64] at hown
  have hm := made_inv (t3 := 82) (t4 := 208) (lenV gs) HN.out HBS.out HR.out hown hg
  have HM := Lib.hid hm
  clear hown hg hm
  go_wp2
  go_ret
  obtain ⟨h1, h2, h3⟩ := HM.out
  exact ⟨_, _, _, _, _, rfl, ⟨by omega, by omega, by omega, by omega, by omega⟩, h3, h2⟩

theorem mt_p (v : Value) (w : World) : (method 371 223 v "loop.example/g01133/impl.fits").run Try.prog w = .ok (231, v) w := by kernel_rfl
theorem mt_l (v : Value) (w : World) : (method 371 222 v "loop.example/g01133/impl.fits").run Try.prog w = .ok (229, v) w := by kernel_rfl
/-- a store elsewhere -/
theorem MInv.far {B bm br bj bf M : Nat} {jv : Value} {gs : List Rl} {V : Nat → Int} {w : World} (h : MInv B bm br bj bf M jv gs V w) (L k : Nat) (u : Value) (hL : B ≤ L) (h1 : L < bm) (h2 : L < br) (h3 : L < bj) (h4 : L < bf) (h5 : L < M) :
    MInv B bm br bj bf M jv gs V (w.setCell ⟨L, k, none⟩ u) := by
  obtain ⟨hs, mem, hl, hm, ho⟩ := h
  have hc : ∀ (b o : Nat) v, L ≠ b → w.cell? ⟨b, o, none⟩ = some v → (w.setCell ⟨L, k, none⟩ u).cell? ⟨b, o, none⟩ = some v := fun b o v hne hc => by
    rw [World.cell?_setCell_other _ _ _ _ (fun e => hne (congrArg Addr.block e))]; exact hc
  obtain ⟨v, hv, A, c, rfl, hr⟩ := hs.r
  refine ⟨⟨hc _ _ _ (by omega) hs.m, ⟨_, hc _ _ _ (by omega) hv, A, c, rfl, ?_⟩, hc _ _ _ (by omega) hs.j, hc _ _ _ (by omega) hs.f, hs.nm, hs.nr, hs.nj, hs.nf, hs.hB, by simpa [World.setCell] using hs.hs⟩, mem, hl, hm, ?_⟩
  · rcases hr with hr | ⟨g, hA, hg', hcc⟩
    · exact .inl hr
    · exact .inr ⟨g, hA, hg', fun j u' hu => hc _ _ _ (by omega) (hcc j u' hu)⟩
  · exact World.ownsRow.kept ho (only_setCell (World.grownBy.refl w (some L)) (.inl rfl) u) (.inr (by simp [Value.ownBlock]; omega))
/-- the lengths so far, and zeros behind them -/
def lensK (gs : List Rl) (k : Nat) : List Int := lens (gs.take k) ++ List.replicate (gs.length - k) 0
theorem lensK_len (gs : List Rl) (k : Nat) (h : k ≤ gs.length) : (lensK gs k).length = gs.length := by
  simp [lensK, lens_len]; omega
theorem lensK_set (gs : List Rl) (k : Nat) (h : k < gs.length) : (lensK gs k).set k (lenV gs k) = lensK gs (k + 1) := by
  unfold lensK
  have h1 : (lens (gs.take k)).length = k := by rw [lens_len]; simp; omega
  rw [List.set_append_right _ _ (by omega), h1, Nat.sub_self, show gs.length - k = (gs.length - (k + 1)) + 1 from by omega, List.replicate_succ, List.set_cons_zero, lens_snoc h, List.append_assoc]
  rfl
theorem lensK_all (gs : List Rl) : lensK gs gs.length = lens gs := by simp [lensK]
theorem lensK_zero (gs : List Rl) : lensK gs 0 = List.replicate gs.length 0 := by simp [lensK, lens, vals, valsOn]
/-- all rules fit up to a number -/
def FitTo (gs : List Rl) (k : Nat) : Prop := ∀ j (h : j < gs.length), j < k → gs[j].ok j = true

set_option maxRecDepth 100000 in
set_option maxHeartbeats 3200000 in
theorem vlen_any (v : Value) (gs : List Rl) (w : World) (hf : FewR gs) (hr : Rules w v gs) :
    Calls Try.prog 132 #[.agg #[v]] w (LensPost gs w) := by
  have hR0 := hr
  obtain ⟨A, c, rfl, hr⟩ := hr
  have hn := hf.len
  by_cases hlong : 400 < gs.length
  · have HP : Hid (∀ x w', Below w.heap.size w w' → LensPost gs w (.returned (.tuple #[x, .bool false])) w') := Lib.hid fun x w' hb => ⟨x, by rw [gOk_long hlong], fun h' => by (rw [gOk_long hlong] at h'; cases h'), hb⟩
    clear hr hR0
    go_enter Try.func132, Try.ntmps132
    go_wp2
    go_ret2
    exact HP.out _ _ ((Below.refl _ _).alloc (Nat.le_refl _) _)
  · have h4 : gs.length ≤ 400 := by omega
    have HG := Lib.hid (gOk_short h4)
    obtain ⟨n, hng⟩ : ∃ n, n = gs.length := ⟨_, rfl⟩
    rw [← hng] at hn h4 ⊢
    have HN := Lib.hid hng
    have HR := Lib.hid hr
    have HR0 := Lib.hid hR0
    have HF := Lib.hid hf
    clear hr hR0 hf hlong hng
    go_enter Try.func132, Try.ntmps132
    go_wp2
    go_loopw [4, 5, 16] (fun _ _ i wr => ∃ k : Nat, k ≤ n ∧ i = .int .i64 k ∧ Below w.heap.size w wr ∧ FitTo gs k ∧ wr.cell? ⟨w.heap.size, 0, none⟩ = some (.slice A n c)) (fun _ _ i _ => n - (intOf i).toNat)
    case atStart => exact ⟨0, Nat.zero_le _, rfl, (Below.refl _ _).alloc (Nat.le_refl _) _, fun _ _ h => by omega, cell_new _ _ _⟩
    case round =>
      obtain ⟨k, hk, rfl, hB, hu, hc0⟩ := hrel
      obtain ⟨wo, rfl⟩ : ∃ wo : World, wo = wr := ⟨_, rfl⟩
      by_cases hlt : k < n
      · have hkg : k < gs.length := by rw [← HN.out]; exact hlt
        rcases HR.out with hn | ⟨g, rfl, hg, hc⟩
        · rw [hn] at hkg; simp at hkg
        obtain ⟨a0, a1, a2⟩ := rules_cells hc hkg
        rw [← hB.cell (p := ⟨g, k * 3, none⟩) hg] at a0
        rw [← hB.cell (p := ⟨g, k * 3 + 1, none⟩) hg] at a1
        rw [← hB.cell (p := ⟨g, k * 3 + 2, none⟩) hg] at a2
        clear hc
        by_cases h0 : gs[k].L.size = 0
        · have HK := Lib.hid (fun W => kind_pair gs[k] h0 W)
          have HQ := Lib.hid (fun W => pair_fits gs[k] h0 k W)
          have HM := mt_p
          have hB0 := hB
          have hs0 := hB.size
          cases hok : gs[k].ok k
          · have HBD := Lib.hid (bad_fit hkg hok)
            rw [hok] at HQ
            have HBB := Lib.hid hB
            clear hok hu hB hB0 h0
            go_wp2_with fail
            refine (HK.out _).mono ?_
            rintro e w1 ⟨rfl, hB1⟩
            go_wp2_with fail
            refine (HQ.out _).mono ?_
            rintro e w2 ⟨rfl, hB2⟩
            have HF2 : Hid (∀ x, LensPost gs w (.returned (.tuple #[x, .bool false])) w2) := Lib.hid fun x => ⟨x, by rw [HG.out, HBD.out], fun h' => by (rw [HG.out, HBD.out] at h'; cases h'), ((HBB.out.alloc hs0 _).trans (hB1.mono (by simp; omega))).trans (hB2.mono (Nat.le_trans (by simp; omega) hB1.size))⟩
            clear hB1 hB2
            go_wp2_with fail
            go_ret2
            exact HF2.out _
          · have HU : Hid (FitTo gs (k + 1)) := Lib.hid fun j hj hjk => by
              by_cases e : j = k
              · subst e; exact hok
              · exact hu j hj (by omega)
            rw [hok] at HQ
            have HBB := Lib.hid hB
            have HC0 := Lib.hid hc0
            clear hok hu hB hB0 h0
            go_wp2_with fail
            refine (HK.out _).mono ?_
            rintro e w1 ⟨rfl, hB1⟩
            go_wp2_with fail
            refine (HQ.out _).mono ?_
            rintro e w2 ⟨rfl, hB2⟩
            have hB3 := ((HBB.out.alloc hs0 (.cells #[.string gs[k].L, .int .i64 gs[k].l, .int .i64 gs[k].r] 146)).trans (hB1.mono (by simp; omega))).trans (hB2.mono (Nat.le_trans (by simp; omega) hB1.size))
            have hlc := lt_of_cell HC0.out
            have hc3 : w2.cell? ⟨w.heap.size, 0, none⟩ = some (.slice (some ⟨g, 0, none⟩) n c) := by
              rw [hB2.cell (p := ⟨w.heap.size, 0, none⟩) (Nat.lt_of_lt_of_le (by simp; omega) hB1.size), hB1.cell (p := ⟨w.heap.size, 0, none⟩) (by simp; omega), ((Below.refl _ wo).alloc (Nat.le_refl _) _).cell (p := ⟨w.heap.size, 0, none⟩) hlc]; exact HC0.out
            have HB3 := Lib.hid hB3
            have HC3 := Lib.hid hc3
            clear hB1 hB2 hB3 hc3 hlc
            go_wp2_with fail
            go_roundw
            case rel => first | exact ⟨k + 1, by omega, by go_num, HB3.out, HU.out, HC3.out⟩ | ((repeat apply Exists.intro); exact ⟨⟨k + 1, by omega, by go_num, HB3.out, HU.out, HC3.out⟩, rfl⟩)
            case measure => simp [intOf]; omega
        · have HK := Lib.hid (fun W => kind_letter gs[k] h0 W)
          have HQ := Lib.hid (fun W => letter_fits gs[k] h0 k W)
          have HM := mt_l
          have hB0 := hB
          have hs0 := hB.size
          cases hok : gs[k].ok k
          · have HBD := Lib.hid (bad_fit hkg hok)
            rw [hok] at HQ
            have HBB := Lib.hid hB
            clear hok hu hB hB0 h0
            go_wp2_with fail
            refine (HK.out _).mono ?_
            rintro e w1 ⟨rfl, hB1⟩
            go_wp2_with fail
            refine (HQ.out _).mono ?_
            rintro e w2 ⟨rfl, hB2⟩
            have HF2 : Hid (∀ x, LensPost gs w (.returned (.tuple #[x, .bool false])) w2) := Lib.hid fun x => ⟨x, by rw [HG.out, HBD.out], fun h' => by (rw [HG.out, HBD.out] at h'; cases h'), ((HBB.out.alloc hs0 _).trans (hB1.mono (by simp; omega))).trans (hB2.mono (Nat.le_trans (by simp; omega) hB1.size))⟩
            clear hB1 hB2
            go_wp2_with fail
            go_ret2
            exact HF2.out _
          · have HU : Hid (FitTo gs (k + 1)) := Lib.hid fun j hj hjk => by
              by_cases e : j = k
              · subst e; exact hok
              · exact hu j hj (by omega)
            rw [hok] at HQ
            have HBB := Lib.hid hB
            have HC0 := Lib.hid hc0
            clear hok hu hB hB0 h0
            go_wp2_with fail
            refine (HK.out _).mono ?_
            rintro e w1 ⟨rfl, hB1⟩
            go_wp2_with fail
            refine (HQ.out _).mono ?_
            rintro e w2 ⟨rfl, hB2⟩
            have hB3 := ((HBB.out.alloc hs0 (.cells #[.string gs[k].L, .int .i64 gs[k].l, .int .i64 gs[k].r] 146)).trans (hB1.mono (by simp; omega))).trans (hB2.mono (Nat.le_trans (by simp; omega) hB1.size))
            have hlc := lt_of_cell HC0.out
            have hc3 : w2.cell? ⟨w.heap.size, 0, none⟩ = some (.slice (some ⟨g, 0, none⟩) n c) := by
              rw [hB2.cell (p := ⟨w.heap.size, 0, none⟩) (Nat.lt_of_lt_of_le (by simp; omega) hB1.size), hB1.cell (p := ⟨w.heap.size, 0, none⟩) (by simp; omega), ((Below.refl _ wo).alloc (Nat.le_refl _) _).cell (p := ⟨w.heap.size, 0, none⟩) hlc]; exact HC0.out
            have HB3 := Lib.hid hB3
            have HC3 := Lib.hid hc3
            clear hB1 hB2 hB3 hc3 hlc
            go_wp2_with fail
            go_roundw
            case rel => first | exact ⟨k + 1, by omega, by go_num, HB3.out, HU.out, HC3.out⟩ | ((repeat apply Exists.intro); exact ⟨⟨k + 1, by omega, by go_num, HB3.out, HU.out, HC3.out⟩, rfl⟩)
            case measure => simp [intOf]; omega
      · have hall : FitTo gs gs.length := fun j hj hjk => hu j hj (by have := HN.out; omega)
        have hn' : gs.length ≤ 1048576 := by have := HN.out; omega
        obtain ⟨i0, hi, hz0, hz1, hz2⟩ := info_parts Try.info_i64
        have hsz := hB.size
        have HALL := Lib.hid hall
        have HB := Lib.hid hB
        have HC0 := Lib.hid hc0
        have hk2 : k = n := by omega
        clear hall hu hB
        obtain rfl : k = n := hk2
        go_wp2_with (refine wpList_make_full _ rfl _ _ 82 rfl w.heap.size 2 i0 (.int .i64 0) 1 Try.underlying82 hi hz0 hz1 .i64 .i64 _ _ k rfl rfl rfl rfl (by rw [hz2]; omega) (by unfold maxLen; omega) hsz ?_)
        intro w1 hown hg
        have hB1 := below_of_grown hg
        have hlo := (hown.lt _ rfl).2
        have hBw := HB.out.trans (hB1.mono hsz)
        have c1 : w1.cell? ⟨w.heap.size, 0, none⟩ = some (.slice A k c) := (hB1.cell (p := ⟨w.heap.size, 0, none⟩) (lt_of_cell HC0.out)).trans HC0.out
        have hmd := measured_any w.heap.size (.slice A k c) gs w1 hn' hBw.size (by have := HR0.out.under hBw; rw [← HN.out] at this; exact this)
        have HMD := Lib.hid hmd
        have HO := Lib.hid hown
        have HBW := Lib.hid hBw
        clear hmd hown hg hB1 hBw hc0
        obtain ⟨L, hLe⟩ : ∃ L, L = wo.heap.size := ⟨_, rfl⟩
        rw [← hLe] at hlo HO ⊢
        have HLE := Lib.hid hLe
        clear hLe
        go_wp2_with fail
        refine HMD.out.mono ?_
        rintro e w2 ⟨bm, br, bj, bf, M, rfl, ⟨b1, b2, b3, b4, b5⟩, hI, hB2⟩
        have hB3 := HBW.out.trans (hB2.mono HBW.out.size)
        have hown2 := own_below HO.out hB2 (Nat.le_refl _)
        have hst0 : ∃ j : Nat, j ≤ k ∧ Value.int .i64 0 = .int .i64 j ∧ w2.ownsRow w.heap.size 2 1 (.slice (some ⟨L, 0, none⟩) k k) k (iv (lensK gs j)) ∧ Below w.heap.size w w2 ∧ MInv w.heap.size bm br bj bf M joinV gs (lenV gs) w2 ∧ UpTo gs j :=
          ⟨0, Nat.zero_le _, rfl, by rw [lensK_zero, ← HN.out, ← made_i64]; exact hown2, hB3, hI, upTo_zero _⟩
        have HST0 := Lib.hid hst0
        have hLw : w.heap.size ≤ L := by rw [HLE.out]; exact hsz
        clear hst0 hown2 hB3 hI hB2
        go_wp2_with fail
        go_loopw [8, 36] (fun _ i wr => ∃ j : Nat, j ≤ k ∧ i = .int .i64 j ∧ wr.ownsRow w.heap.size 2 1 (.slice (some ⟨L, 0, none⟩) k k) k (iv (lensK gs j)) ∧ Below w.heap.size w wr ∧ MInv w.heap.size bm br bj bf M joinV gs (lenV gs) wr ∧ UpTo gs j) (fun _ i _ => k - (intOf i).toNat)
        case atStart => exact HST0.out
        case round =>
          obtain ⟨j, hj, rfl, hown, hB, hI, hu⟩ := hrel
          obtain ⟨wp, rfl⟩ : ∃ wp : World, wp = wr := ⟨_, rfl⟩
          by_cases hjk : j < k
          · have hjg : j < gs.length := by rw [← HN.out]; exact hjk
            have hok := HALL.out j hjg hjg
            have HMS := Lib.hid (meas_any w.heap.size bm br bj bf M gs hn' (j + 1) j (by omega) hjg hu hok wp hI)
            have HU := Lib.hid hu
            have HB := Lib.hid hB
            have HO := Lib.hid hown
            have HOK := Lib.hid hok
            clear hu hB hown hok hI
            go_wp2_with fail
            refine HMS.out.mono ?_
            rintro e w3 ⟨rfl, hI3, hg3⟩
            have hown3 := World.ownsRow.kept HO.out hg3 (.inr (by simp [Value.ownBlock]; omega))
            have hB3 := HB.out.grown hg3 HB.out.size (fun q hq => by injection hq with hq; omega)
            have hc3 : w3.cell? ⟨L, j, none⟩ = some (.int .i64 ((lensK gs j).getD j 0)) := by rw [hown3.cellAt j (by omega)]; exact iv_at (by rw [lensK_len _ _ (by omega)]; exact hjg)
            have hf3 : w3.frozen? ⟨L, j, none⟩ = false := hown3.frozenAt _
            generalize (lensK gs j).getD j 0 = zz at hc3
            have hc4 : (w3.setCell ⟨L, j, none⟩ (.int .i64 (lenV gs j))).cell? ⟨L, j, none⟩ = some (.int .i64 (lenV gs j)) := World.cell?_setCell_same _ _ _ hc3
            have hst := (hown3.stored j (.int .i64 (lenV gs j))).1
            rw [← iv_setk, lensK_set gs j hjg] at hst
            have hI4 := MInv.far hI3 L j (.int .i64 (lenV gs j)) hLw (by omega) (by omega) (by omega) (by omega) (by omega)
            have hB4 := hB3.setCell (p := ⟨L, j, none⟩) hLw (.int .i64 (lenV gs j))
            by_cases hbig : 1000000000000000 < lenV gs j
            · have HF2 : Hid (∀ x, LensPost gs w (.returned (.tuple #[x, .bool false])) (w3.setCell ⟨L, j, none⟩ (.int .i64 (lenV gs j)))) := Lib.hid fun x => ⟨x, by rw [HG.out, bad_long hjg hbig], fun h' => by (rw [HG.out, bad_long hjg hbig] at h'; cases h'), hB4⟩
              clear hst hI4 hB4 hB3 hown3 hI3 hg3
              go_wp2_with fail
              go_ret2
              exact HF2.out _
            · have HNW : Hid (∃ j' : Nat, j' ≤ k ∧ Value.int .i64 ((j + 1 : Nat) : Int) = .int .i64 j' ∧ (w3.setCell ⟨L, j, none⟩ (.int .i64 (lenV gs j))).ownsRow w.heap.size 2 1 (.slice (some ⟨L, 0, none⟩) k k) k (iv (lensK gs j')) ∧ Below w.heap.size w (w3.setCell ⟨L, j, none⟩ (.int .i64 (lenV gs j))) ∧ MInv w.heap.size bm br bj bf M joinV gs (lenV gs) (w3.setCell ⟨L, j, none⟩ (.int .i64 (lenV gs j))) ∧ UpTo gs j') :=
                Lib.hid ⟨j + 1, by omega, rfl, hst, hB4, hI4, upTo_succ HU.out hjg HOK.out (by unfold lenV at hbig; omega)⟩
              clear hst hI4 hB4 hB3 hown3 hI3 hg3
              go_wp2_with fail
              go_roundw
              case rel => first | exact HNW.out | ((repeat apply Exists.intro); exact ⟨HNW.out, rfl⟩)
              case measure => simp [intOf]; omega
          · have hjn : j = gs.length := by have := HN.out; omega
            have hfs := upTo_all hu (by omega)
            rw [hjn, lensK_all] at hown
            have HY : Hid (LensPost gs w (.returned (.tuple #[.slice (some ⟨L, 0, none⟩) k k, .bool true])) wp) := Lib.hid ⟨_, by rw [HG.out, hfs], fun _ => by unfold OwnsI; rw [lens_len, ← HN.out]; exact hown, hB⟩
            clear hown hB hI hu hfs hjn
            go_wp2_with fail
            go_ret2
            exact HY.out
end Go.Proofs.Ytlgpleeanmeenaa.len
