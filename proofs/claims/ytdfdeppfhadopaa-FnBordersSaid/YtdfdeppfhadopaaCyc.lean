/-
  Periods that divide a length: they have a common divisor that is one; least ones of words that commute (plain facts).
-/
import Derived.Test.YtdfdeppfhadopaaRootM
import Derived.Lib.Repeat
namespace Go.Proofs.Ytdfdeppfhadopaa
open Wd
set_option linter.unusedVariables false
namespace Wd
/-- shifted by p around n places, nothing changes -/
def Cy (f : Nat → UInt8) (n p : Nat) : Prop := ∀ i, i < n → f i = f ((i + p) % n)
theorem far_eq {f : Nat → UInt8} {n p : Nat} (h : ∀ i, i + p < n → f i = f (i + p)) : ∀ k i, i + k * p < n → f i = f (i + k * p)
  | 0, i, _ => by simp
  | k + 1, i, hi => by
    have e : (k + 1) * p = k * p + p := Nat.succ_mul k p
    rw [e] at hi ⊢
    rw [far_eq h k i (by omega), h (i + k * p) (by omega), Nat.add_assoc]
theorem mod_eq {f : Nat → UInt8} {n p : Nat} (h : ∀ i, i + p < n → f i = f (i + p)) (i : Nat) (hi : i < n) : f i = f (i % p) := by
  have e := Nat.mod_add_div i p
  have h1 := far_eq h (i / p) (i % p) (by rw [Nat.mul_comm, e]; exact hi)
  rw [Nat.mul_comm, e] at h1
  exact h1.symm
theorem cy_of {f : Nat → UInt8} {n p : Nat} (hp : 1 ≤ p) (hpn : p ≤ n) (hd : n % p = 0) (h : ∀ i, i + p < n → f i = f (i + p)) : Cy f n p := by
  intro i hi
  by_cases h1 : i + p < n
  · rw [Nat.mod_eq_of_lt h1]; exact h i h1
  · have e : (i + p) % n = i + p - n := by
      rw [Nat.mod_eq_sub_mod (by omega), Nat.mod_eq_of_lt (by omega)]
    rw [e, mod_eq h i hi]
    congr 1
    obtain ⟨c, rfl⟩ := Nat.dvd_of_mod_eq_zero hd
    have h2 : i + p = (i + p - p * c) + p * c := by omega
    have h3 : (i + p) % p = (i + p - p * c) % p := by
      conv => lhs; rw [h2, Nat.add_mul_mod_self_left]
    rw [Nat.add_mod_right] at h3
    rw [h3, Nat.mod_eq_of_lt (by omega)]
theorem Cy.per {f : Nat → UInt8} {n p : Nat} (h : Cy f n p) (i : Nat) (hi : i + p < n) : f i = f (i + p) := by
  have := h i (by omega)
  rwa [Nat.mod_eq_of_lt hi] at this
theorem Cy.sub {f : Nat → UInt8} {n p q : Nat} (h : Cy f n p) (h' : Cy f n q) (hpq : p ≤ q) : Cy f n (q - p) := by
  intro i hi
  have h1 := h ((i + (q - p)) % n) (Nat.mod_lt _ (by omega))
  rw [Nat.mod_add_mod, show i + (q - p) + p = i + q from by omega] at h1
  rw [h1]; exact h' i hi
theorem Cy.common {f : Nat → UInt8} {n : Nat} : ∀ m p q, p + q ≤ m → 0 < p → 0 < q → Cy f n p → Cy f n q → ∃ g, 0 < g ∧ g ∣ p ∧ g ∣ q ∧ Cy f n g := by
  intro m
  induction m with
  | zero => intro p q h h1; omega
  | succ m ih =>
    intro p q h hp hq h1 h2
    rcases Nat.lt_trichotomy p q with hl | rfl | hl
    · obtain ⟨g, g0, g1, g2, g3⟩ := ih p (q - p) (by omega) hp (by omega) h1 (h1.sub h2 (by omega))
      refine ⟨g, g0, g1, ?_, g3⟩
      have := Nat.dvd_add g1 g2
      rwa [show p + (q - p) = q from by omega] at this
    · exact ⟨p, hp, Nat.dvd_refl _, Nat.dvd_refl _, h1⟩
    · obtain ⟨g, g0, g1, g2, g3⟩ := ih (p - q) q (by omega) (by omega) hq (h2.sub h1 (by omega)) h2
      refine ⟨g, g0, ?_, g2, g3⟩
      have := Nat.dvd_add g2 g1
      rwa [show q + (p - q) = p from by omega] at this

theorem per_def {s : ByteArray} {p : Nat} : Per s p ↔ 1 ≤ p ∧ p ≤ s.size ∧ ∀ i, i + p < s.size → at0 s i = at0 s (i + p) := by
  constructor
  · rintro ⟨h1, h2, h3, h4⟩
    refine ⟨h1, h2, fun i hi => ?_⟩
    have := h4 i (by omega)
    rwa [show s.size - (s.size - p) + i = i + p from by omega] at this
  · rintro ⟨h1, h2, h3⟩
    refine ⟨h1, h2, by omega, fun i hi => ?_⟩
    rw [show s.size - (s.size - p) + i = i + p from by omega]
    exact h3 i (by omega)
theorem Per.cy {s : ByteArray} {p : Nat} (h : Per s p) (hd : s.size % p = 0) : Cy (at0 s) s.size p := by
  obtain ⟨h1, h2, h3⟩ := per_def.1 h
  exact cy_of h1 h2 hd h3
theorem IsRt.dvd {s : ByteArray} {p q : Nat} (h : IsRt s p) (hq : Per s q) (hd : s.size % q = 0) : p ∣ q := by
  obtain ⟨hp, hpd, hmin⟩ := h
  obtain ⟨g, g0, g1, g2, g3⟩ := Cy.common (p + q) p q (Nat.le_refl _) hp.1 hq.1 (hp.cy hpd) (hq.cy hd)
  have hgn : s.size % g = 0 := Nat.mod_eq_zero_of_dvd (Nat.dvd_trans g1 (Nat.dvd_of_mod_eq_zero hpd))
  have hgp := Nat.le_of_dvd hp.1 g1
  have := hmin g (per_def.2 ⟨g0, Nat.le_trans hgp hp.2.1, g3.per⟩) hgn
  obtain rfl : p = g := Nat.le_antisymm this hgp
  exact g2

theorem at0_cut {s : ByteArray} {g i : Nat} (hi : i < g) (hg : g ≤ s.size) : at0 (s.extract 0 g) i = at0 s i := by
  unfold at0
  rw [ByteArray.data_extract, Array.toList_extract, List.extract_eq_take_drop]
  simp [List.getD_eq_getElem?_getD, hi]
theorem size_cut {s : ByteArray} {g : Nat} (hg : g ≤ s.size) : (s.extract 0 g).size = g := by
  rw [ByteArray.size_extract]; omega
theorem per_up {s : ByteArray} {g q : Nat} (hg : Per s g) (hd : s.size % g = 0) (hq : Per (s.extract 0 g) q) (hqd : g % q = 0) : Per s q := by
  have hz := size_cut hg.2.1
  have hc := hq.cy (by rw [hz]; exact hqd)
  rw [hz] at hc
  have h1 := hq.1
  have h2 := hq.2.1
  rw [hz] at h2
  have hgm := hg.2.1
  have hg0 := hg.1
  have hm := mod_eq (per_def.1 hg).2.2
  refine per_def.2 ⟨h1, Nat.le_trans h2 hgm, fun i hi => ?_⟩
  have h3 := hc (i % g) (Nat.mod_lt _ hg0)
  rw [at0_cut (Nat.mod_lt _ hg0) hgm, at0_cut (Nat.mod_lt _ hg0) hgm, Nat.mod_add_mod, ← hm i (by omega), ← hm (i + q) hi] at h3
  exact h3
theorem per_down {s : ByteArray} {g q : Nat} (hg : g ≤ s.size) (hq : Per s q) (hl : q ≤ g) : Per (s.extract 0 g) q := by
  refine per_def.2 ⟨hq.1, by rw [size_cut hg]; exact hl, fun i hi => ?_⟩
  rw [size_cut hg] at hi
  rw [at0_cut (by omega) hg, at0_cut hi hg]
  exact (per_def.1 hq).2.2 i (by omega)
theorem IsRt.cut {s : ByteArray} {p g : Nat} (h : IsRt s p) (hg : Per s g) (hd : s.size % g = 0) : IsRt (s.extract 0 g) p := by
  have hpg := h.dvd hg hd
  have hle := Nat.le_of_dvd hg.1 hpg
  refine ⟨per_down hg.2.1 h.1 hle, by rw [size_cut hg.2.1]; exact Nat.mod_eq_zero_of_dvd hpg, fun q hq hqd => ?_⟩
  rw [size_cut hg.2.1] at hqd
  exact h.2.2 q (per_up hg hd hq hqd) (Nat.mod_eq_zero_of_dvd (Nat.dvd_trans (Nat.dvd_of_mod_eq_zero hqd) (Nat.dvd_of_mod_eq_zero hd)))

theorem ba_ext {s t : ByteArray} (h : s.size = t.size) (h' : ∀ i, i < s.size → at0 s i = at0 t i) : s = t := by
  have e : s.data.toList = t.data.toList := by
    apply List.ext_getElem (by simpa using h)
    intro i h1 h2
    have := h' i (by simpa using h1)
    unfold at0 at this
    rwa [List.getD_eq_getElem?_getD, List.getD_eq_getElem?_getD, List.getElem?_eq_getElem h1, List.getElem?_eq_getElem h2] at this
  cases s; cases t
  simp at e
  rw [e]
theorem at0_app {s t : ByteArray} (i : Nat) : at0 (s ++ t) i = if i < s.size then at0 s i else at0 t (i - s.size) := by
  unfold at0
  rw [ByteArray.data_append, Array.toList_append]
  simp only [List.getD_eq_getElem?_getD, List.getElem?_append]
  have : s.data.toList.length = s.size := by simp
  rw [this]
  split <;> rfl
/-- words that commute have a common root -/
theorem comm_root {s t : ByteArray} {p q : Nat} (h : s ++ t = t ++ s) (hs : IsRt s p) (ht : IsRt t q) : t.extract 0 q = s.extract 0 p := by
  have s0 : 1 ≤ s.size := Nat.le_trans hs.1.1 hs.1.2.1
  have t0 : 1 ≤ t.size := Nat.le_trans ht.1.1 ht.1.2.1
  have e := fun i => (at0_app (s := s) (t := t) i).symm.trans (by rw [h, at0_app])
  have fs : ∀ i, i < s.size → at0 (s ++ t) i = at0 s i := fun i hi => by rw [at0_app, if_pos hi]
  have ft : ∀ i, i < t.size → at0 (s ++ t) i = at0 t i := fun i hi => by rw [h, at0_app, if_pos hi]
  have fs' : ∀ i, i < s.size → at0 (s ++ t) (i + t.size) = at0 s i := fun i hi => by rw [h, at0_app, if_neg (by omega)]; congr 1; omega
  have ft' : ∀ i, i < t.size → at0 (s ++ t) (i + s.size) = at0 t i := fun i hi => by rw [at0_app, if_neg (by omega)]; congr 1; omega
  have c1 : Cy (at0 (s ++ t)) (s.size + t.size) s.size := by
    intro i hi
    by_cases hl : i < t.size
    · rw [Nat.mod_eq_of_lt (by omega), ft i hl, ft' i hl]
    · rw [Nat.mod_eq_sub_mod (by omega), Nat.mod_eq_of_lt (by omega)]
      have := fs' (i - t.size) (by omega)
      rw [show i - t.size + t.size = i from by omega] at this
      rw [this, show i + s.size - (s.size + t.size) = i - t.size from by omega, fs _ (by omega)]
  have c2 : Cy (at0 (s ++ t)) (s.size + t.size) t.size := by
    intro i hi
    by_cases hl : i < s.size
    · rw [Nat.mod_eq_of_lt (by omega), fs i hl, fs' i hl]
    · rw [Nat.mod_eq_sub_mod (by omega), Nat.mod_eq_of_lt (by omega)]
      have := ft' (i - s.size) (by omega)
      rw [show i - s.size + s.size = i from by omega] at this
      rw [this, show i + t.size - (s.size + t.size) = i - s.size from by omega, ft _ (by omega)]
  obtain ⟨g, g0, g1, g2, g3⟩ := Cy.common _ _ _ (Nat.le_refl _) s0 t0 c1 c2
  have gs := Nat.le_of_dvd s0 g1
  have gt := Nat.le_of_dvd t0 g2
  have ps : Per s g := per_def.2 ⟨g0, gs, fun i hi => by rw [← fs i (by omega), ← fs (i + g) hi]; exact g3.per i (by omega)⟩
  have pt : Per t g := per_def.2 ⟨g0, gt, fun i hi => by rw [← ft i (by omega), ← ft (i + g) hi]; exact g3.per i (by omega)⟩
  have hx : ∀ k, k ≤ g → t.extract 0 k = s.extract 0 k := fun k hk => by
    apply ba_ext
    · rw [size_cut (by omega), size_cut (by omega)]
    · intro i hi
      rw [size_cut (by omega)] at hi
      rw [at0_cut hi (by omega), at0_cut hi (by omega), ← fs i (by omega), ← ft i (by omega)]
  have r1 := hs.cut ps (Nat.mod_eq_zero_of_dvd g1)
  have r2 := ht.cut pt (Nat.mod_eq_zero_of_dvd g2)
  rw [hx g (Nat.le_refl _)] at r2
  obtain rfl := r1.unique r2
  exact hx p (by have := r1.1.2.1; rw [size_cut gs] at this; exact this)

theorem rep_at (l : List UInt8) : ∀ k i, i < k * l.length → (Lib.repeatL l k).getD i 0 = l.getD (i % l.length) 0
  | 0, i, h => by omega
  | k + 1, i, h => by
    rw [Nat.succ_mul] at h
    show (l ++ Lib.repeatL l k).getD i 0 = _
    rw [List.getD_eq_getElem?_getD, List.getElem?_append]
    by_cases hl : i < l.length
    · rw [if_pos hl, Nat.mod_eq_of_lt hl, List.getD_eq_getElem?_getD]
    · rw [if_neg hl, Nat.mod_eq_sub_mod (by omega), ← rep_at l k (i - l.length) (by omega), List.getD_eq_getElem?_getD]
/-- a word is the power of its root -/
theorem IsRt.power {s : ByteArray} {p : Nat} (h : IsRt s p) : (⟨(Lib.repeatL (s.extract 0 p).data.toList (s.size / p)).toArray⟩ : ByteArray) = s := by
  have hz := size_cut h.1.2.1
  have hl : (s.extract 0 p).data.toList.length = p := by simpa using hz
  have hn : s.size / p * p = s.size := Nat.div_mul_cancel (Nat.dvd_of_mod_eq_zero h.2.1)
  have hsz : (⟨(Lib.repeatL (s.extract 0 p).data.toList (s.size / p)).toArray⟩ : ByteArray).size = s.size := by
    show (Lib.repeatL _ _).toArray.size = _
    rw [List.size_toArray, Lib.repeatL_length, hl, hn]
  apply ba_ext hsz
  intro i hi
  rw [hsz] at hi
  show (Lib.repeatL _ _).getD i 0 = _
  rw [rep_at _ _ _ (by rw [hl, hn]; exact hi), hl, mod_eq (per_def.1 h.1).2.2 i hi]
  exact at0_cut (Nat.mod_lt _ h.1.1) h.1.2.1
end Wd
end Go.Proofs.Ytdfdeppfhadopaa
