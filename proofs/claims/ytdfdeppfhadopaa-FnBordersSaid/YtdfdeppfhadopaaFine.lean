/-
  Two periods that are short enough have their greatest common divisor as a period (plain facts).
-/
import Derived.Test.YtdfdeppfhadopaaCyc
namespace Go.Proofs.Ytdfdeppfhadopaa
open Wd
set_option linter.unusedVariables false
namespace Wd
/-- the first n have the period p -/
def Pe (f : Nat → UInt8) (n p : Nat) : Prop := ∀ i, i + p < n → f i = f (i + p)
theorem gcd_sub {p q : Nat} (h : p ≤ q) : Nat.gcd p (q - p) = Nat.gcd p q := by
  apply Nat.dvd_antisymm
  · apply Nat.dvd_gcd (Nat.gcd_dvd_left _ _)
    have := Nat.dvd_add (Nat.gcd_dvd_left p (q - p)) (Nat.gcd_dvd_right p (q - p))
    rwa [show p + (q - p) = q from by omega] at this
  · apply Nat.dvd_gcd (Nat.gcd_dvd_left _ _)
    exact Nat.dvd_sub (Nat.gcd_dvd_right p q) (Nat.gcd_dvd_left p q)
theorem Pe.step {f : Nat → UInt8} {n p q : Nat} (hp : Pe f n p) (hq : Pe f n q) (h : p ≤ q) : Pe f (n - p) (q - p) := by
  intro i hi
  rw [hq i (by omega), show i + q = i + (q - p) + p from by omega]
  exact (hp (i + (q - p)) (by omega)).symm
theorem Pe.less {f : Nat → UInt8} {n m p : Nat} (hp : Pe f n p) (h : m ≤ n) : Pe f m p := fun i hi => hp i (by omega)
theorem fine : ∀ m (f : Nat → UInt8) n p q, p + q ≤ m → 0 < p → 0 < q → Pe f n p → Pe f n q → p + q - Nat.gcd p q ≤ n → Pe f n (Nat.gcd p q) := by
  intro m
  induction m with
  | zero => intro f n p q h h1; omega
  | succ m ih =>
    have key : ∀ (f : Nat → UInt8) n p q, p + q ≤ m + 1 → 0 < p → p < q → Pe f n p → Pe f n q → p + q - Nat.gcd p q ≤ n → Pe f n (Nat.gcd p q) := by
      intro f n p q hm hp hl h1 h2 hn
      have g0 : 0 < Nat.gcd p q := Nat.gcd_pos_of_pos_left _ hp
      have gp : Nat.gcd p q ∣ p := Nat.gcd_dvd_left _ _
      have hs := gcd_sub (Nat.le_of_lt hl)
      have gd : Nat.gcd p q ∣ q - p := by rw [← hs]; exact Nat.gcd_dvd_right _ _
      have gl := Nat.le_of_dvd (by omega) gd
      have h3 := ih f (n - p) p (q - p) (by omega) hp (by omega) (h1.less (by omega)) (h1.step h2 (by omega)) (by rw [hs]; omega)
      rw [hs] at h3
      generalize Nat.gcd p q = g at *
      intro i hi
      have e1 := mod_eq h1 i (by omega)
      have e2 := mod_eq h1 (i + g) hi
      have l1 := Nat.mod_lt i hp
      have l2 := Nat.mod_lt (i + g) hp
      have e3 := mod_eq h3 (i % p) (by omega)
      have e4 := mod_eq h3 ((i + g) % p) (by omega)
      rw [Nat.mod_mod_of_dvd _ gp] at e3 e4
      rw [Nat.add_mod_right] at e4
      rw [e1, e2, e3, e4]
    intro f n p q hm hp hq h1 h2 hn
    rcases Nat.lt_trichotomy p q with hl | rfl | hl
    · exact key f n p q hm hp hl h1 h2 hn
    · rw [Nat.gcd_self]; exact h1
    · rw [Nat.gcd_comm]
      exact key f n q p (by omega) hq hl h2 h1 (by rw [Nat.gcd_comm]; omega)
theorem per_gcd {s : ByteArray} {p q : Nat} (hp : Per s p) (hq : Per s q) (h : p + q ≤ s.size + Nat.gcd p q) : Per s (Nat.gcd p q) := by
  have a := per_def.1 hp
  have b := per_def.1 hq
  have g0 : 0 < Nat.gcd p q := Nat.gcd_pos_of_pos_left _ hp.1
  exact per_def.2 ⟨g0, Nat.le_trans (Nat.le_of_dvd hp.1 (Nat.gcd_dvd_left _ _)) hp.2.1, fine _ _ _ _ _ (Nat.le_refl _) hp.1 hq.1 a.2.2 b.2.2 (by omega)⟩
end Wd
end Go.Proofs.Ytdfdeppfhadopaa
