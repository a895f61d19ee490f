/-
  Borders of the beginnings of a text, and what the failure table holds (plain facts).
-/
import Derived.Test.YtdfdeppfhadopaaMath
namespace Go.Proofs.Ytdfdeppfhadopaa
namespace Wd

/-- the letter at a place (a blank behind the end) -/
def at0 (s : ByteArray) (i : Nat) : UInt8 := s.data.toList.getD i 0
theorem at0_get {s : ByteArray} {i : Nat} (h : i < s.size) : at0 s i = s[i] := by
  unfold at0
  rw [List.getD_eq_getElem?_getD, List.getElem?_eq_getElem (by simpa using h)]
  rfl

/-- the first n letters begin and end with their first b ones, b less than n -/
def Bd (s : ByteArray) (n b : Nat) : Prop := b < n ∧ ∀ i, i < b → at0 s i = at0 s (n - b + i)
theorem Bd.zero {s : ByteArray} {n : Nat} (h : 0 < n) : Bd s n 0 := ⟨h, fun i hi => by omega⟩
theorem Bd.succ {s : ByteArray} {n b : Nat} : Bd s (n + 1) (b + 1) ↔ Bd s n b ∧ at0 s b = at0 s n := by
  constructor
  · rintro ⟨h1, h2⟩
    refine ⟨⟨by omega, fun i hi => ?_⟩, ?_⟩
    · have := h2 i (by omega)
      rwa [show n + 1 - (b + 1) = n - b by omega] at this
    · have := h2 b (by omega)
      rwa [show n + 1 - (b + 1) + b = n by omega] at this
  · rintro ⟨⟨h1, h2⟩, h3⟩
    refine ⟨by omega, fun i hi => ?_⟩
    rw [show n + 1 - (b + 1) = n - b by omega]
    by_cases hib : i < b
    · exact h2 i hib
    · obtain rfl : i = b := by omega
      rw [show n - i + i = n by omega]; exact h3
theorem Bd.trans {s : ByteArray} {n b c : Nat} (h : Bd s n b) (h' : Bd s b c) : Bd s n c := by
  refine ⟨by have := h.1; have := h'.1; omega, fun i hi => ?_⟩
  have h1 := h'.2 i hi
  have h2 := h.2 (b - c + i) (by have := h'.1; omega)
  rw [h1, h2]
  congr 1
  have := h.1
  have := h'.1
  omega
theorem Bd.inner {s : ByteArray} {n b c : Nat} (h : Bd s n b) (h' : Bd s n c) (hc : c < b) : Bd s b c := by
  refine ⟨hc, fun i hi => ?_⟩
  have h1 := h'.2 i hi
  have h2 := h.2 (b - c + i) (by omega)
  rw [h1, h2]
  congr 1
  have := h.1
  omega

/-- m is the length of the longest border of the first n letters (0 for none of them) -/
def Lb (s : ByteArray) (n m : Nat) : Prop := (n = 0 ∧ m = 0) ∨ (Bd s n m ∧ ∀ b, Bd s n b → b ≤ m)
theorem Lb.nil (s : ByteArray) : Lb s 0 0 := .inl ⟨rfl, rfl⟩
theorem Lb.one (s : ByteArray) : Lb s 1 0 := .inr ⟨Bd.zero (by omega), fun b hb => by have := hb.1; omega⟩
theorem Lb.bd {s : ByteArray} {n m : Nat} (h : Lb s n m) (hn : 0 < n) : Bd s n m ∧ ∀ b, Bd s n b → b ≤ m := by
  rcases h with ⟨h, _⟩ | h
  · omega
  · exact h
theorem Lb.le {s : ByteArray} {n m : Nat} (h : Lb s n m) : m ≤ n := by
  rcases h with ⟨h, h'⟩ | h
  · omega
  · exact Nat.le_of_lt h.1.1

/-- what holds of the inner loop's m -/
def In (s : ByteArray) (e m : Nat) : Prop := Bd s e m ∧ ∀ b, Bd s e b → at0 s b = at0 s e → b ≤ m
theorem In.start {s : ByteArray} {e m : Nat} (h : Lb s e m) (he : 0 < e) : In s e m := ⟨(h.bd he).1, fun b hb _ => (h.bd he).2 b hb⟩
theorem In.step {s : ByteArray} {e m m' : Nat} (h : In s e m) (hm : 0 < m) (hne : at0 s m ≠ at0 s e) (h' : Lb s m m') : In s e m' := by
  refine ⟨h.1.trans (h'.bd hm).1, fun b hb hx => ?_⟩
  have hbm := h.2 b hb hx
  have : b ≠ m := fun e => hne (e ▸ hx)
  exact (h'.bd hm).2 b (h.1.inner hb (by omega))
theorem In.hit {s : ByteArray} {e m : Nat} (h : In s e m) (hx : at0 s m = at0 s e) : Lb s (e + 1) (m + 1) := by
  refine .inr ⟨Bd.succ.2 ⟨h.1, hx⟩, fun b hb => ?_⟩
  cases b with
  | zero => omega
  | succ b =>
    have := Bd.succ.1 hb
    have := h.2 b this.1 this.2
    omega
theorem In.miss {s : ByteArray} {e : Nat} (h : In s e 0) (hx : at0 s 0 ≠ at0 s e) : Lb s (e + 1) 0 := by
  refine .inr ⟨Bd.zero (by omega), fun b hb => ?_⟩
  cases b with
  | zero => omega
  | succ b =>
    have h1 := Bd.succ.1 hb
    have := h.2 b h1.1 h1.2
    obtain rfl : b = 0 := by omega
    exact absurd h1.2 hx
end Wd
end Go.Proofs.Ytdfdeppfhadopaa
