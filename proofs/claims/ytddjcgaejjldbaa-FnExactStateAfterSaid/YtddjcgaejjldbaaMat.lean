/-
  Rows of rows of int64 that the call owns, no two of them in one block; laws.markInt64SS and laws.heldInt64SS at them.
-/
import Derived.Test.YtddjcgaejjldbaaAuEq
import Derived.Test.YtddjcgaejjldbaaInts
import Derived.Test.YtddjcgaejjldbaaOwnK
namespace Go.Proofs.Ytddjcgaejjldbaa
open Go.RowKit
open Wd
set_option linter.unusedVariables false
/-- rows of one's own, no two of them in one block -/
structure Rws (w : World) (lo : Nat) (U : List Value) (Z : List (List Int)) : Prop where
  len : U.length = Z.length
  row : ∀ (j : Nat) (u : Value) (zs : List Int), U[j]? = some u → Z[j]? = some zs → OwnsI w lo u zs
  ne : ∀ (i j : Nat) (u y : Value), i < j → U[i]? = some u → U[j]? = some y → u.ownBlock = none ∨ u.ownBlock ≠ y.ownBlock
/-- nothing is changed but in these rows' blocks -/
structure OnlyIn (U : List Value) (w w' : World) : Prop where
  os : w'.os = w.os
  tape : w'.tape = w.tape
  output : w'.output = w.output
  size : w.heap.size ≤ w'.heap.size
  block : ∀ k, k < w.heap.size → (∀ u ∈ U, u.ownBlock ≠ some k) → w'.heap[k]? = w.heap[k]?
theorem OnlyIn.refl (U : List Value) (w : World) : OnlyIn U w w := ⟨rfl, rfl, rfl, Nat.le_refl _, fun _ _ _ => rfl⟩
theorem OnlyIn.trans {U : List Value} {a b c : World} (h : OnlyIn U a b) (h' : OnlyIn U b c) : OnlyIn U a c :=
  ⟨h'.os.trans h.os, h'.tape.trans h.tape, h'.output.trans h.output, Nat.le_trans h.size h'.size, fun k hk hn => (h'.block k (Nat.lt_of_lt_of_le hk h.size) hn).trans (h.block k hk hn)⟩
theorem OnlyIn.mono {U V : List Value} {a b : World} (h : OnlyIn U a b) (hs : ∀ u ∈ U, u ∈ V) : OnlyIn V a b :=
  ⟨h.os, h.tape, h.output, h.size, fun k hk hn => h.block k hk fun u hu => hn u (hs u hu)⟩
theorem OnlyIn.of_grown {U : List Value} {u : Value} {a b : World} (h : a.grownBy b u.ownBlock) (hu : u ∈ U) : OnlyIn U a b :=
  ⟨h.os, h.tape, h.output, h.size, fun k hk hn => h.block k hk fun e => hn u hu e.symm⟩
theorem OnlyIn.of_below {U : List Value} {a b : World} (h : Below a.heap.size a b) : OnlyIn U a b :=
  ⟨h.os, h.tape, h.output, h.size, fun k hk _ => h.block k hk⟩
theorem OnlyIn.below {U : List Value} {a b : World} {lo : Nat} (h : OnlyIn U a b) (hlo : lo ≤ a.heap.size) (hU : ∀ u ∈ U, ∀ q, u.ownBlock = some q → lo ≤ q) : Below lo a b :=
  ⟨h.os, h.tape, h.output, h.size, fun k hk => h.block k (by omega) fun u hu e => by have := hU u hu k e; omega⟩
theorem own_only {U : List Value} {w w' : World} {B e s n : Nat} {v : Value} {xs : List Value} (h : w.ownsRow B e s v n xs) (ho : OnlyIn U w w') (hne : ∀ u ∈ U, u.ownBlock = none ∨ u.ownBlock ≠ v.ownBlock) : w'.ownsRow B e s v n xs := by
  refine ⟨h.1, ?_⟩
  rcases h.2 with h' | ⟨g, cap, cur, rfl, hb, hg, rest⟩
  · exact .inl h'
  · refine .inr ⟨g, cap, cur, rfl, hb, (ho.block g (Array.getElem?_eq_some_iff.1 hg).1 fun u hu e => ?_).trans hg, rest⟩
    rcases hne u hu with h1 | h1
    · rw [h1] at e; cases e
    · exact h1 e
theorem Rws.ge {w : World} {lo : Nat} {U : List Value} {Z : List (List Int)} (h : Rws w lo U Z) : ∀ u ∈ U, ∀ q, u.ownBlock = some q → lo ≤ q ∧ q < w.heap.size := by
  intro u hu q hq
  obtain ⟨j, hj, rfl⟩ := List.mem_iff_getElem.1 hu
  exact (h.row j _ _ (List.getElem?_eq_getElem hj) (List.getElem?_eq_getElem (by rw [← h.len]; exact hj))).lt q hq
theorem Rws.kept {w w' : World} {lo : Nat} {U : List Value} {Z : List (List Int)} (h : Rws w lo U Z) (hb : Below w.heap.size w w') : Rws w' lo U Z :=
  ⟨h.len, fun j u zs h1 h2 => own_below (h.row j u zs h1 h2) hb (Nat.le_refl _), h.ne⟩
theorem Rws.lower {w : World} {lo B : Nat} {U : List Value} {Z : List (List Int)} (h : Rws w lo U Z) (hb : B ≤ lo) : Rws w B U Z :=
  ⟨h.len, fun j u zs h1 h2 => own_lower (h.row j u zs h1 h2) hb, h.ne⟩
theorem Rws.only {w w' : World} {lo : Nat} {U V : List Value} {Z : List (List Int)} (h : Rws w lo U Z) (ho : OnlyIn V w w') (hV : ∀ u ∈ V, ∀ q, u.ownBlock = some q → q < lo) : Rws w' lo U Z := by
  refine ⟨h.len, fun j u zs h1 h2 => own_only (h.row j u zs h1 h2) ho (fun y hy => ?_), h.ne⟩
  cases hq : y.ownBlock with
  | none => exact .inl rfl
  | some q =>
    refine .inr fun e => ?_
    have h3 := hV y hy q hq
    have h4 := ((h.row j u zs h1 h2).lt q e.symm).1
    omega
theorem Rws.mark {w w' : World} {lo : Nat} {U : List Value} {Z : List (List Int)} (h : Rws w lo U Z) {j : Nat} {u : Value} {zs : List Int} (hu : U[j]? = some u) (hg : w.grownBy w' u.ownBlock) (ho : OwnsI w' lo u zs) : Rws w' lo U (Z.set j zs) := by
  refine ⟨by simpa using h.len, fun i y ys h1 h2 => ?_, h.ne⟩
  by_cases e : j = i
  · subst e
    rw [hu] at h1
    injection h1 with h1
    subst h1
    have hj : j < Z.length := by rw [← h.len]; exact (List.getElem?_eq_some_iff.1 hu).1
    rw [List.getElem?_set_self hj] at h2
    injection h2 with h2
    subst h2
    exact ho
  · rw [List.getElem?_set_ne e] at h2
    refine World.ownsRow.kept (h.row i y ys h1 h2) hg ?_
    rcases Nat.lt_or_gt_of_ne e with hlt | hlt
    · rcases h.ne j i u y hlt hu h1 with h3 | h3
      · cases hy : y.ownBlock with
        | none => exact .inl rfl
        | some q => exact .inr (by rw [h3]; simp)
      · exact .inr fun e => h3 e.symm
    · exact h.ne i j y u hlt h1 hu
theorem Rws.tail {w : World} {lo : Nat} {u : Value} {U : List Value} {z : List Int} {Z : List (List Int)} (h : Rws w lo (u :: U) (z :: Z)) : OwnsI w lo u z ∧ Rws w lo U Z ∧ ∀ y ∈ U, y.ownBlock = none ∨ y.ownBlock ≠ u.ownBlock := by
  refine ⟨h.row 0 u z rfl rfl, ⟨by simpa using h.len, fun j y zs h1 h2 => h.row (j + 1) y zs (by simpa using h1) (by simpa using h2), fun i j y y' hij h1 h2 => h.ne (i + 1) (j + 1) y y' (by omega) (by simpa using h1) (by simpa using h2)⟩, fun y hy => ?_⟩
  obtain ⟨j, hj, rfl⟩ := List.mem_iff_getElem.1 hy
  rcases h.ne 0 (j + 1) u U[j] (by omega) rfl (by simp [hj]) with h1 | h1
  · cases hy : U[j].ownBlock with
    | none => exact .inl rfl
    | some q => exact .inr (by rw [h1]; simp)
  · exact .inr fun e => h1 e.symm
theorem Rws.cons {w : World} {lo : Nat} {u : Value} {U : List Value} {z : List Int} {Z : List (List Int)} (h0 : OwnsI w lo u z) (h : Rws w lo U Z) (hne : ∀ y ∈ U, u.ownBlock = none ∨ u.ownBlock ≠ y.ownBlock) : Rws w lo (u :: U) (z :: Z) := by
  refine ⟨by simpa using h.len, fun j y zs h1 h2 => ?_, fun i j y y' hij h1 h2 => ?_⟩
  · cases j with
    | zero =>
      have e1 : u = y := by simpa using h1
      have e2 : z = zs := by simpa using h2
      subst e1 e2
      exact h0
    | succ j => exact h.row j y zs (by simpa using h1) (by simpa using h2)
  · cases j with
    | zero => omega
    | succ j =>
      cases i with
      | zero =>
        have e1 : u = y := by simpa using h1
        subst e1
        exact hne y' (List.mem_iff_getElem?.2 ⟨j, by simpa using h2⟩)
      | succ i => exact h.ne i j y y' (by omega) (by simpa using h1) (by simpa using h2)
theorem Rws.snoc {w : World} {lo : Nat} {u : Value} {U : List Value} {z : List Int} {Z : List (List Int)} (h : Rws w lo U Z) (h0 : OwnsI w lo u z) (hne : ∀ y ∈ U, y.ownBlock = none ∨ y.ownBlock ≠ u.ownBlock) : Rws w lo (U ++ [u]) (Z ++ [z]) := by
  have hl := h.len
  have last : ∀ {α : Type} {l : List α} {a b : α} {j : Nat}, (l ++ [a])[j]? = some b → l[j]? = some b ∨ (j = l.length ∧ a = b) := by
    intro α l a b j hj
    by_cases hlt : j < l.length
    · rw [List.getElem?_append_left hlt] at hj; exact .inl hj
    · rw [List.getElem?_append_right (by omega)] at hj
      have hj0 : j - l.length = 0 := by have := (List.getElem?_eq_some_iff.1 hj).1; simp at this; omega
      rw [hj0] at hj
      exact .inr ⟨by omega, by simpa using hj⟩
  refine ⟨by simp [hl], fun j y zs h1 h2 => ?_, fun i j y y' hij h1 h2 => ?_⟩
  · rcases last h1 with h1 | ⟨h1, rfl⟩ <;> rcases last h2 with h2 | ⟨h2, rfl⟩
    · exact h.row j y zs h1 h2
    · have := (List.getElem?_eq_some_iff.1 h1).1; omega
    · have := (List.getElem?_eq_some_iff.1 h2).1; omega
    · exact h0
  · rcases last h1 with h1 | ⟨h1, rfl⟩ <;> rcases last h2 with h2 | ⟨h2, rfl⟩
    · exact h.ne i j y y' hij h1 h2
    · exact hne y (List.mem_iff_getElem?.2 ⟨i, h1⟩)
    · have := (List.getElem?_eq_some_iff.1 h2).1; omega
    · omega
theorem Rws.nil (w : World) (lo : Nat) : Rws w lo [] [] := ⟨rfl, fun j u zs h => by simp at h, fun i j u y _ h => by simp at h⟩
namespace Wd
/-- how many numbers lie in the first rows -/
def pre (rs : List (List Int)) (j : Nat) : Nat := ((rs.take j).map List.length).sum
theorem pre_zero (rs : List (List Int)) : pre rs 0 = 0 := by simp [pre]
theorem pre_succ (rs : List (List Int)) (j : Nat) (h : j < rs.length) : pre rs (j + 1) = pre rs j + (rs[j]).length := by
  unfold pre
  rw [List.take_succ_eq_append_getElem h, List.map_append, List.sum_append]
  simp
theorem pre_le (rs : List (List Int)) (m : Nat) (hr : ∀ r ∈ rs, r.length ≤ m) : ∀ j, j ≤ rs.length → pre rs j ≤ j * m
  | 0, _ => by simp [pre_zero]
  | j + 1, h => by
    rw [pre_succ rs j (by omega), Nat.succ_mul]
    have h1 := pre_le rs m hr j (by omega)
    have h2 := hr _ (List.getElem_mem (show j < rs.length by omega))
    omega
/-- the first rows marked -/
def mkF (j : Nat) (k : Int) (rs : List (List Int)) : List (List Int) := (List.range rs.length).map fun i => if i < j then marks (k + pre rs i) (rs.getD i []).length else rs.getD i []
theorem mkF_len (j : Nat) (k : Int) (rs : List (List Int)) : (mkF j k rs).length = rs.length := by simp [mkF]
theorem mkF_get (j : Nat) (k : Int) (rs : List (List Int)) (i : Nat) (h : i < rs.length) : (mkF j k rs)[i]? = some (if i < j then marks (k + pre rs i) (rs[i]).length else rs[i]) := by
  unfold mkF
  rw [List.getElem?_map, List.getElem?_range h]
  simp [h]
theorem mkF_zero (k : Int) (rs : List (List Int)) : mkF 0 k rs = rs := by
  apply List.ext_getElem?
  intro i
  by_cases h : i < rs.length
  · rw [mkF_get 0 k rs i h, if_neg (by omega), List.getElem?_eq_getElem h]
  · rw [List.getElem?_eq_none (by rw [mkF_len]; omega), List.getElem?_eq_none (by omega)]
theorem mkF_set (j : Nat) (k : Int) (rs : List (List Int)) (h : j < rs.length) : (mkF j k rs).set j (marks (k + pre rs j) (rs[j]).length) = mkF (j + 1) k rs := by
  apply List.ext_getElem?
  intro i
  by_cases hi : i < rs.length
  · rw [mkF_get _ k rs i hi]
    by_cases e : j = i
    · subst e
      rw [List.getElem?_set_self (by rw [mkF_len]; exact h), if_pos (by omega)]
    · rw [List.getElem?_set_ne e, mkF_get _ k rs i hi]
      by_cases h1 : i < j
      · rw [if_pos h1, if_pos (by omega)]
      · rw [if_neg h1, if_neg (by omega)]
  · rw [List.getElem?_eq_none (by rw [List.length_set, mkF_len]; omega), List.getElem?_eq_none (by rw [mkF_len]; omega)]
end Wd
end Go.Proofs.Ytddjcgaejjldbaa
