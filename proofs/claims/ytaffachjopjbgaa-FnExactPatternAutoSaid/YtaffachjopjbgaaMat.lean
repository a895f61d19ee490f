/-
  Rows of rows of int64 that the call owns, no two of them in one block.
-/
import Derived.Test.YtaffachjopjbgaaOwnK
import Derived.Test.YtaffachjopjbgaaIntsM
import Derived.Deep.AppendLies
namespace Go.Proofs.Ytaffachjopjbgaa
open Go.RowKit
open Wd
set_option linter.unusedVariables false
/-- rows of one's own, no two of them in one block -/
structure Rws (w : World) (lo : Nat) (U : List Value) (Z : List (List Int)) : Prop where
  len : U.length = Z.length
  row : ∀ (j : Nat) (u : Value) (zs : List Int), U[j]? = some u → Z[j]? = some zs → OwnsI w lo u zs
  ne : ∀ (i j : Nat) (u y : Value), i < j → U[i]? = some u → U[j]? = some y → u.ownBlock = none ∨ u.ownBlock ≠ y.ownBlock
/-- nothing is changed but in these rows' blocks -/
structure OnlyIn (U : List Value) (w w' : World) : Prop where
  os : w'.os = w.os
  tape : w'.tape = w.tape
  output : w'.output = w.output
  size : w.heap.size ≤ w'.heap.size
  block : ∀ k, k < w.heap.size → (∀ u ∈ U, u.ownBlock ≠ some k) → w'.heap[k]? = w.heap[k]?
theorem OnlyIn.refl (U : List Value) (w : World) : OnlyIn U w w := ⟨rfl, rfl, rfl, Nat.le_refl _, fun _ _ _ => rfl⟩
theorem OnlyIn.trans {U : List Value} {a b c : World} (h : OnlyIn U a b) (h' : OnlyIn U b c) : OnlyIn U a c :=
  ⟨h'.os.trans h.os, h'.tape.trans h.tape, h'.output.trans h.output, Nat.le_trans h.size h'.size, fun k hk hn => (h'.block k (Nat.lt_of_lt_of_le hk h.size) hn).trans (h.block k hk hn)⟩
theorem OnlyIn.mono {U V : List Value} {a b : World} (h : OnlyIn U a b) (hs : ∀ u ∈ U, u ∈ V) : OnlyIn V a b :=
  ⟨h.os, h.tape, h.output, h.size, fun k hk hn => h.block k hk fun u hu => hn u (hs u hu)⟩
theorem OnlyIn.of_grown {U : List Value} {u : Value} {a b : World} (h : a.grownBy b u.ownBlock) (hu : u ∈ U) : OnlyIn U a b :=
  ⟨h.os, h.tape, h.output, h.size, fun k hk hn => h.block k hk fun e => hn u hu e.symm⟩
theorem OnlyIn.of_below {U : List Value} {a b : World} (h : Below a.heap.size a b) : OnlyIn U a b :=
  ⟨h.os, h.tape, h.output, h.size, fun k hk _ => h.block k hk⟩
theorem OnlyIn.below {U : List Value} {a b : World} {lo : Nat} (h : OnlyIn U a b) (hlo : lo ≤ a.heap.size) (hU : ∀ u ∈ U, ∀ q, u.ownBlock = some q → lo ≤ q) : Below lo a b :=
  ⟨h.os, h.tape, h.output, h.size, fun k hk => h.block k (by omega) fun u hu e => by have := hU u hu k e; omega⟩
theorem own_only {U : List Value} {w w' : World} {B e s n : Nat} {v : Value} {xs : List Value} (h : w.ownsRow B e s v n xs) (ho : OnlyIn U w w') (hne : ∀ u ∈ U, u.ownBlock = none ∨ u.ownBlock ≠ v.ownBlock) : w'.ownsRow B e s v n xs := by
  refine ⟨h.1, ?_⟩
  rcases h.2 with h' | ⟨g, cap, cur, rfl, hb, hg, rest⟩
  · exact .inl h'
  · refine .inr ⟨g, cap, cur, rfl, hb, (ho.block g (Array.getElem?_eq_some_iff.1 hg).1 fun u hu e => ?_).trans hg, rest⟩
    rcases hne u hu with h1 | h1
    · rw [h1] at e; cases e
    · exact h1 e
theorem Rws.ge {w : World} {lo : Nat} {U : List Value} {Z : List (List Int)} (h : Rws w lo U Z) : ∀ u ∈ U, ∀ q, u.ownBlock = some q → lo ≤ q ∧ q < w.heap.size := by
  intro u hu q hq
  obtain ⟨j, hj, rfl⟩ := List.mem_iff_getElem.1 hu
  exact (h.row j _ _ (List.getElem?_eq_getElem hj) (List.getElem?_eq_getElem (by rw [← h.len]; exact hj))).lt q hq
theorem Rws.kept {w w' : World} {lo : Nat} {U : List Value} {Z : List (List Int)} (h : Rws w lo U Z) (hb : Below w.heap.size w w') : Rws w' lo U Z :=
  ⟨h.len, fun j u zs h1 h2 => own_below (h.row j u zs h1 h2) hb (Nat.le_refl _), h.ne⟩
theorem Rws.lower {w : World} {lo B : Nat} {U : List Value} {Z : List (List Int)} (h : Rws w lo U Z) (hb : B ≤ lo) : Rws w B U Z :=
  ⟨h.len, fun j u zs h1 h2 => own_lower (h.row j u zs h1 h2) hb, h.ne⟩
theorem Rws.only {w w' : World} {lo : Nat} {U V : List Value} {Z : List (List Int)} (h : Rws w lo U Z) (ho : OnlyIn V w w') (hV : ∀ u ∈ V, ∀ q, u.ownBlock = some q → q < lo) : Rws w' lo U Z := by
  refine ⟨h.len, fun j u zs h1 h2 => own_only (h.row j u zs h1 h2) ho (fun y hy => ?_), h.ne⟩
  cases hq : y.ownBlock with
  | none => exact .inl rfl
  | some q =>
    refine .inr fun e => ?_
    have h3 := hV y hy q hq
    have h4 := ((h.row j u zs h1 h2).lt q e.symm).1
    omega
theorem Rws.mark {w w' : World} {lo : Nat} {U : List Value} {Z : List (List Int)} (h : Rws w lo U Z) {j : Nat} {u : Value} {zs : List Int} (hu : U[j]? = some u) (hg : w.grownBy w' u.ownBlock) (ho : OwnsI w' lo u zs) : Rws w' lo U (Z.set j zs) := by
  refine ⟨by simpa using h.len, fun i y ys h1 h2 => ?_, h.ne⟩
  by_cases e : j = i
  · subst e
    rw [hu] at h1
    injection h1 with h1
    subst h1
    have hj : j < Z.length := by rw [← h.len]; exact (List.getElem?_eq_some_iff.1 hu).1
    rw [List.getElem?_set_self hj] at h2
    injection h2 with h2
    subst h2
    exact ho
  · rw [List.getElem?_set_ne e] at h2
    refine World.ownsRow.kept (h.row i y ys h1 h2) hg ?_
    rcases Nat.lt_or_gt_of_ne e with hlt | hlt
    · rcases h.ne j i u y hlt hu h1 with h3 | h3
      · cases hy : y.ownBlock with
        | none => exact .inl rfl
        | some q => exact .inr (by rw [h3]; simp)
      · exact .inr fun e => h3 e.symm
    · exact h.ne i j y u hlt h1 hu
theorem Rws.tail {w : World} {lo : Nat} {u : Value} {U : List Value} {z : List Int} {Z : List (List Int)} (h : Rws w lo (u :: U) (z :: Z)) : OwnsI w lo u z ∧ Rws w lo U Z ∧ ∀ y ∈ U, y.ownBlock = none ∨ y.ownBlock ≠ u.ownBlock := by
  refine ⟨h.row 0 u z rfl rfl, ⟨by simpa using h.len, fun j y zs h1 h2 => h.row (j + 1) y zs (by simpa using h1) (by simpa using h2), fun i j y y' hij h1 h2 => h.ne (i + 1) (j + 1) y y' (by omega) (by simpa using h1) (by simpa using h2)⟩, fun y hy => ?_⟩
  obtain ⟨j, hj, rfl⟩ := List.mem_iff_getElem.1 hy
  rcases h.ne 0 (j + 1) u U[j] (by omega) rfl (by simp [hj]) with h1 | h1
  · cases hy : U[j].ownBlock with
    | none => exact .inl rfl
    | some q => exact .inr (by rw [h1]; simp)
  · exact .inr fun e => h1 e.symm
theorem Rws.cons {w : World} {lo : Nat} {u : Value} {U : List Value} {z : List Int} {Z : List (List Int)} (h0 : OwnsI w lo u z) (h : Rws w lo U Z) (hne : ∀ y ∈ U, u.ownBlock = none ∨ u.ownBlock ≠ y.ownBlock) : Rws w lo (u :: U) (z :: Z) := by
  refine ⟨by simpa using h.len, fun j y zs h1 h2 => ?_, fun i j y y' hij h1 h2 => ?_⟩
  · cases j with
    | zero =>
      have e1 : u = y := by simpa using h1
      have e2 : z = zs := by simpa using h2
      subst e1 e2
      exact h0
    | succ j => exact h.row j y zs (by simpa using h1) (by simpa using h2)
  · cases j with
    | zero => omega
    | succ j =>
      cases i with
      | zero =>
        have e1 : u = y := by simpa using h1
        subst e1
        exact hne y' (List.mem_iff_getElem?.2 ⟨j, by simpa using h2⟩)
      | succ i => exact h.ne i j y y' (by omega) (by simpa using h1) (by simpa using h2)
theorem Rws.snoc {w : World} {lo : Nat} {u : Value} {U : List Value} {z : List Int} {Z : List (List Int)} (h : Rws w lo U Z) (h0 : OwnsI w lo u z) (hne : ∀ y ∈ U, y.ownBlock = none ∨ y.ownBlock ≠ u.ownBlock) : Rws w lo (U ++ [u]) (Z ++ [z]) := by
  have hl := h.len
  have last : ∀ {α : Type} {l : List α} {a b : α} {j : Nat}, (l ++ [a])[j]? = some b → l[j]? = some b ∨ (j = l.length ∧ a = b) := by
    intro α l a b j hj
    by_cases hlt : j < l.length
    · rw [List.getElem?_append_left hlt] at hj; exact .inl hj
    · rw [List.getElem?_append_right (by omega)] at hj
      have hj0 : j - l.length = 0 := by have := (List.getElem?_eq_some_iff.1 hj).1; simp at this; omega
      rw [hj0] at hj
      exact .inr ⟨by omega, by simpa using hj⟩
  refine ⟨by simp [hl], fun j y zs h1 h2 => ?_, fun i j y y' hij h1 h2 => ?_⟩
  · rcases last h1 with h1 | ⟨h1, rfl⟩ <;> rcases last h2 with h2 | ⟨h2, rfl⟩
    · exact h.row j y zs h1 h2
    · have := (List.getElem?_eq_some_iff.1 h1).1; omega
    · have := (List.getElem?_eq_some_iff.1 h2).1; omega
    · exact h0
  · rcases last h1 with h1 | ⟨h1, rfl⟩ <;> rcases last h2 with h2 | ⟨h2, rfl⟩
    · exact h.ne i j y y' hij h1 h2
    · exact hne y (List.mem_iff_getElem?.2 ⟨i, h1⟩)
    · have := (List.getElem?_eq_some_iff.1 h2).1; omega
    · omega
theorem Rws.nil (w : World) (lo : Nat) : Rws w lo [] [] := ⟨rfl, fun j u zs h => by simp at h, fun i j u y _ h => by simp at h⟩
/-- rows of rows that the call owns: the outer row's slice, its values, what they hold -/
structure OwnM (w : World) (lo : Nat) (v : Value) (U : List Value) (Z : List (List Int)) : Prop where
  outer : w.ownsRow lo 22 1 v U.length U
  rows : Rws w lo U Z
theorem OwnM.ne {w : World} {lo : Nat} {v : Value} {U : List Value} {Z : List (List Int)} (h : OwnM w lo v U Z) : ∀ u ∈ U, u.ownBlock = none ∨ u.ownBlock ≠ v.ownBlock := by
  intro u hu
  obtain ⟨j, hj, rfl⟩ := List.mem_iff_getElem.1 hu
  have h1 := h.rows.row j _ _ (List.getElem?_eq_getElem hj) (List.getElem?_eq_getElem (by rw [← h.rows.len]; exact hj))
  exact own_kinds_ne h1 h.outer (by decide)
theorem OwnM.kept {w w' : World} {lo : Nat} {v : Value} {U : List Value} {Z : List (List Int)} (h : OwnM w lo v U Z) (hb : Below w.heap.size w w') : OwnM w' lo v U Z :=
  ⟨own_below h.outer hb (Nat.le_refl _), h.rows.kept hb⟩
theorem OwnM.lower {w : World} {lo B : Nat} {v : Value} {U : List Value} {Z : List (List Int)} (h : OwnM w lo v U Z) (hb : B ≤ lo) : OwnM w B v U Z :=
  ⟨own_lower h.outer hb, h.rows.lower hb⟩
theorem OwnM.lt {w : World} {lo : Nat} {v : Value} {U : List Value} {Z : List (List Int)} (h : OwnM w lo v U Z) : ∀ q, v.ownBlock = some q → lo ≤ q ∧ q < w.heap.size := fun q hq => h.outer.lt q hq
theorem OwnM.only {w w' : World} {lo : Nat} {v : Value} {U V : List Value} {Z : List (List Int)} (h : OwnM w lo v U Z) (ho : OnlyIn V w w') (hV : ∀ u ∈ V, ∀ q, u.ownBlock = some q → q < lo) : OwnM w' lo v U Z := by
  refine ⟨own_only h.outer ho (fun u hu => ?_), h.rows.only ho hV⟩
  cases hq : u.ownBlock with
  | none => exact .inl rfl
  | some q =>
    refine .inr fun e => ?_
    have h1 := hV u hu q hq
    have h2 := (h.outer.lt q e.symm).1
    omega
theorem OwnM.len {w : World} {lo : Nat} {v : Value} {U : List Value} {Z : List (List Int)} (h : OwnM w lo v U Z) : U.length = Z.length := h.rows.len
theorem OwnM.shape {w : World} {lo : Nat} {v : Value} {U : List Value} {Z : List (List Int)} (h : OwnM w lo v U Z) : (v = .slice none 0 0 ∧ U = []) ∨ ∃ g c, v = .slice (some ⟨g, 0, none⟩) U.length c ∧ lo ≤ g ∧ g < w.heap.size := by
  rcases h.outer.2 with ⟨h1, h2⟩ | ⟨g, cap, cur, rfl, hb, hg, _⟩
  · exact .inl ⟨h1, List.eq_nil_of_length_eq_zero h2⟩
  · exact .inr ⟨g, cap, rfl, hb, (Array.getElem?_eq_some_iff.1 hg).1⟩
theorem OwnM.snoc {w w5 : World} {lo : Nat} {y y' u : Value} {U : List Value} {Z : List (List Int)} {z : List Int} {o : Obj} (h : OwnM w lo y U Z) (hu : OwnsI w lo u z)
    (hne : ∀ q ∈ U, q.ownBlock = none ∨ q.ownBlock ≠ u.ownBlock) (hown : w5.ownsRow lo 22 1 y' (U.length + 1) (U ++ [u])) (hg : (w.alloc o).grownBy w5 y.ownBlock) : OwnM w5 lo y' (U ++ [u]) (Z ++ [z]) := by
  refine ⟨by simpa using hown, Rws.snoc ⟨h.rows.len, fun j q zs h1 h2 => own_other (h.rows.row j q zs h1 h2) h.outer (by decide) hg, h.rows.ne⟩ (own_other hu h.outer (by decide) hg) hne⟩
theorem OwnM.fresh {w : World} {lo B : Nat} {y u : Value} {U : List Value} {Z : List (List Int)} {w' : World} {z : List Int} (h : OwnM w lo y U Z) (hB : w.heap.size ≤ B) (hu : OwnsI w' B u z) : ∀ q ∈ U, q.ownBlock = none ∨ q.ownBlock ≠ u.ownBlock := by
  intro q hq
  cases e : q.ownBlock with
  | none => exact .inl rfl
  | some g =>
    refine .inr fun e' => ?_
    have h1 := (h.rows.ge q hq g e).2
    have h2 := (hu.lt g e'.symm).1
    omega
/-- rows of the call's own, so many yet -/
def MSt (w : World) (Z : List (List Int)) (y : Value) (wr : World) : Prop := ∃ U, OwnM wr w.heap.size y U Z ∧ Below w.heap.size w wr
theorem MSt.start (w : World) (o : Obj) (ho : o = .cells #[] 22) : MSt w [] (.slice (some ⟨w.heap.size, 0, none⟩) 0 0) (w.alloc o) := by
  subst ho
  exact ⟨[], ⟨World.ownsRow_lit (base := w.heap.size) (e := 22) (size := 1) w #[] 0 (Nat.le_refl _) (by decide) rfl, Rws.nil _ _⟩, (Below.refl _ w).alloc (Nat.le_refl _) _⟩
theorem MSt.append {w wo w5 w6 : World} {Z : List (List Int)} {y y' u : Value} {z : List Int} {o : Obj} {U : List Value} (h : OwnM wo w.heap.size y U Z ∧ Below w.heap.size w wo) (hb : Below wo.heap.size wo w5) (hu : OwnsI w5 wo.heap.size u z)
    (hown : w6.ownsRow w.heap.size 22 1 y' (U.length + 1) (U ++ [u])) (hg : (w5.alloc o).grownBy w6 y.ownBlock) : MSt w (Z ++ [z]) y' w6 := by
  obtain ⟨h1, h2⟩ := h
  have hs := h2.size
  have hs5 := hb.size
  refine ⟨U ++ [u], (h1.kept hb).snoc (own_lower hu hs) (h1.fresh (Nat.le_refl _) hu) hown hg, ?_⟩
  exact ((h2.trans (hb.mono hs)).alloc (by omega) o).grown hg (by simp; omega) (fun q hq => (h1.outer.lt q hq).1)
theorem one_slice (A : Option Addr) (n c : Nat) : ∀ u ∈ [Value.slice A n c], u.oneCell' = true := by intro u hu; simp at hu; subst hu; rfl
theorem Try.info_ints : (Try.prog.info? 22).map (fun i => (i.zero, i.size, i.bytes)) = some (some (.slice none 0 0), 1, 24) := by kernel_rfl
end Go.Proofs.Ytaffachjopjbgaa
