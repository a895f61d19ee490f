/-
  NotAuto's answer as lists; an automaton's value that is being written.
-/
import Derived.Test.YtaffachjopjbgaaNotS
import Derived.Test.YtaffachjopjbgaaAuOk2
namespace Go.Proofs.Ytaffachjopjbgaa
open Go.RowKit
open Wd
set_option linter.unusedVariables false
namespace Wd
/-- the numbers below k that are wanted -/
def finK (p : Nat → Bool) (k : Nat) : List Int := ((List.range k).filter p).map fun (s : Nat) => (s : Int)
theorem finK_zero (p : Nat → Bool) : finK p 0 = [] := rfl
theorem finK_yes {p : Nat → Bool} {k : Nat} (h : p k = true) : finK p (k + 1) = finK p k ++ [(k : Int)] := by simp [finK, List.range_succ, List.filter_append, h]
theorem finK_no {p : Nat → Bool} {k : Nat} (h : p k = false) : finK p (k + 1) = finK p k := by simp [finK, List.range_succ, List.filter_append, h]
theorem finK_len (p : Nat → Bool) (k : Nat) : (finK p k).length ≤ k := by
  unfold finK
  rw [List.length_map]
  have := List.length_filter_le p (List.range k)
  rwa [List.length_range] at this
def notP (x : Au) (s : Nat) : Bool := !hasN x.fin (s : Int)
def notA (x : Au) : Au := ⟨x.st, x.go, finK (notP x) x.st.toNat, x.nx⟩
def zeroA : Au := ⟨0, 0, [], []⟩
def autNotAuto (x : Au) : Au × Int := if aOk x = true then (notA x, 0) else (zeroA, 1)
end Wd
theorem zeroA_few : FewA zeroA := ⟨by decide, by decide, by intro r hr; simp [zeroA] at hr⟩
theorem autNotAuto_few {x : Au} (hf : FewA x) : FewA (autNotAuto x).1 := by
  unfold autNotAuto
  by_cases h : aOk x = true
  · rw [if_pos h]
    have h1 := (aOk_parts h).1
    refine ⟨?_, hf.nx, hf.row⟩
    have := finK_len (notP x) x.st.toNat
    show (finK (notP x) x.st.toNat).length ≤ 1048576
    omega
  · rw [if_neg h]; exact zeroA_few
theorem zeroA_is (w : World) : IsAu w (.agg #[.int .i64 0, .int .i64 0, .slice none 0 0, .slice none 0 0]) zeroA :=
  ⟨_, _, rfl, ⟨none, 0, rfl, .inl rfl⟩, ⟨none, 0, rfl, .inl rfl⟩⟩
/-- the zero answer is the call's own -/
theorem zeroA_own (w : World) (lo : Nat) : OwnA w lo (.slice none 0 0) (.slice none 0 0) [] zeroA.fin zeroA.nx :=
  ⟨World.ownsRow_nil _ _ _ _, ⟨World.ownsRow_nil _ _ _ _, Rws.nil _ _⟩, fun u hu => by simp at hu⟩
/-- four cells of a block -/
abbrev B4 (w : World) (b : Nat) (c0 c1 c2 c3 : Value) (t : TypeId) : Prop := w.heap[b]? = some (.cells #[c0, c1, c2, c3] t (0, 0))
theorem B4.lt {w : World} {b : Nat} {c0 c1 c2 c3 : Value} {t : TypeId} (h : B4 w b c0 c1 c2 c3 t) : b < w.heap.size := (Array.getElem?_eq_some_iff.1 h).1
theorem B4.kept {w w' : World} {b : Nat} {c0 c1 c2 c3 : Value} {t : TypeId} (h : B4 w b c0 c1 c2 c3 t) (hb : Below w.heap.size w w') : B4 w' b c0 c1 c2 c3 t := (hb.block b h.lt).trans h
theorem B4.alloc {w : World} {b : Nat} {c0 c1 c2 c3 : Value} {t : TypeId} (h : B4 w b c0 c1 c2 c3 t) (o : Obj) : B4 (w.alloc o) b c0 c1 c2 c3 t := h.kept ((Below.refl _ w).alloc (Nat.le_refl _) o)
theorem B4.far {w : World} {b : Nat} {c0 c1 c2 c3 : Value} {t : TypeId} (h : B4 w b c0 c1 c2 c3 t) (p : Addr) (u : Value) (hp : b ≠ p.block) : B4 (w.setCell p u) b c0 c1 c2 c3 t := (Below.heap_setCell w p u b hp).trans h
theorem B4.grown {w w' : World} {b : Nat} {c0 c1 c2 c3 : Value} {t : TypeId} {row : Option Nat} (h : B4 w b c0 c1 c2 c3 t) (hg : w.grownBy w' row) (hne : row ≠ some b) : B4 w' b c0 c1 c2 c3 t := (hg.block b h.lt (fun e => hne e.symm)).trans h
theorem B4.new (w : World) (c0 c1 c2 c3 : Value) (t : TypeId) : B4 (w.alloc (.cells #[c0, c1, c2, c3] t)) w.heap.size c0 c1 c2 c3 t := heap_alloc_new w _
/-- an automaton whose final states are being found: it lies in block X, its rows before B, its finals from B on -/
structure FSt (w : World) (X : Nat) (st go : Int) (nx : List (List Int)) (fin : List Int) (f n : Value) (wr : World) : Prop where
  out : B4 wr X (.int .i64 st) (.int .i64 go) f n 33
  own : ∃ (U : List Value) (B : Nat), OwnM wr w.heap.size n U nx ∧ (∀ u ∈ U, ∀ q, u.ownBlock = some q → q < B) ∧ (∀ q, n.ownBlock = some q → q < B) ∧ X < B ∧ B ≤ wr.heap.size ∧ OwnsI wr B f fin
  x : w.heap.size ≤ X
  below : Below w.heap.size w wr
theorem FSt.drewN {w wr : World} {X : Nat} {st go : Int} {nx : List (List Int)} {fin : List Int} {f n : Value} (h : FSt w X st go nx fin f n wr) (q : Nat) : FSt w X st go nx fin f n (wr.drewN q) := by
  obtain ⟨U, B, h1, h2, h3, h4, h5, h6⟩ := h.own
  exact ⟨h.out, ⟨U, B, h1.kept (below_drewN (Below.refl _ wr) q), h2, h3, h4, h5, h6⟩, h.x, below_drewN h.below q⟩
theorem grownBy_set (w : World) (p : Addr) (u : Value) : w.grownBy (w.setCell p u) (some p.block) :=
  ⟨rfl, rfl, rfl, by simp, fun i hi hne => Below.heap_setCell w p u i (fun e => hne (by rw [e]))⟩
theorem OwnM.apart {w w' : World} {lo B : Nat} {v : Value} {U : List Value} {Z : List (List Int)} {row : Option Nat} (h : OwnM w lo v U Z) (hU : ∀ u ∈ U, ∀ q, u.ownBlock = some q → q < B) (hv : ∀ q, v.ownBlock = some q → q < B) (hg : w.grownBy w' row) (hrow : ∀ q, row = some q → B ≤ q) : OwnM w' lo v U Z := by
  have key : ∀ y : Value, (∀ q, y.ownBlock = some q → q < B) → y.ownBlock = none ∨ y.ownBlock ≠ row := fun y hy => by
    cases e : y.ownBlock with
    | none => exact .inl rfl
    | some q => exact .inr fun e' => by have h1 := hy q e; have h2 := hrow q e'.symm; omega
  exact ⟨World.ownsRow.kept h.outer hg (key v hv), h.rows.len, fun j u zs h1 h2 => World.ownsRow.kept (h.rows.row j u zs h1 h2) hg (key u (hU u (List.mem_iff_getElem?.2 ⟨j, h1⟩))), h.rows.ne⟩
theorem own_b4_ne {w : World} {B e s n X : Nat} {v : Value} {xs : List Value} {c0 c1 c2 c3 : Value} {t : TypeId} (h : w.ownsRow B e s v n xs) (hx : B4 w X c0 c1 c2 c3 t) (hne : e ≠ t) : v.ownBlock = none ∨ v.ownBlock ≠ some X := by
  rcases h.2 with ⟨rfl, _⟩ | ⟨g, cap, cur, rfl, _, hg, _⟩
  · exact .inl rfl
  · refine .inr fun e => ?_
    have : g = X := by simpa [Value.ownBlock] using e
    subst this
    rw [hx] at hg
    injection hg with h1
    injection h1 with _ h2
    exact hne h2.symm
theorem OwnM.setB4 {w : World} {lo X : Nat} {v : Value} {U : List Value} {Z : List (List Int)} {c0 c1 c2 c3 : Value} (h : OwnM w lo v U Z) (hx : B4 w X c0 c1 c2 c3 33) (i : Nat) (u : Value) : OwnM (w.setCell ⟨X, i, none⟩ u) lo v U Z :=
  ⟨World.ownsRow.kept h.outer (grownBy_set w ⟨X, i, none⟩ u) (own_b4_ne h.outer hx (by decide)), h.rows.len, fun j y zs h1 h2 => World.ownsRow.kept (h.rows.row j y zs h1 h2) (grownBy_set w ⟨X, i, none⟩ u) (own_b4_ne (h.rows.row j y zs h1 h2) hx (by decide)), h.rows.ne⟩
theorem FSt.append {w wr w5 : World} {X : Nat} {st go : Int} {nx : List (List Int)} {fin : List Int} {f n f' : Value} {k : Int} {o : Obj} {U : List Value} {B : Nat} (h : FSt w X st go nx fin f n wr)
    (h' : OwnM wr w.heap.size n U nx ∧ (∀ u ∈ U, ∀ q, u.ownBlock = some q → q < B) ∧ (∀ q, n.ownBlock = some q → q < B) ∧ X < B ∧ B ≤ wr.heap.size ∧ OwnsI wr B f fin)
    (hown : w5.ownsRow B 2 1 f' (fin.length + 1) (iv fin ++ [.int .i64 k])) (hg : (wr.alloc o).grownBy w5 f.ownBlock) : FSt w X st go nx (fin ++ [k]) f' n (w5.setCell ⟨X, 2, none⟩ f') := by
  obtain ⟨h1, h2, h3, h4, h5, h6⟩ := h'
  have hrow : ∀ q, f.ownBlock = some q → B ≤ q := fun q hq => (h6.lt q hq).1
  have ho5 : B4 w5 X (.int .i64 st) (.int .i64 go) f n 33 := (h.out.alloc o).grown hg (fun e => by have := hrow X e; omega)
  have hs := hg.size
  refine ⟨blk4_2 ho5, ⟨U, B, (((h1.kept ((Below.refl _ wr).alloc (Nat.le_refl _) o)).apart h2 h3 hg hrow).setB4 ho5 2 f'), h2, h3, h4, ?_, ?_⟩, h.x, ?_⟩
  · simp at hs ⊢; omega
  · have e1 : OwnsI w5 B f' (fin ++ [k]) := by
      unfold OwnsI
      rw [List.length_append, iv_app]
      exact hown
    exact own_setLow e1 ⟨X, 2, none⟩ f' h4
  · have := h.x
    exact ((h.below.alloc h.below.size o).grown hg (by have := h.below.size; simp; omega) (fun q hq => by have := hrow q hq; omega)).setCell (by simpa using h.x) _
theorem FSt.start1 {w w7 : World} {st go : Int} {nx : List (List Int)} {y : Value} (h : ∃ U, OwnM w7 w.heap.size y U nx) (hb : Below w.heap.size w w7) : FSt w w7.heap.size st go nx [] (.slice none 0 0) y (w7.alloc (.cells #[.int .i64 st, .int .i64 go, .slice none 0 0, y] 33)) := by
  obtain ⟨U, h⟩ := h
  have h' := h.kept ((Below.refl _ w7).alloc (Nat.le_refl _) (.cells #[.int .i64 st, .int .i64 go, .slice none 0 0, y] 33))
  exact ⟨B4.new _ _ _ _ _ _, ⟨U, w7.heap.size + 1, h', fun u hu q hq => by have := (h.rows.ge u hu q hq).2; omega, fun q hq => by have := (h.outer.lt q hq).2; omega, by omega, by simp, World.ownsRow_nil _ _ _ _⟩, hb.size, hb.alloc hb.size _⟩
theorem FSt.start2 {w w7 : World} {st go : Int} {nx : List (List Int)} {y : Value} {c0 c1 c2 c3 : Value} (h : ∃ U, OwnM w7 w.heap.size y U nx) (hb : Below w.heap.size w w7) (hx : B4 w7 w.heap.size c0 c1 c2 c3 33) : FSt w w.heap.size st go nx [] (.slice none 0 0) y ((((w7.setCell ⟨w.heap.size, 0, none⟩ (.int .i64 st)).setCell ⟨w.heap.size, 1, none⟩ (.int .i64 go)).setCell ⟨w.heap.size, 2, none⟩ (.slice none 0 0)).setCell ⟨w.heap.size, 3, none⟩ y) := by
  obtain ⟨U, h⟩ := h
  have hX := hx.lt
  have b1 := blk4_01 (a' := .int .i64 st) (b' := c1) hx
  have g1 : w7.grownBy ((((w7.setCell ⟨w.heap.size, 0, none⟩ (.int .i64 st)).setCell ⟨w.heap.size, 1, none⟩ (.int .i64 go)).setCell ⟨w.heap.size, 2, none⟩ (.slice none 0 0)).setCell ⟨w.heap.size, 3, none⟩ y) (some w.heap.size) := by
    refine ⟨rfl, rfl, rfl, by simp, fun i hi hne => ?_⟩
    have hne' : i ≠ w.heap.size := fun e => hne (by rw [e])
    rw [Below.heap_setCell _ _ _ _ hne', Below.heap_setCell _ _ _ _ hne', Below.heap_setCell _ _ _ _ hne', Below.heap_setCell _ _ _ _ hne']
  have hk : OwnM ((((w7.setCell ⟨w.heap.size, 0, none⟩ (.int .i64 st)).setCell ⟨w.heap.size, 1, none⟩ (.int .i64 go)).setCell ⟨w.heap.size, 2, none⟩ (.slice none 0 0)).setCell ⟨w.heap.size, 3, none⟩ y) w.heap.size y U nx :=
    ⟨World.ownsRow.kept h.outer g1 (own_b4_ne h.outer hx (by decide)), h.rows.len, fun j y zs h1 h2 => World.ownsRow.kept (h.rows.row j y zs h1 h2) g1 (own_b4_ne (h.rows.row j y zs h1 h2) hx (by decide)), h.rows.ne⟩
  exact ⟨blk4_all hx, ⟨U, w7.heap.size, hk, fun u hu q hq => (h.rows.ge u hu q hq).2, fun q hq => (h.outer.lt q hq).2, hX, by simp, World.ownsRow_nil _ _ _ _⟩, Nat.le_refl _, (((hb.setCell (Nat.le_refl _) _).setCell (Nat.le_refl _) _).setCell (Nat.le_refl _) _).setCell (Nat.le_refl _) _⟩
end Go.Proofs.Ytaffachjopjbgaa
