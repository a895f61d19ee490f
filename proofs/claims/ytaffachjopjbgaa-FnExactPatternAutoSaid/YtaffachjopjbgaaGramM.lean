/-
  Grammars as lists of rules: their cells, which rules fit, the measures of all rules. Nothing of the program.
-/
import Derived.Test.YtaffachjopjbgaaMath
import Derived.Below
import Derived.Laws.OwnMore
import Derived.Deep.Draws
import Derived.Laws.Rows
namespace Go.Proofs.Ytaffachjopjbgaa
open Go.RowKit
set_option linter.unusedVariables false
namespace Wd

/-- a rule as it is read -/
structure Rl where
  L : ByteArray
  l : Int
  r : Int

/-- its cells -/
def rc (x : Rl) : List Value := [.string x.L, .int .i64 x.l, .int .i64 x.r]
/-- those of a list -/
def rv (gs : List Rl) : List Value := gs.flatMap rc
theorem rv_len (gs : List Rl) : (rv gs).length = gs.length * 3 := by
  induction gs with
  | nil => rfl
  | cons x gs ih => simp only [rv, List.flatMap_cons, List.length_append, List.length_cons] at ih ⊢; simp only [rc, List.length_cons, List.length_nil]; omega
theorem rv_app (gs hs : List Rl) : rv (gs ++ hs) = rv gs ++ rv hs := by simp [rv]
theorem rv_one (x : Rl) : rv [x] = rc x := by simp [rv]
theorem rv_cell (gs : List Rl) : ∀ u ∈ rv gs, u.oneCell' = true := by
  intro u hu
  obtain ⟨x, _, hx⟩ := List.mem_flatMap.1 hu
  simp only [rc, List.mem_cons, List.not_mem_nil, or_false] at hx
  rcases hx with rfl | rfl | rfl <;> rfl
theorem rv_get (gs : List Rl) (k : Nat) (h : k < gs.length) (j : Nat) (hj : j < 3) : (rv gs)[k * 3 + j]? = (rc gs[k])[j]? := by
  induction gs generalizing k with
  | nil => simp at h
  | cons x gs ih =>
    have hx : (rc x).length = 3 := rfl
    cases k with
    | zero =>
      rw [show rv (x :: gs) = rc x ++ rv gs from rfl, List.getElem?_append_left (by omega)]
      simp
    | succ k =>
      rw [show rv (x :: gs) = rc x ++ rv gs from rfl, List.getElem?_append_right (by omega), show (k + 1) * 3 + j - (rc x).length = k * 3 + j from by omega]
      simpa using ih k (by simpa using h)

/-- may the rule stand at this number? -/
def Rl.ok (x : Rl) (n : Nat) : Bool :=
  if x.L.size = 0 then decide (0 ≤ x.l) && decide (x.l < n) && (decide (0 ≤ x.r) && decide (x.r < n))
  else decide (x.L.size = 1) && okL x.L.data.toList && (decide (x.l = 0) && decide (x.r = 0))
theorem ok_pair {x : Rl} {n : Nat} (h0 : x.L.size = 0) : x.ok n = true ↔ (0 ≤ x.l ∧ x.l < n) ∧ (0 ≤ x.r ∧ x.r < n) := by
  simp [Rl.ok, h0]
theorem ok_letter {x : Rl} {n : Nat} (h0 : x.L.size ≠ 0) : x.ok n = true ↔ (x.L.size = 1 ∧ okL x.L.data.toList = true) ∧ (x.l = 0 ∧ x.r = 0) := by
  simp [Rl.ok, h0]

/-- the measure of a rule behind those -/
def val1 (J : Int → Int → Int) (d : List Int) (x : Rl) : Int := if x.L.size = 0 then J (d.getD x.l.toNat 0) (d.getD x.r.toNat 0) else 1
/-- the measures of all rules -/
def valsOn (J : Int → Int → Int) (d : List Int) (gs : List Rl) : List Int := gs.foldl (fun d x => d ++ [val1 J d x]) d
def vals (J : Int → Int → Int) (gs : List Rl) : List Int := valsOn J [] gs
theorem vals_snoc (J) (gs : List Rl) (x : Rl) : vals J (gs ++ [x]) = vals J gs ++ [val1 J (vals J gs) x] := by
  simp [vals, valsOn, List.foldl_append]
theorem valsOn_len (J) (d : List Int) (gs : List Rl) : (valsOn J d gs).length = d.length + gs.length := by
  induction gs generalizing d with
  | nil => rfl
  | cons x gs ih => have := ih (d ++ [val1 J d x]); simp only [valsOn, List.foldl_cons, List.length_append, List.length_cons, List.length_nil] at this ⊢; omega
theorem vals_len (J) (gs : List Rl) : (vals J gs).length = gs.length := by
  have := valsOn_len J [] gs; simpa [vals] using this
theorem vals_take_succ (J) (gs : List Rl) (k : Nat) (h : k < gs.length) : vals J (gs.take (k + 1)) = vals J (gs.take k) ++ [val1 J (vals J (gs.take k)) gs[k]] := by
  rw [List.take_succ_eq_append_getElem h, vals_snoc]
theorem vals_app (J) (gs hs : List Rl) : vals J (gs ++ hs) = valsOn J (vals J gs) hs := by simp [vals, valsOn, List.foldl_append]
theorem valsOn_take (J) (d : List Int) (hs : List Rl) : (valsOn J d hs).take d.length = d := by
  induction hs generalizing d with
  | nil => simp [valsOn]
  | cons x hs ih =>
    have h1 := ih (d ++ [val1 J d x])
    have h2 : valsOn J d (x :: hs) = valsOn J (d ++ [val1 J d x]) hs := rfl
    rw [h2]
    have h3 := congrArg (List.take d.length) h1
    rw [List.take_take, List.take_left] at h3
    rw [Nat.min_eq_left (by simp)] at h3
    exact h3
theorem vals_take (J) (gs : List Rl) (k : Nat) : (vals J gs).take k = vals J (gs.take k) := by
  rcases Nat.lt_or_ge k gs.length with h | h
  · have h1 := valsOn_take J (vals J (gs.take k)) (gs.drop k)
    rw [← vals_app, List.take_append_drop, vals_len, List.length_take, Nat.min_eq_left (by omega)] at h1
    exact h1
  · rw [List.take_of_length_le (by rw [vals_len]; omega), List.take_of_length_le h]
theorem vals_get (J) (gs : List Rl) (k : Nat) (h : k < gs.length) : (vals J gs).getD k 0 = val1 J (vals J (gs.take k)) gs[k] := by
  have h1 := vals_take_succ J gs k h
  rw [← vals_take, ← vals_take] at h1
  have hk : k < (vals J gs).length := by rw [vals_len]; exact h
  rw [List.take_succ_eq_append_getElem hk] at h1
  have h2 := List.append_cancel_left h1
  rw [List.getD_eq_getElem?_getD, List.getElem?_eq_getElem hk, Option.getD_some]
  rw [vals_take] at h2
  simpa using h2
theorem getD_take {d : List Int} {j k : Nat} (h : j < k) : (d.take k).getD j 0 = d.getD j 0 := by
  simp only [List.getD_eq_getElem?_getD, List.getElem?_take, h, if_true]
theorem vals_pair (J) (gs : List Rl) (k : Nat) (h : k < gs.length) (h0 : gs[k].L.size = 0) (hok : gs[k].ok k = true) :
    (vals J gs).getD k 0 = J ((vals J gs).getD gs[k].l.toNat 0) ((vals J gs).getD gs[k].r.toNat 0) := by
  obtain ⟨⟨a1, a2⟩, b1, b2⟩ := (ok_pair h0).1 hok
  rw [vals_get J gs k h, val1, if_pos h0, ← vals_take, getD_take (by omega), getD_take (by omega)]
theorem vals_letter (J) (gs : List Rl) (k : Nat) (h : k < gs.length) (h0 : gs[k].L.size ≠ 0) : (vals J gs).getD k 0 = 1 := by
  rw [vals_get J gs k h, val1, if_neg h0]

/-- the lengths of the words -/
def lens (gs : List Rl) : List Int := vals (fun a b => a + b) gs
theorem lens_len (gs : List Rl) : (lens gs).length = gs.length := vals_len _ _
/-- do all rules fit? -/
def fits (gs : List Rl) : Bool := decide (∀ k (h : k < gs.length), gs[k].ok k = true)
/-- is no word too long? -/
def small (gs : List Rl) : Bool := decide (∀ k, k < gs.length → (lens gs).getD k 0 ≤ 1000000000000000)
/-- is the grammar valid? -/
def gOk (gs : List Rl) : Bool := decide (gs.length ≤ 400) && (fits gs && small gs)
theorem fits_at {gs : List Rl} (h : fits gs = true) (k : Nat) (hk : k < gs.length) : gs[k].ok k = true := of_decide_eq_true h k hk
theorem small_at {gs : List Rl} (h : small gs = true) (k : Nat) (hk : k < gs.length) : (lens gs).getD k 0 ≤ 1000000000000000 := of_decide_eq_true h k hk
theorem gOk_iff {gs : List Rl} : gOk gs = true ↔ gs.length ≤ 400 ∧ fits gs = true ∧ small gs = true := by
  simp [gOk]

/-- up to a number all fit and none is too long -/
def UpTo (gs : List Rl) (k : Nat) : Prop := ∀ j (h : j < gs.length), j < k → gs[j].ok j = true ∧ (lens gs).getD j 0 ≤ 1000000000000000
theorem upTo_zero (gs : List Rl) : UpTo gs 0 := fun _ _ h => by omega
theorem upTo_succ {gs : List Rl} {k : Nat} (h : UpTo gs k) (hk : k < gs.length) (h1 : gs[k].ok k = true) (h2 : (lens gs).getD k 0 ≤ 1000000000000000) : UpTo gs (k + 1) := fun j hj hjk => by
  by_cases e : j = k
  · subst e; exact ⟨h1, h2⟩
  · exact h j hj (by omega)
theorem upTo_all {gs : List Rl} {k : Nat} (h : UpTo gs k) (hk : gs.length ≤ k) : (fits gs && small gs) = true := by
  rw [Bool.and_eq_true]
  exact ⟨decide_eq_true fun j hj => (h j hj (by omega)).1, decide_eq_true fun j hj => (h j hj (by omega)).2⟩
theorem bad_fit {gs : List Rl} {k : Nat} (hk : k < gs.length) (h1 : gs[k].ok k = false) : (fits gs && small gs) = false := by
  have : fits gs = false := decide_eq_false fun h => by rw [h k hk] at h1; cases h1
  rw [this]; rfl
theorem bad_long {gs : List Rl} {k : Nat} (hk : k < gs.length) (h1 : 1000000000000000 < (lens gs).getD k 0) : (fits gs && small gs) = false := by
  have : small gs = false := decide_eq_false fun h => by have := h k hk; omega
  rw [this]; simp
/-- the lengths are at least 1 as long as the rules fit -/
theorem vals_pos (J) (hJ : ∀ a b, 1 ≤ a → 1 ≤ b → 1 ≤ J a b) (gs : List Rl) : ∀ n k (h : k < gs.length), k < n → (∀ j (h : j < gs.length), j ≤ k → gs[j].ok j = true) → 1 ≤ (vals J gs).getD k 0
  | 0, k, h, hn, _ => by omega
  | n + 1, k, h, hn, hok => by
    by_cases h0 : gs[k].L.size = 0
    · have hk := hok k h (Nat.le_refl _)
      obtain ⟨⟨a1, a2⟩, b1, b2⟩ := (ok_pair h0).1 hk
      rw [vals_pair J gs k h h0 hk]
      exact hJ _ _ (vals_pos J hJ gs n _ (by omega) (by omega) fun j hj hjk => hok j hj (by omega)) (vals_pos J hJ gs n _ (by omega) (by omega) fun j hj hjk => hok j hj (by omega))
    · rw [vals_letter J gs k h h0]; omega
theorem lens_pos {gs : List Rl} {k : Nat} (h : k < gs.length) (hok : ∀ j (h : j < gs.length), j ≤ k → gs[j].ok j = true) : 1 ≤ (lens gs).getD k 0 :=
  vals_pos _ (fun a b ha hb => by omega) gs (k + 1) k h (by omega) hok
/-- the next length out of those before -/
theorem lens_next {gs : List Rl} {k : Nat} (h : k < gs.length) (hu : UpTo gs k) (hk : gs[k].ok k = true) (h0 : gs[k].L.size = 0) :
    ∃ a b : Nat, gs[k].l = a ∧ gs[k].r = b ∧ a < k ∧ b < k ∧ (lens gs).getD k 0 = (lens gs).getD a 0 + (lens gs).getD b 0 ∧
      1 ≤ (lens gs).getD a 0 ∧ (lens gs).getD a 0 ≤ 1000000000000000 ∧ 1 ≤ (lens gs).getD b 0 ∧ (lens gs).getD b 0 ≤ 1000000000000000 := by
  obtain ⟨⟨a1, a2⟩, b1, b2⟩ := (ok_pair h0).1 hk
  have ha : gs[k].l.toNat < gs.length := by omega
  have hb : gs[k].r.toNat < gs.length := by omega
  refine ⟨gs[k].l.toNat, gs[k].r.toNat, by omega, by omega, by omega, by omega, vals_pair _ gs k h h0 hk, ?_, (hu _ ha (by omega)).2, ?_, (hu _ hb (by omega)).2⟩
  · exact lens_pos ha fun j hj hjk => (hu j hj (by omega)).1
  · exact lens_pos hb fun j hj hjk => (hu j hj (by omega)).1
theorem lens_snoc {gs : List Rl} {k : Nat} (h : k < gs.length) : lens (gs.take (k + 1)) = lens (gs.take k) ++ [(lens gs).getD k 0] := by
  unfold lens
  rw [vals_take_succ _ gs k h, vals_get _ gs k h]
theorem lens_at {gs : List Rl} {j k : Nat} (h : j < k) (hk : k ≤ gs.length) : (lens (gs.take k))[j]? = some ((lens gs).getD j 0) := by
  unfold lens
  rw [← vals_take, List.getElem?_take, if_pos h]
  have : j < (vals (fun a b => a + b) gs).length := by rw [vals_len]; omega
  rw [List.getD_eq_getElem?_getD, List.getElem?_eq_getElem this, Option.getD_some]

/-- where the rules lie that a slice value holds -/
def Rules (w : World) (v : Value) (gs : List Rl) : Prop :=
  ∃ A c, v = .slice A gs.length c ∧ (gs = [] ∨ ∃ g, A = some ⟨g, 0, none⟩ ∧ g < w.heap.size ∧ ∀ j u, (rv gs)[j]? = some u → w.cell? ⟨g, j, none⟩ = some u)
theorem Rules.kept {w w' : World} {v : Value} {gs : List Rl} (h : Rules w v gs) (hb : Below w.heap.size w w') : Rules w' v gs := by
  obtain ⟨A, c, hv, h | ⟨g, hA, hg, hc⟩⟩ := h
  · exact ⟨A, c, hv, .inl h⟩
  · exact ⟨A, c, hv, .inr ⟨g, hA, Nat.lt_of_lt_of_le hg hb.size, fun j u hu => (hb.cell (p := ⟨g, j, none⟩) hg).trans (hc j u hu)⟩⟩
/-- the three cells of a rule -/
theorem rules_cells {w : World} {gs : List Rl} {g k : Nat} (hc : ∀ j u, (rv gs)[j]? = some u → w.cell? ⟨g, j, none⟩ = some u) (h : k < gs.length) :
    w.cell? ⟨g, k * 3, none⟩ = some (.string gs[k].L) ∧ w.cell? ⟨g, k * 3 + 1, none⟩ = some (.int .i64 gs[k].l) ∧ w.cell? ⟨g, k * 3 + 2, none⟩ = some (.int .i64 gs[k].r) :=
  ⟨hc _ _ (rv_get gs k h 0 (by omega)), hc _ _ (rv_get gs k h 1 (by omega)), hc _ _ (rv_get gs k h 2 (by omega))⟩
theorem Rules.of_own {w : World} {B e : Nat} {v : Value} {gs : List Rl} (h : w.ownsRow B e 3 v gs.length (rv gs)) : Rules w v gs := by
  rcases h.2 with ⟨rfl, h0⟩ | ⟨g, cap, cur, rfl, hb, hg, _⟩
  · exact ⟨none, 0, by rw [h0], .inl (List.eq_nil_of_length_eq_zero h0)⟩
  · exact ⟨_, _, rfl, .inr ⟨g, rfl, (Array.getElem?_eq_some_iff.1 hg).1, fun j u hu => by have := h.cells (g := g) rfl j u hu; unfold Addr.add at this; split at this <;> simp_all⟩⟩
theorem lt_of_cell {w : World} {A : Addr} {v : Value} (h : w.cell? A = some v) : A.block < w.heap.size := by
  rcases Nat.lt_or_ge A.block w.heap.size with h' | h'
  · exact h'
  · simp [World.cell?, Array.getElem?_eq_none h'] at h
theorem cell_new (w : World) (v : Value) (t : TypeId) : (w.alloc (.cells #[v] t)).cell? ⟨w.heap.size, 0, none⟩ = some v := by
  rw [cell_of_row _ _ _ _ _ _ (heap_alloc_new w _)]; rfl
theorem below_undrew {B n : Nat} {w w' : World} (h : Below B (w.drewN n) w') : Below B w w' := ⟨h.os, h.tape, h.output, h.size, h.block⟩
/-- a slice of rules that came in -/
def InRules (w : World) (A : Option Addr) (len : Nat) (gs : List Rl) : Prop :=
  gs.length = len ∧ (gs = [] ∨ ∃ x, A = some x ∧ ∀ i (h : i < gs.length), (w.cell? (x.add (i * 3)) = some (.string gs[i].L) ∧ w.cell? (x.add (i * 3 + 1)) = some (.int .i64 gs[i].l) ∧ w.cell? (x.add (i * 3 + 2)) = some (.int .i64 gs[i].r)) ∧ gs[i].L.size ≤ maxLen)
theorem InRules.kept {w w' : World} {A : Option Addr} {len : Nat} {gs : List Rl} (h : InRules w A len gs) (hb : Below w.heap.size w w') : InRules w' A len gs := by
  obtain ⟨hl, h | ⟨x, hA, hc⟩⟩ := h
  · exact ⟨hl, .inl h⟩
  · refine ⟨hl, .inr ⟨x, hA, fun i hi => ?_⟩⟩
    obtain ⟨⟨h0, h1, h2⟩, h3⟩ := hc i hi
    exact ⟨⟨(hb.cell (lt_of_cell h0)).trans h0, (hb.cell (lt_of_cell h1)).trans h1, (hb.cell (lt_of_cell h2)).trans h2⟩, h3⟩
/-- the letters of all -/
def sumL (gs : List Rl) : Nat := (gs.map fun x => x.L.size).sum
theorem sumL_take (gs : List Rl) (k : Nat) (h : k < gs.length) : sumL (gs.take (k + 1)) = sumL (gs.take k) + gs[k].L.size := by
  rw [List.take_succ_eq_append_getElem h]; simp only [sumL, List.map_append, List.sum_append, List.map_cons, List.map_nil, List.sum_cons, List.sum_nil]; omega
theorem sumL_le (gs : List Rl) (k : Nat) : sumL (gs.take k) ≤ sumL gs := by
  have : sumL gs = sumL (gs.take k) + sumL (gs.drop k) := by
    conv => lhs; rw [← List.take_append_drop k gs]
    simp only [sumL, List.map_append, List.sum_append]
  omega
theorem sumL_at (gs : List Rl) (k : Nat) (h : k < gs.length) : gs[k].L.size ≤ sumL gs := by
  have h1 := sumL_take gs k h
  have h2 := sumL_le gs (k + 1)
  omega
/-- what is left of a purse, -1 if it does not do -/
def purse (left : Int) (gs : List Rl) : Int := if (gs.length : Int) + (sumL gs : Int) ≤ left then left - gs.length - sumL gs else -1
theorem purse_ok {left : Int} {gs : List Rl} (h : (gs.length : Int) + (sumL gs : Int) ≤ left) : purse left gs = left - gs.length - sumL gs := if_pos h
theorem purse_no {left : Int} {gs : List Rl} (h : ¬ (gs.length : Int) + (sumL gs : Int) ≤ left) : purse left gs = -1 := if_neg h
theorem purse_bad {left : Int} {gs : List Rl} {k : Nat} (hk : k < gs.length) (h : left - gs.length - sumL (gs.take k) - gs[k].L.size < 0) : purse left gs = -1 := by
  have h1 := sumL_take gs k hk
  have h2 := sumL_le gs (k + 1)
  exact purse_no (by omega)
end Wd
end Go.Proofs.Ytaffachjopjbgaa
