/-
  Rows of maps of states, 24 cells each.
-/
import Derived.Test.YtddjcgaejjldbaaMapS
namespace Go.Proofs.Ytddjcgaejjldbaa
open Go.RowKit
open Wd
set_option linter.unusedVariables false
/-- cells of a row of one's own, stored one behind the other -/
theorem own_setCells {B e s g c n : Nat} : ∀ (vs : List Value) (o : Nat) (w : World) (xs : List Value), w.ownsRow B e s (.slice (some ⟨g, 0, none⟩) n c) n xs → o + vs.length ≤ xs.length →
    (w.setCells g o vs).ownsRow B e s (.slice (some ⟨g, 0, none⟩) n c) n (xs.take o ++ vs ++ xs.drop (o + vs.length))
  | [], o, w, xs, h, ho => by
    have : xs.take o ++ [] ++ xs.drop (o + ([] : List Value).length) = xs := by simp
    rw [this]; exact h
  | v :: r, o, w, xs, h, ho => by
    have h1 := (h.stored o v).1
    have ho' : o < xs.length := by simp at ho; omega
    have h2 := own_setCells r (o + 1) _ _ h1 (by simp at ho ⊢; omega)
    have e1 : (xs.set o v).take (o + 1) ++ r ++ (xs.set o v).drop (o + 1 + r.length) = xs.take o ++ v :: r ++ xs.drop (o + (v :: r).length) := by
      rw [List.take_succ_eq_append_getElem (by simpa using ho'), List.take_set_of_le (Nat.le_refl _), List.drop_set_of_lt (by omega)]
      simp [Nat.add_assoc, Nat.add_comm 1]
    rw [e1] at h2
    exact h2
theorem below_setCells {B : Nat} {w : World} : ∀ (vs : List Value) (g o : Nat) (w' : World), B ≤ g → Below B w w' → Below B w (w'.setCells g o vs)
  | [], g, o, w', hg, h => h
  | v :: r, g, o, w', hg, h => below_setCells r g (o + 1) _ hg (h.setCell (p := ⟨g, o, none⟩) hg v)
theorem heap_setCells (b : Nat) : ∀ (vs : List Value) (g o : Nat) (w : World), b ≠ g → (w.setCells g o vs).heap[b]? = w.heap[b]?
  | [], g, o, w, h => rfl
  | v :: r, g, o, w, h => (heap_setCells b r g (o + 1) _ h).trans (Below.heap_setCell w ⟨g, o, none⟩ v b h)
namespace Wd
/-- all rows of maps are 24 wide -/
def wide (ms : List (List Int)) : Prop := ∀ r ∈ ms, r.length = 24
/-- the maps so far, and zeros -/
def flK (ms : List (List Int)) (n : Nat) : List Int := ms.flatten ++ List.replicate ((n - ms.length) * 24) 0
end Wd
theorem flat_len : ∀ (ms : List (List Int)), wide ms → ms.flatten.length = ms.length * 24
  | [], _ => rfl
  | r :: ms, h => by
    rw [List.flatten_cons, List.length_append, h r (by simp), flat_len ms (fun x hx => h x (by simp [hx])), List.length_cons]
    omega
theorem flat_get : ∀ (ms : List (List Int)), wide ms → ∀ j i, j < ms.length → i < 24 → ms.flatten[j * 24 + i]? = some ((ms.getD j []).getD i 0)
  | [], _, j, i, hj, _ => by simp at hj
  | r :: ms, h, j, i, hj, hi => by
    have hr := h r (by simp)
    rw [List.flatten_cons]
    cases j with
    | zero =>
      rw [List.getElem?_append_left (by omega)]
      simp only [Nat.zero_mul, Nat.zero_add, List.getD_cons_zero]
      rw [List.getD_eq_getElem?_getD, List.getElem?_eq_getElem (by omega)]
      rfl
    | succ j =>
      rw [List.getElem?_append_right (by omega), hr, show (j + 1) * 24 + i - 24 = j * 24 + i from by omega, List.getD_cons_succ]
      exact flat_get ms (fun x hx => h x (by simp [hx])) j i (by simpa using hj) hi
theorem flK_len (ms : List (List Int)) (n : Nat) (h : wide ms) (hn : ms.length ≤ n) : (flK ms n).length = n * 24 := by
  unfold flK
  rw [List.length_append, flat_len ms h, List.length_replicate]
  omega
theorem flK_store (ms : List (List Int)) (n : Nat) (r : List Int) (h : wide ms) (hr : r.length = 24) (hn : ms.length < n) : (iv (flK ms n)).take (ms.length * 24) ++ iv r ++ (iv (flK ms n)).drop (ms.length * 24 + (iv r).length) = iv (flK (ms ++ [r]) n) := by
  have hf := flat_len ms h
  unfold flK
  rw [iv_app, List.take_append_of_le_length (by rw [iv_len]; omega), List.take_of_length_le (by rw [iv_len]; omega), List.drop_append, iv_len, iv_len, hf, hr, List.drop_of_length_le (by rw [iv_len]; omega)]
  rw [List.flatten_append, iv_app, iv_app]
  simp only [List.flatten_cons, List.flatten_nil, List.append_nil, List.nil_append, List.length_append, List.length_cons, List.length_nil]
  congr 1
  rw [show ms.length * 24 + 24 - ms.length * 24 = 24 from by omega, show (n - ms.length) * 24 = 24 + (n - (ms.length + 1)) * 24 from by omega]
  simp [iv, List.map_replicate, List.drop_replicate]
/-- maps in a slice, in a block from lo on -/
def IsMs (w : World) (lo : Nat) (v : Value) (ms : List (List Int)) : Prop :=
  ∃ (A : Option Addr) (c : Nat), v = .slice A ms.length c ∧ (ms = [] ∨ ∃ g, A = some ⟨g, 0, none⟩ ∧ (lo ≤ g ∧ g < w.heap.size) ∧ ∀ j i, j < ms.length → i < 24 → w.cell? ⟨g, j * 24 + i, none⟩ = some (.int .i64 ((ms.getD j []).getD i 0)))
theorem IsMs.kept {w w' : World} {lo : Nat} {v : Value} {ms : List (List Int)} (h : IsMs w lo v ms) (hb : Below w.heap.size w w') : IsMs w' lo v ms := by
  obtain ⟨A, c, hv, h | ⟨g, hA, hg, hc⟩⟩ := h
  · exact ⟨A, c, hv, .inl h⟩
  · exact ⟨A, c, hv, .inr ⟨g, hA, ⟨hg.1, Nat.lt_of_lt_of_le hg.2 hb.size⟩, fun j i hj hi => (hb.cell (p := ⟨g, j * 24 + i, none⟩) hg.2).trans (hc j i hj hi)⟩⟩
theorem IsMs.lower {w : World} {lo B : Nat} {v : Value} {ms : List (List Int)} (h : IsMs w lo v ms) (hB : B ≤ lo) : IsMs w B v ms := by
  obtain ⟨A, c, hv, h | ⟨g, hA, hg, hc⟩⟩ := h
  · exact ⟨A, c, hv, .inl h⟩
  · exact ⟨A, c, hv, .inr ⟨g, hA, ⟨by omega, hg.2⟩, hc⟩⟩
theorem IsMs.far {w : World} {lo : Nat} {v : Value} {ms : List (List Int)} (h : IsMs w lo v ms) (p : Addr) (u : Value) (hp : p.block < lo) : IsMs (w.setCell p u) lo v ms := by
  obtain ⟨A, c, hv, h | ⟨g, hA, hg, hc⟩⟩ := h
  · exact ⟨A, c, hv, .inl h⟩
  · exact ⟨A, c, hv, .inr ⟨g, hA, ⟨hg.1, by simpa using hg.2⟩, fun j i hj hi => (World.cell?_of_block (a := ⟨g, j * 24 + i, none⟩) (Below.heap_setCell w p u g (by omega))).trans (hc j i hj hi)⟩⟩
theorem isMs_of_own {w : World} {B e g c n : Nat} {ms : List (List Int)} (h : w.ownsRow B e 24 (.slice (some ⟨g, 0, none⟩) n c) n (iv (flK ms n))) (hw : wide ms) (hn : ms.length = n) : IsMs w B (.slice (some ⟨g, 0, none⟩) n c) ms := by
  refine ⟨_, c, by rw [hn], .inr ⟨g, rfl, h.lt g rfl, fun j i hj hi => ?_⟩⟩
  have hf := flat_get ms hw j i hj hi
  have hl := flat_len ms hw
  have hlt : j * 24 + i < (flK ms n).length := by rw [flK_len ms n hw (by omega)]; omega
  rw [h.cellAt (j * 24 + i) (by rw [flK_len ms n hw (by omega)] at hlt; omega), iv_get _ _ hlt]
  have e : (flK ms n)[j * 24 + i]? = some ((ms.getD j []).getD i 0) := by
    unfold flK
    rw [List.getElem?_append_left (by rw [hl]; omega)]
    exact hf
  rw [List.getElem?_eq_getElem hlt] at e
  injection e with e
  rw [e]
/-- a map of a row of one's own, as a range -/
theorem range_of_own {w : World} {B e g c n : Nat} {ms : List (List Int)} (h : w.ownsRow B e 24 (.slice (some ⟨g, 0, none⟩) n c) n (iv (flK ms n))) (hw : wide ms) (hn : ms.length ≤ n) (j : Nat) (hj : j < ms.length) : w.rangeAt g (j * 24) (iv (ms.getD j [])) := by
  intro i v hv
  have hrow : (ms.getD j []).length = 24 := by rw [List.getD_eq_getElem?_getD, List.getElem?_eq_getElem hj]; exact hw _ (List.getElem_mem hj)
  have hi : i < 24 := by have := (List.getElem?_eq_some_iff.1 hv).1; rw [iv_len, hrow] at this; exact this
  rw [iv_get _ i (by omega)] at hv
  injection hv with hv
  subst hv
  have hf := flat_get ms hw j i hj hi
  have hl := flat_len ms hw
  have hlt : j * 24 + i < (flK ms n).length := by rw [flK_len ms n hw hn]; omega
  rw [h.cellAt (j * 24 + i) (by rw [flK_len ms n hw hn] at hlt; omega), iv_get _ _ hlt]
  have e : (flK ms n)[j * 24 + i]? = some ((ms.getD j []).getD i 0) := by
    unfold flK
    rw [List.getElem?_append_left (by rw [hl]; omega)]
    exact hf
  rw [List.getElem?_eq_getElem hlt] at e
  injection e with e
  rw [e, List.getD_eq_getElem?_getD, List.getElem?_eq_getElem (by omega)]
  rfl
theorem there_of_own {w : World} {B e g c n : Nat} {ms : List (List Int)} (h : w.ownsRow B e 24 (.slice (some ⟨g, 0, none⟩) n c) n (iv (flK ms n))) (hw : wide ms) (hn : ms.length < n) : w.there g (ms.length * 24) 24 := by
  intro i hi
  have hlt : ms.length * 24 + i < (flK ms n).length := by rw [flK_len ms n hw (by omega)]; omega
  refine ⟨?_, h.frozenAt _⟩
  rw [h.cellAt _ (by rw [flK_len ms n hw (by omega)] at hlt; omega), iv_get _ _ hlt]
  rfl
end Go.Proofs.Ytddjcgaejjldbaa
