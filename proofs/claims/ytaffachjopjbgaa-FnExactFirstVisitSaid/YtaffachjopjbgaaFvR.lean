/-
  The table of visits while it is written, cell by cell. Nothing of the program.
-/
import Derived.Test.YtaffachjopjbgaaFvM
import Derived.Test.YtaffachjopjbgaaWalkO
namespace Go.Proofs.Ytaffachjopjbgaa
open Go.RowKit
open Wd
set_option linter.unusedVariables false
theorem visR_len (wa : Int → Bool) (ms vs : List (List Int)) (x : Rl) (m : List Int) : (visR wa ms vs x m).length = 24 := by simp [visR]
theorem visK_wide (wa : Int → Bool) (nx : List (List Int)) (gs : List Rl) : ∀ k, wide (visK wa nx gs k)
  | 0 => by intro r hr; cases hr
  | k + 1 => by
    intro r hr
    rw [visK] at hr
    rcases List.mem_append.1 hr with hr | hr
    · exact visK_wide wa nx gs k r hr
    · rw [List.mem_singleton] at hr
      rw [hr, visR_len]
/-- a row of which the first s cells are written -/
def rowS (row : List Int) (s : Nat) : List Int := row.take s ++ List.replicate (24 - s) 0
theorem rowS_len {row : List Int} {s : Nat} (h : row.length = 24) (hs : s ≤ 24) : (rowS row s).length = 24 := by
  unfold rowS; rw [List.length_append, List.length_take, List.length_replicate, h]; omega
theorem rowS_all {row : List Int} (h : row.length = 24) : rowS row 24 = row := by
  unfold rowS; rw [List.take_of_length_le (by omega)]; simp
theorem rowS_set {row : List Int} {s : Nat} (h : row.length = 24) (hs : s < 24) : (rowS row s).set s (row[s]'(by omega)) = rowS row (s + 1) := by
  unfold rowS
  apply List.ext_getElem?
  intro i
  rw [List.getElem?_set]
  have hl : (row.take s).length = s := by rw [List.length_take]; omega
  have hl2 : (row.take (s + 1)).length = s + 1 := by rw [List.length_take]; omega
  by_cases hi : s = i
  · subst hi
    rw [if_pos rfl, if_pos (by rw [List.length_append, hl, List.length_replicate]; omega), List.getElem?_append_left (by omega), List.getElem?_take, if_pos (by omega), List.getElem?_eq_getElem]
  · rw [if_neg hi]
    by_cases hlt : i < s
    · rw [List.getElem?_append_left (by omega), List.getElem?_append_left (by omega), List.getElem?_take, List.getElem?_take, if_pos hlt, if_pos (by omega)]
    · rw [List.getElem?_append_right (by omega), List.getElem?_append_right (by omega), hl, hl2, List.getElem?_replicate, List.getElem?_replicate]
      by_cases h24 : i < 24
      · rw [if_pos (by omega), if_pos (by omega)]
      · rw [if_neg (by omega), if_neg (by omega)]
/-- the whole table, flat: the rows before, the row under way, zeros -/
def flS (ms : List (List Int)) (row : List Int) (s n : Nat) : List Int := flK (ms ++ [rowS row s]) n
theorem flS_zero {ms : List (List Int)} {row : List Int} {n : Nat} (hn : ms.length < n) : flS ms row 0 n = flK ms n := by
  unfold flS flK rowS
  have e : (n - ms.length) * 24 = 24 + (n - (ms.length + 1)) * 24 := by omega
  rw [List.flatten_append, List.length_append]
  simp only [List.take_zero, List.nil_append, List.flatten_cons, List.flatten_nil, List.append_nil, List.length_cons, List.length_nil, Nat.sub_zero, Nat.zero_add]
  rw [e, ← List.replicate_append_replicate, List.append_assoc]
theorem flS_all {ms : List (List Int)} {row : List Int} {n : Nat} (hr : row.length = 24) : flS ms row 24 n = flK (ms ++ [row]) n := by
  unfold flS; rw [rowS_all hr]
theorem flS_set {ms : List (List Int)} {row : List Int} {s n : Nat} (hw : wide ms) (hr : row.length = 24) (hs : s < 24) : (flS ms row s n).set (ms.length * 24 + s) (row[s]'(by omega)) = flS ms row (s + 1) n := by
  unfold flS flK
  rw [List.flatten_append, List.flatten_append]
  simp only [List.flatten_cons, List.flatten_nil, List.append_nil, List.length_append, List.length_cons, List.length_nil]
  have hl := flat_len ms hw
  rw [List.append_assoc, List.append_assoc, List.set_append_right _ _ (by omega), hl, Nat.add_sub_cancel_left, List.set_append_left _ _ (by rw [rowS_len hr (by omega)]; exact hs), rowS_set hr hs]
/-- a cell of an earlier row -/
theorem flS_get {ms : List (List Int)} {row : List Int} {s n j i : Nat} (hw : wide ms) (hj : j < ms.length) (hi : i < 24) : (flS ms row s n)[j * 24 + i]? = some (at2 ms j i) := by
  have hl := flat_len ms hw
  unfold flS flK
  rw [List.flatten_append, List.append_assoc, List.getElem?_append_left (by omega)]
  exact flat_get ms hw j i hj hi
theorem flS_len {ms : List (List Int)} {row : List Int} {s n : Nat} (hw : wide ms) (hr : row.length = 24) (hs : s ≤ 24) (hn : ms.length < n) : (flS ms row s n).length = n * 24 := by
  unfold flS
  refine flK_len _ n (fun r hr2 => ?_) (by rw [List.length_append]; simp; omega)
  rcases List.mem_append.1 hr2 with h | h
  · exact hw r h
  · rw [List.mem_singleton] at h; rw [h, rowS_len hr hs]
theorem take_set_drop {α : Type} (l : List α) (o : Nat) (v : α) (h : o < l.length) : l.take o ++ [v] ++ l.drop (o + 1) = l.set o v := by
  rw [List.set_eq_take_append_cons_drop, if_pos h, List.append_assoc]
  rfl
theorem iv_set (l : List Int) (o : Nat) (z : Int) : (iv l).set o (.int .i64 z) = iv (l.set o z) := by unfold iv; rw [List.map_set]
/-- the row while one more cell is written -/
theorem flS_store {w : World} {M n e s : Nat} {ms : List (List Int)} {row : List Int} (h : w.ownsRow M e 24 (.slice (some ⟨M, 0, none⟩) n n) n (iv (flS ms row s n))) (hw : wide ms) (hr : row.length = 24) (hs : s < 24) (hn : ms.length < n) :
    (w.setCell ⟨M, ms.length * 24 + s, none⟩ (.int .i64 (row[s]'(by omega)))).ownsRow M e 24 (.slice (some ⟨M, 0, none⟩) n n) n (iv (flS ms row (s + 1) n)) := by
  have hl := flS_len (s := s) (n := n) hw hr (by omega) hn
  have h1 := own_setCells [.int .i64 (row[s]'(by omega))] (ms.length * 24 + s) w _ h (by rw [iv_len, hl]; simp; omega)
  simp only [List.length_cons, List.length_nil, Nat.zero_add] at h1
  rw [take_set_drop _ _ _ (by rw [iv_len, hl]; omega), iv_set, flS_set hw hr hs] at h1
  exact h1
end Go.Proofs.Ytaffachjopjbgaa
