/-
  The runs of a word, as numbers. Nothing of the program.
-/
import Derived.Test.YtlgpleeanmeenaaRuTo
import Derived.Test.YtlgpleeanmeenaaMath
namespace Go.Proofs.Ytlgpleeanmeenaa
open Go.RowKit
set_option linter.unusedVariables false
namespace Wd
def oneB (c : UInt8) : ByteArray := ⟨#[c]⟩
/-- the last count one more -/
def incL (rs : List Ru) : List Ru := match rs[rs.length - 1]? with
  | some x => rs.set (rs.length - 1) ⟨x.L, x.l + 1⟩
  | none => rs
/-- the runs of the first k letters -/
def rsK (l : List UInt8) : Nat → List Ru
  | 0 => []
  | k + 1 => if 0 < k ∧ l.getD k 0 = l.getD (k - 1) 0 then incL (rsK l k) else rsK l k ++ [⟨oneB (l.getD k 0), 1⟩]
theorem incL_len (rs : List Ru) : (incL rs).length = rs.length := by
  unfold incL
  split
  · simp
  · rfl
theorem incL_at {rs : List Ru} (h : 0 < rs.length) : incL rs = rs.set (rs.length - 1) ⟨(rs[rs.length - 1]'(by omega)).L, (rs[rs.length - 1]'(by omega)).l + 1⟩ := by
  unfold incL
  rw [List.getElem?_eq_getElem (by omega)]
theorem incL_snoc (rs : List Ru) (x : Ru) : incL (rs ++ [x]) = rs ++ [⟨x.L, x.l + 1⟩] := by
  unfold incL
  have : (rs ++ [x]).length - 1 = rs.length := by simp
  rw [this]
  simp
theorem rsK_len (l : List UInt8) : ∀ k, (rsK l k).length ≤ k
  | 0 => by simp [rsK]
  | k + 1 => by
    have := rsK_len l k
    unfold rsK
    split
    · rw [incL_len]; omega
    · simp; omega
theorem rsK_pos (l : List UInt8) : ∀ k, 0 < k → 0 < (rsK l k).length
  | 0, h => by omega
  | k + 1, _ => by
    unfold rsK
    split
    · next h => rw [incL_len]; exact rsK_pos l k h.1
    · simp
theorem rsK_cnt (l : List UInt8) : ∀ k, ∀ x ∈ rsK l k, 1 ≤ x.l ∧ x.l ≤ k
  | 0, x, h => by simp [rsK] at h
  | k + 1, x, h => by
    have ih := rsK_cnt l k
    unfold rsK at h
    split at h
    · unfold incL at h
      split at h
      · next y hy =>
        rcases List.mem_or_eq_of_mem_set h with h | rfl
        · have := ih x h; omega
        · have := ih y (List.mem_of_getElem? hy)
          simp only
          omega
      · have := ih x h; omega
    · rcases List.mem_append.1 h with h | h
      · have := ih x h; omega
      · simp at h
        subst h
        simp only
        omega
theorem uv_set1 (gs : List Ru) (k : Nat) (h : k < gs.length) (y : Int) : (uv gs).set (k * 2 + 1) (.int .i64 y) = uv (gs.set k ⟨gs[k].L, y⟩) := by
  have h1 := uv_set gs k ⟨gs[k].L, y⟩ h
  simp only at h1
  rw [← h1]
  congr 1
  have h2 := uv_get gs k h 0 (by omega)
  apply List.ext_getElem?
  intro i
  rw [List.getElem?_set]
  split
  · next e =>
    subst e
    have hl : k * 2 < (uv gs).length := by rw [uv_len]; omega
    rw [if_pos hl]
    rw [Nat.add_zero] at h2
    rw [h2]
    rfl
  · rfl
/-- the run of a part -/
def runP (l : List UInt8) (p : Nat × Nat) : Ru := ⟨oneB (l.getD p.1 0), ((p.2 - p.1 : Nat) : Int)⟩
/-- between two places: the parts cut off, and where the next one begins -/
def GInv (l : List UInt8) (e s : Nat) (G : List (Nat × Nat)) : Prop :=
  s < e ∧ e ≤ l.length ∧ (∀ j, s ≤ j → j < e → l.getD j 0 = l.getD s 0) ∧ rsK l e = G.map (runP l) ++ [runP l (s, e)] ∧ (∀ p ∈ G, p.1 < p.2 ∧ p.2 ≤ l.length) ∧ G.length ≤ s
theorem GInv.start {l : List UInt8} (h : 0 < l.length) : GInv l 1 0 [] := by
  refine ⟨by omega, by omega, fun j h1 h2 => ?_, ?_, by simp, by simp⟩
  · obtain rfl : j = 0 := by omega
    rfl
  · simp [rsK, runP]
theorem GInv.same {l : List UInt8} {e s : Nat} {G : List (Nat × Nat)} (h : GInv l e s G) (he : e < l.length) (hq : l.getD e 0 = l.getD s 0) : GInv l (e + 1) s G := by
  obtain ⟨h1, h2, h3, h4, h5, h6⟩ := h
  refine ⟨by omega, by omega, fun j a b => ?_, ?_, h5, h6⟩
  · by_cases hj : j = e
    · subst hj; exact hq
    · exact h3 j a (by omega)
  · have hp : l.getD e 0 = l.getD (e - 1) 0 := by rw [hq, h3 (e - 1) (by omega) (by omega)]
    show (if 0 < e ∧ l.getD e 0 = l.getD (e - 1) 0 then incL (rsK l e) else _) = _
    rw [if_pos ⟨by omega, hp⟩, h4, incL_snoc]
    congr 2
    unfold runP
    simp only
    congr 1
    omega
theorem GInv.cut {l : List UInt8} {e s : Nat} {G : List (Nat × Nat)} (h : GInv l e s G) (he : e < l.length) (hq : l.getD e 0 ≠ l.getD s 0) : GInv l (e + 1) e (G ++ [(s, e)]) := by
  obtain ⟨h1, h2, h3, h4, h5, h6⟩ := h
  refine ⟨by omega, by omega, fun j a b => ?_, ?_, fun p hp => ?_, ?_⟩
  · obtain rfl : j = e := by omega
    rfl
  · have hp : ¬ l.getD e 0 = l.getD (e - 1) 0 := by rw [h3 (e - 1) (by omega) (by omega)]; exact hq
    show (if 0 < e ∧ l.getD e 0 = l.getD (e - 1) 0 then _ else rsK l e ++ [⟨oneB (l.getD e 0), 1⟩]) = _
    rw [if_neg (fun hh => hp hh.2), h4]
    simp [runP]
  · rcases List.mem_append.1 hp with hp | hp
    · exact h5 p hp
    · simp at hp
      subst hp
      exact ⟨h1, h2⟩
  · rw [List.length_append]
    simp
    omega
theorem GInv.last {l : List UInt8} {s : Nat} {G : List (Nat × Nat)} (h : GInv l l.length s G) : rsK l l.length = (G ++ [(s, l.length)]).map (runP l) ∧ (∀ p ∈ G ++ [(s, l.length)], p.1 < p.2 ∧ p.2 ≤ l.length) ∧ (G ++ [(s, l.length)]).length ≤ l.length := by
  obtain ⟨h1, h2, h3, h4, h5, h6⟩ := h
  refine ⟨by rw [h4]; simp, fun p hp => ?_, by rw [List.length_append]; simp; omega⟩
  rcases List.mem_append.1 hp with hp | hp
  · exact h5 p hp
  · simp at hp
    subst hp
    exact ⟨h1, h2⟩
/-- the answer -/
def rsA (s : ByteArray) : List Ru × Int := if okL s.data.toList = true then (rsK s.data.toList s.size, 0) else ([], 1)
theorem rsA_len (s : ByteArray) : (rsA s).1.length ≤ 1000000 := by
  unfold rsA
  split
  · next h =>
    have h1 := rsK_len s.data.toList s.size
    have h2 : s.size ≤ 2000 := by
      rcases Nat.lt_or_ge 2000 s.size with h' | h'
      · rw [okL_long (by simpa using h')] at h; cases h
      · exact h'
    simp only
    omega
  · simp
end Wd
open Wd
theorem news2 (w : World) (x : Ru) (t : TypeId) : ∀ j u, (uc x)[j]? = some u → (w.alloc (.cells #[.string x.L, .int .i64 x.l] t)).cell? ((⟨w.heap.size, 0, none⟩ : Addr).add j) = some u := by
  intro j u hu
  match j, hu with
  | 0, hu => simp [uc] at hu; subst hu; simp [Addr.add]
  | 1, hu => simp [uc] at hu; subst hu; simp [Addr.add]
theorem uc_cell (x : Ru) : ∀ u ∈ uc x, u.oneCell' = true := by
  intro u hu
  simp only [uc, List.mem_cons, List.not_mem_nil, or_false] at hu
  rcases hu with rfl | rfl <;> rfl
end Go.Proofs.Ytlgpleeanmeenaa
