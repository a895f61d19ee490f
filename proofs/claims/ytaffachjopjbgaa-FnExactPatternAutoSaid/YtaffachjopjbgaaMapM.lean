/-
  Maps of states as lists.
-/
import Derived.Test.YtaffachjopjbgaaAuOk2
import Derived.Test.YtaffachjopjbgaaOwnK
namespace Go.Proofs.Ytaffachjopjbgaa
open Go.RowKit
open Wd
set_option linter.unusedVariables false
namespace Wd
/-- the map of a letter, 24 wide -/
def stepsRow (nx : List (List Int)) (l : Nat) : List Int := (List.range 24).map fun s => (nx.getD s []).getD l 0
/-- one map behind the other -/
def thenRow (m f : List Int) : List Int := m.map fun q => f.getD q.toNat 0
def rowM (nx : List (List Int)) (ms : List (List Int)) (x : Rl) : List Int := if x.L.size = 0 then thenRow (ms.getD x.l.toNat []) (ms.getD x.r.toNat []) else stepsRow nx (ltNo x)
/-- the maps of the first rules -/
def mapsK (nx : List (List Int)) (gs : List Rl) : Nat → List (List Int)
  | 0 => []
  | k + 1 => mapsK nx gs k ++ [rowM nx (mapsK nx gs k) (gs.getD k ⟨ByteArray.empty, 0, 0⟩)]
/-- a map between so many states -/
def mapOk (st : Int) (m : List Int) : Prop := m.length = 24 ∧ ∀ q ∈ m, 0 ≤ q ∧ q < st
def thenK (m f : List Int) (k : Nat) : List Int := thenRow (m.take k) f ++ m.drop k
end Wd
theorem thenK_len (m f : List Int) (k : Nat) (h : k ≤ m.length) : (thenK m f k).length = m.length := by simp [thenK, thenRow]; omega
theorem thenK_zero (m f : List Int) : thenK m f 0 = m := by simp [thenK, thenRow]
theorem thenK_all (m f : List Int) : thenK m f m.length = thenRow m f := by simp [thenK]
theorem thenK_set (m f : List Int) (k : Nat) (h : k < m.length) : (thenK m f k).set k (f.getD m[k].toNat 0) = thenK m f (k + 1) := by
  unfold thenK
  have h1 : (thenRow (m.take k) f).length = k := by simp [thenRow]; omega
  rw [List.set_append_right _ _ (by omega), h1, Nat.sub_self, List.drop_eq_getElem_cons h, List.set_cons_zero, List.take_succ_eq_append_getElem h]
  unfold thenRow
  rw [List.map_append, List.append_assoc]
  rfl
theorem stepsRow_len (nx : List (List Int)) (l : Nat) : (stepsRow nx l).length = 24 := by simp [stepsRow]
theorem thenRow_len (m f : List Int) : (thenRow m f).length = m.length := by simp [thenRow]
theorem mapsK_len (nx : List (List Int)) (gs : List Rl) : ∀ k, (mapsK nx gs k).length = k
  | 0 => rfl
  | k + 1 => by rw [mapsK, List.length_append, mapsK_len nx gs k]; rfl
theorem mapsK_getD (nx : List (List Int)) (gs : List Rl) (j : Nat) : ∀ k, j < k → (mapsK nx gs k).getD j [] = (mapsK nx gs (j + 1)).getD j []
  | 0, h => by omega
  | k + 1, h => by
    by_cases e : j = k
    · subst e; rfl
    · have hk : j < k := by omega
      rw [← mapsK_getD nx gs j k hk, mapsK, List.getD_eq_getElem?_getD, List.getElem?_append_left (by rw [mapsK_len]; exact hk), ← List.getD_eq_getElem?_getD]
theorem mapsK_last (nx : List (List Int)) (gs : List Rl) (k : Nat) : (mapsK nx gs (k + 1)).getD k [] = rowM nx (mapsK nx gs k) (gs.getD k ⟨ByteArray.empty, 0, 0⟩) := by
  rw [mapsK, List.getD_eq_getElem?_getD, List.getElem?_append_right (by rw [mapsK_len]; exact Nat.le_refl _), mapsK_len]
  simp
theorem stepsRow_ok {nx : List (List Int)} {st : Int} {l : Nat} (h : nx.all (rowOk st) = true) (hl : (nx.length : Int) = st) (h1 : 1 ≤ st) (hl4 : l < 4) : mapOk st (stepsRow nx l) := by
  refine ⟨stepsRow_len nx l, fun q hq => ?_⟩
  unfold stepsRow at hq
  obtain ⟨s, hs, rfl⟩ := List.mem_map.1 hq
  by_cases hsn : s < nx.length
  · rw [List.getD_eq_getElem?_getD (l := nx), List.getElem?_eq_getElem hsn, Option.getD_some]
    have hrow := List.all_eq_true.1 h _ (List.getElem_mem hsn)
    unfold rowOk at hrow
    rw [Bool.and_eq_true, decide_eq_true_iff] at hrow
    have hll : l < nx[s].length := by omega
    rw [List.getD_eq_getElem?_getD, List.getElem?_eq_getElem hll, Option.getD_some]
    have := List.all_eq_true.1 hrow.2 _ (List.getElem_mem hll)
    simpa using this
  · rw [List.getD_eq_getElem?_getD (l := nx), List.getElem?_eq_none (by omega)]
    simp
    omega
theorem thenRow_ok {st : Int} {m f : List Int} (h24 : st ≤ 24) (hm : mapOk st m) (hf : mapOk st f) : mapOk st (thenRow m f) := by
  refine ⟨by rw [thenRow_len]; exact hm.1, fun q hq => ?_⟩
  unfold thenRow at hq
  obtain ⟨s, hs, rfl⟩ := List.mem_map.1 hq
  have h1 := hm.2 s hs
  have h2 : s.toNat < f.length := by rw [hf.1]; omega
  rw [List.getD_eq_getElem?_getD, List.getElem?_eq_getElem h2, Option.getD_some]
  exact hf.2 _ (List.getElem_mem h2)
theorem mapsK_ok {nx : List (List Int)} {st : Int} {gs : List Rl} (h : nx.all (rowOk st) = true) (hl : (nx.length : Int) = st) (h1 : 1 ≤ st) (h24 : st ≤ 24) (hfit : fits gs = true) : ∀ k, k ≤ gs.length → ∀ j, j < k → mapOk st ((mapsK nx gs k).getD j [])
  | 0, _, j, hj => by omega
  | k + 1, hk, j, hj => by
    have ih := mapsK_ok h hl h1 h24 hfit k (by omega)
    by_cases e : j = k
    · subst e
      rw [mapsK_last]
      have hfj := fits_at hfit j (by omega)
      have hg : gs.getD j ⟨ByteArray.empty, 0, 0⟩ = gs[j]'(by omega) := by rw [List.getD_eq_getElem?_getD, List.getElem?_eq_getElem (by omega)]; rfl
      rw [hg]
      unfold rowM
      by_cases hz : (gs[j]'(by omega)).L.size = 0
      · rw [if_pos hz]
        have hp := (ok_pair hz).1 hfj
        exact thenRow_ok h24 (ih _ (by omega)) (ih _ (by omega))
      · rw [if_neg hz]
        obtain ⟨c, _, hc1, hc2, hc3⟩ := letter_byte hz hfj
        exact stepsRow_ok h hl h1 (by omega)
    · rw [mapsK_getD nx gs j (k + 1) hj, ← mapsK_getD nx gs j k (by omega)]
      exact ih j (by omega)
end Go.Proofs.Ytaffachjopjbgaa
