/-
  Walk: impl.FactorCount alone.
-/
import Derived.Test.YtdfdeppfhadopaaBase
import Derived.Deep.QuietTactic
import Derived.Maps.Own
import Derived.Maps.OwnSet
import Derived.Maps.Views
import Derived.StringKeys
namespace Go.Proofs.Ytdfdeppfhadopaa
open Go.RowKit Go.Maps
open Wd
set_option linter.unusedVariables false

namespace Wd
/-- the factor of L letters from i on -/
def fac (s : ByteArray) (L i : Nat) : List UInt8 := (s.extract i (i + L)).toList
/-- it is none of those ahead of it, as far as k -/
def newTo (s : ByteArray) (L i k : Nat) : Bool := (List.range k).all fun j => fac s L j != fac s L i
/-- how many of the first k factors are new -/
def cnt (s : ByteArray) (L : Nat) : Nat → Nat
  | 0 => 0
  | k + 1 => cnt s L k + (if newTo s L k k = true then 1 else 0)
theorem cnt_le (s : ByteArray) (L : Nat) : ∀ k, cnt s L k ≤ k
  | 0 => Nat.le_refl _
  | k + 1 => by have := cnt_le s L k; unfold cnt; split <;> omega
theorem newTo_succ (s : ByteArray) (L i k : Nat) : newTo s L i (k + 1) = (newTo s L i k && (fac s L k != fac s L i)) := by
  simp [newTo, List.range_succ, List.all_append]
theorem newTo_false {s : ByteArray} {L i k : Nat} (h : newTo s L i k = false) (hk : k ≤ i) : newTo s L i i = false := by
  unfold newTo at h ⊢
  rw [List.all_eq_false] at h ⊢
  obtain ⟨j, h1, h2⟩ := h
  exact ⟨j, by rw [List.mem_range] at h1 ⊢; omega, h2⟩
theorem newTo_iff {s : ByteArray} {L i : Nat} : newTo s L i i = true ↔ ∀ j, j < i → fac s L j ≠ fac s L i := by
  unfold newTo
  rw [List.all_eq_true]
  constructor
  · intro h j hj
    have := h j (List.mem_range.2 hj)
    simpa using this
  · intro h j hj
    simpa using h j (List.mem_range.1 hj)
end Wd

theorem ret_ii {k k' : IntKind} {a b c d : Int} (h : a = b) (h' : c = d) : Ending.returned (.tuple #[.int k a, .int k' c]) = .returned (.tuple #[.int k b, .int k' d]) := by rw [h, h']

theorem keyedStr : Keyed Try.prog 9 := string_keyed Try.underlying9

theorem ext_take (s : ByteArray) (k L : Nat) : (s.extract k (k + L)).data.toList = List.take L (List.drop k s.data.toList) := by
  rw [ByteArray.data_extract, Array.toList_extract, List.extract_eq_take_drop, Nat.add_sub_cancel_left]
/-- the keys that the loop has laid -/
def FacAt (s : ByteArray) (L k : Nat) (D : DataW Unit) : Prop := Tidy D ∧ Maps.size D = cnt s L k ∧ ∀ l, Maps.has D (.string l) = true ↔ ∃ j, j < k ∧ fac s L j = l
theorem FacAt.start (s : ByteArray) (L : Nat) : FacAt s L 0 (.map []) := by
  refine ⟨tidy_empty, rfl, fun l => ⟨(fun h => by cases h), ?_⟩⟩
  rintro ⟨j, h, _⟩
  omega
theorem FacAt.put {s : ByteArray} {L k : Nat} {D : DataW Unit} (h : FacAt s L k D) : FacAt s L (k + 1) (D.put (.string (s.extract k (k + L)).data.toList) (.lit (.bool true))) := by
  have hkl : WideAt.IsKeyLit (.string (s.extract k (k + L)).data.toList) := trivial
  have hfk : fac s L k = (s.extract k (k + L)).data.toList := by unfold fac; rw [ByteArray.toList_eq]
  refine ⟨h.1.put hkl _, ?_, fun l => ?_⟩
  · rw [size_put h.1, h.2.1, cnt]
    cases hn : newTo s L k k
    · have : Maps.has D (.string (s.extract k (k + L)).data.toList) = true := by
        rw [h.2.2]
        by_cases hex : ∃ j, j < k ∧ fac s L j = (s.extract k (k + L)).data.toList
        · exact hex
        · exfalso
          rw [newTo_iff.2 (fun j hj he => hex ⟨j, hj, by rw [he, hfk]⟩)] at hn
          cases hn
      rw [if_pos this]; simp
    · have : ¬ Maps.has D (.string (s.extract k (k + L)).data.toList) = true := by
        rw [h.2.2]
        rintro ⟨j, hj, he⟩
        exact newTo_iff.1 hn j hj (by rw [he, hfk])
      rw [if_neg this]; simp
  · by_cases hl : l = (s.extract k (k + L)).data.toList
    · subst hl
      rw [has_put_same h.1.isMap hkl]
      exact ⟨fun _ => ⟨k, by omega, hfk⟩, fun _ => rfl⟩
    · rw [has_put_other (by intro e; injection e with e; exact hl e), h.2.2]
      constructor
      · rintro ⟨j, hj, he⟩; exact ⟨j, by omega, he⟩
      · rintro ⟨j, hj, he⟩
        refine ⟨j, ?_, he⟩
        by_cases hjk : j = k
        · subst hjk; exact absurd (by rw [← he, hfk]) hl
        · omega

set_option maxRecDepth 100000 in
set_option maxHeartbeats 3200000 in
theorem implFactor_ok (s : ByteArray) (L : Nat) (w : World) (hs : s.size ≤ 2000) (h : okL s.data.toList = true) (hL : L ≤ s.size) :
    Calls Try.prog 11 #[.string s, .int .i64 L] w fun e w' => e = .returned (.tuple #[.int .i64 (cnt s L (s.size - L + 1)), .int .i64 0]) ∧ Below w.heap.size w w' := by
  have c1 := implOk s w (by unfold maxLen; omega)
  rw [h] at c1
  have C1 := Lib.hid c1
  have l0 : decide ((L : Int) < 0) = false := by simp
  have l1 : ¬ (s.size : Int) < (L : Int) := by omega
  have l2 : decide (s.size < L) = false := by simp; omega
  have hmm := @run_makeMap Try.prog
  clear c1 h
  go_enter Try.func11, Try.ntmps11
  go_wp2_with (go_at_call 20; refine C1.out.mono ?_; rintro e w' ⟨rfl, rfl⟩)
  go_loopw [7] (fun x wr => ∃ (k n : Nat) (D : DataW Unit), x = .int .i64 ((k : Int) + (L : Int)) ∧ k ≤ s.size - L + 1 ∧ n ≤ k ∧ wr.ownsMap Try.prog 9 (plainElem Try.prog 4) w.heap.size n D ∧ FacAt s L k D ∧ Below w.heap.size w wr) (fun x _ => s.size + 1 - (intOf x).toNat)
  case atStart => exact ⟨0, 0, .map [], by simp, Nat.zero_le _, Nat.le_refl _, World.ownsMap_made _ _ _ _, FacAt.start s L, (Below.refl _ _).alloc (Nat.le_refl _) _⟩
  case round =>
    obtain ⟨k, n, D, rfl, hk, hnk, hmp, hF, hB⟩ := hrel
    have HF := Lib.hid hF
    clear hF
    by_cases hlt : k + L ≤ s.size
    · have hk1 : (k : Int) + (L : Int) ≤ (s.size : Int) := by omega
      have hsz : (s.extract k (k + L)).size ≤ maxLen := by rw [ByteArray.size_extract]; unfold maxLen; omega
      have hkey := WideMaps.keyOf_string_mk (P := Try.prog) (k := 9) Try.underlying9 hsz
      have HK := Lib.hid hkey
      clear hsz hkey
      go_wp2_with (first | (at_mapUpdate; refine wpList_mapUpdate_own _ rfl _ _ _ 44 rfl 9 4 keyedStr Try.underlying44 _ w.heap.size n D rfl hmp (by unfold maxLen; omega) _ _ _ rfl rfl HK.out (.lit (.bool true)) [] (plainElem_bool Try.underlying4 true) ?_))
      intro w2 hmp2 hgr2
      have hB2 : Below w.heap.size w w2 := hB.grown hgr2 hB.size (fun q hq => by cases hq; exact Nat.le_refl _)
      have hput := HF.out.put
      rw [ext_take] at hput
      have HP := Lib.hid hput
      clear hput
      clear hgr2 hB hmp
      go_wp2
      go_roundw
      case rel => exact ⟨k + 1, n + 1, _, by go_num, by omega, by omega, hmp2, HP.out, hB2⟩
      case measure => simp [intOf]; omega
    · have hkk : k = s.size - L + 1 := by omega
      have hfin : (Maps.size D : Int) = (cnt s L (s.size - L + 1) : Nat) := by rw [HF.out.2.1, hkk]
      have HFN := Lib.hid hfin
      clear hkk hfin
      go_wp2_with (first | (at_len; refine wpList_len_own _ rfl (.tmp 34) 44 rfl 9 4 Try.underlying44 _ w.heap.size n D rfl hmp ?_))
      go_wp2
      go_ret2
      exact ⟨ret_ii HFN.out rfl, hB⟩
end Go.Proofs.Ytdfdeppfhadopaa
