/-
  Walks: impl.editForms, impl.isMap, the closure in impl.ValidEdit.
-/
import Derived.Test.YtcaeihdfljljbaaDoorEdB
import Derived.Deep.WholeRow
import Derived.Deep.Cut
import Derived.Deep.MidRow
namespace Go.Proofs.YtcaeihdfljljbaaDoor
open Go.RowKit
open Wd
set_option linter.unusedVariables false
namespace Wd
/-- the words of kinds -/
def edW (k : Int) : ByteArray := if k = 1 then ⟨#[105, 110, 115, 101, 114, 116]⟩ else if k = 2 then ⟨#[100, 101, 108, 101, 116, 101]⟩ else if k = 3 then ⟨#[99, 111, 112, 121]⟩ else if k = 4 then ⟨#[109, 111, 118, 101]⟩ else if k = 5 then ⟨#[116, 117, 114, 110]⟩ else if k = 6 then ⟨#[114, 101, 112, 101, 97, 116]⟩ else if k = 7 then ⟨#[109, 97, 112]⟩ else ⟨#[]⟩
/-- all forms, in one array -/
def edFc : Array Value := #[.string ⟨#[]⟩, .bool false, .bool false, .bool false, .bool false, .string ⟨#[105, 110, 115, 101, 114, 116]⟩, .bool false, .bool false, .bool true, .bool false, .string ⟨#[100, 101, 108, 101, 116, 101]⟩, .bool true, .bool false, .bool false, .bool false, .string ⟨#[99, 111, 112, 121]⟩, .bool true, .bool true, .bool false, .bool false, .string ⟨#[109, 111, 118, 101]⟩, .bool true, .bool true, .bool false, .bool false, .string ⟨#[116, 117, 114, 110]⟩, .bool true, .bool false, .bool false, .bool false, .string ⟨#[114, 101, 112, 101, 97, 116]⟩, .bool true, .bool true, .bool false, .bool false, .string ⟨#[109, 97, 112]⟩, .bool true, .bool false, .bool false, .bool true]
/-- the array before -/
def edZc : Array Value := #[.string ⟨#[]⟩, .bool false, .bool false, .bool false, .bool false, .string ⟨#[]⟩, .bool false, .bool false, .bool false, .bool false, .string ⟨#[]⟩, .bool false, .bool false, .bool false, .bool false, .string ⟨#[]⟩, .bool false, .bool false, .bool false, .bool false, .string ⟨#[]⟩, .bool false, .bool false, .bool false, .bool false, .string ⟨#[]⟩, .bool false, .bool false, .bool false, .bool false, .string ⟨#[]⟩, .bool false, .bool false, .bool false, .bool false, .string ⟨#[]⟩, .bool false, .bool false, .bool false, .bool false]
/-- the form of a kind -/
def edFv (k : Int) : Value := .agg #[.string (edW k), .bool (hasJ k), .bool (hasK k), .bool (hasP k), .bool (hasM k)]
end Wd
theorem index_form (k : Int) (h : 1 ≤ k ∧ k ≤ 7) (w : World) : (Instr.index 100 (.agg edFc) (.int .i64 k)).run Tryd.prog w = .ok (edFv k) w := by
  obtain rfl | rfl | rfl | rfl | rfl | rfl | rfl : k = 1 ∨ k = 2 ∨ k = 3 ∨ k = 4 ∨ k = 5 ∨ k = 6 ∨ k = 7 := by omega
  all_goals kernel_rfl
theorem und_forms : Tryd.prog.underlying 100 = some (.array 8 99) := by kernel_rfl
theorem size_forms : (Tryd.prog.info? 100).map (·.size) = some edFc.size := by kernel_rfl
set_option maxRecDepth 100000 in
set_option maxHeartbeats 1600000 in
theorem editForms_any (w : World) :
    Calls Tryd.prog 51 #[] w fun e w' => e = .returned (.agg edFc) ∧ Below w.heap.size w w' := by
  have hR := heap_alloc_new w (.cells edZc 100)
  have hB := (Below.refl _ w).alloc (Nat.le_refl _) (.cells edZc 100)
  have hs : (Tryd.prog.info? 100).map (·.size) = some edFc.size := size_forms
  have hz : edZc.size = edFc.size := rfl
  have h1 : edFc.all (·.oneCell') = true := by kernel_rfl
  go_enter Tryd.func51, Tryd.ntmps51
  go_upto_region 1 with fail
  change Code.wp _ _ _ _ (w.alloc (.cells edZc 100))
  generalize w.alloc (.cells edZc 100) = w1 at *
  have HR9 : Hid ((w1.setRow w.heap.size edFc).heap[w.heap.size]? = some (.cells edFc 100 (0, 0))) := Lib.hid (setRow_heap w1 w.heap.size _ _ _ _ hR)
  have HB9 : Hid (Below w.heap.size w (w1.setRow w.heap.size edFc)) := Lib.hid (bSetRow hB (Nat.le_refl _) _)
  have HH := Lib.hid (And.intro hR (And.intro hs (And.intro hz h1)))
  clear hR hB hs hz h1
  go_wp2_with (refine wpList_store_row rfl 100 _ _ rfl w.heap.size edFc rfl rfl 100 _ HH.out.1 HH.out.2.1 HH.out.2.2.1 HH.out.2.2.2 ?_)
  exact bodyPost_ret (v := .agg edFc) (results_cell_row rfl _ _ w.heap.size 100 _ (0, 0) _ rfl HR9.out und_forms rfl size_forms) rfl ⟨rfl, HB9.out⟩
theorem fits_any (n : Int) (told : Bool) (w : World) :
    Calls Tryd.prog 80 #[.int .i64 n, .bool told] w fun e w' => e = .returned (.bool (numOk n told)) ∧ w' = w := by
  unfold numOk
  cases told
  · rw [if_neg (by decide)]
    by_cases h : n = 0
    · have h' : (n == 0) = true := by simp [h]
      rw [decide_eq_true h]
      go_enter Tryd.func80, Tryd.ntmps80
      go_wp2
      go_ret
      exact ⟨by first | rfl | simp [h], rfl⟩
    · have h' : (n == 0) = false := by simp [h]
      rw [decide_eq_false h]
      go_enter Tryd.func80, Tryd.ntmps80
      go_wp2
      go_ret
      exact ⟨by first | rfl | simp [h], rfl⟩
  · rw [if_pos rfl]
    by_cases h : n = 0
    · have h' : (n == 0) = true := by simp [h]
      rw [decide_eq_true (by omega)]
      go_enter Tryd.func80, Tryd.ntmps80
      go_wp2
      go_ret
      exact ⟨by first | rfl | simp [h], rfl⟩
    · have h' : (n == 0) = false := by simp [h]
      by_cases h0 : 0 < n
      · have h0' : decide (0 < n) = true := by simp [h0]
        have hd : decide (0 ≤ n ∧ n ≤ 1000000000000000) = decide (n ≤ 1000000000000000) := by
          by_cases h2 : n ≤ 1000000000000000 <;> simp [h2] <;> omega
        rw [hd]
        go_enter Tryd.func80, Tryd.ntmps80
        go_wp2
        go_ret
        exact ⟨rfl, rfl⟩
      · have h0' : decide (0 < n) = false := by simp; omega
        rw [decide_eq_false (by omega)]
        go_enter Tryd.func80, Tryd.ntmps80
        go_wp2
        go_ret
        exact ⟨rfl, rfl⟩
theorem isMap_any (m : ByteArray) (w : World) (hm : m.size ≤ maxLen) :
    Calls Tryd.prog 82 #[.string m] w fun e w' => e = .returned (.bool (decide (m.size = 4) && okL m.data.toList)) ∧ w' = w := by
  have HO := Lib.hid (fun W => implOk m W hm)
  by_cases h : m.size = 4
  · have h' : ((m.size : Int) == 4) = true := by simp [h]
    rw [decide_eq_true h, Bool.true_and]
    go_enter Tryd.func82, Tryd.ntmps82
    go_wp2_with fail
    refine (HO.out _).mono ?_
    rintro e w1 ⟨rfl, rfl⟩
    go_wp2_with fail
    go_ret
    exact ⟨rfl, rfl⟩
  · have h' : ((m.size : Int) == 4) = false := by simp; omega
    rw [decide_eq_false h, Bool.false_and]
    go_enter Tryd.func82, Tryd.ntmps82
    go_wp2_with fail
    go_ret
    exact ⟨rfl, rfl⟩
end Go.Proofs.YtcaeihdfljljbaaDoor
