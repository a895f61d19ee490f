/-
  Walks: impl.deedForms, impl.ValidDeed.
-/
import Derived.Test.YtcaeihdfljljbaaDoorDdM
import Derived.Test.YtcaeihdfljljbaaDoorBase
import Derived.Laws.Rows
import Derived.Laws.Tables
import Derived.Deep.MidRow
import Derived.Deep.WholeRow
import Derived.Deep.Cut
import Derived.Deep.RegionHeld3
import Derived.Deep.DeepCutAuto
namespace Go.Proofs.YtcaeihdfljljbaaDoor
open Go.RowKit
open Wd
set_option linter.unusedVariables false
namespace Wd
/-- all forms, in one array -/
def ddFc : Array Value := #[.string ⟨#[]⟩, .int .i64 0, .string ⟨#[112, 117, 116]⟩, .int .i64 2, .string ⟨#[115, 97, 118, 101]⟩, .int .i64 1, .string ⟨#[99, 114, 97, 115, 104]⟩, .int .i64 1, .string ⟨#[111, 102, 102, 101, 114]⟩, .int .i64 3, .string ⟨#[97, 115, 107]⟩, .int .i64 2, .string ⟨#[100, 101, 108, 105, 118, 101, 114]⟩, .int .i64 1, .string ⟨#[99, 111, 112, 121]⟩, .int .i64 1, .string ⟨#[100, 114, 111, 112]⟩, .int .i64 1, .string ⟨#[115, 119, 101, 101, 112]⟩, .int .i64 1]
/-- the array before -/
def ddZc : Array Value := #[.string ⟨#[]⟩, .int .i64 0, .string ⟨#[]⟩, .int .i64 0, .string ⟨#[]⟩, .int .i64 0, .string ⟨#[]⟩, .int .i64 0, .string ⟨#[]⟩, .int .i64 0, .string ⟨#[]⟩, .int .i64 0, .string ⟨#[]⟩, .int .i64 0, .string ⟨#[]⟩, .int .i64 0, .string ⟨#[]⟩, .int .i64 0, .string ⟨#[]⟩, .int .i64 0]
end Wd
theorem below_drewD {B : Nat} {w W : World} (h : Below B w W) : Below B w W.drew := below_drewN h 1
theorem bSetRowD {B : Nat} {w w' : World} (h : Below B w w') {R : Nat} (hR : B ≤ R) (cs : Array Value) : Below B w (w'.setRow R cs) :=
  ⟨h.os, h.tape, h.output, by rw [size_setRow]; exact h.size, fun k hk => by
    show (w'.heap.modify R _)[k]? = _
    rw [Array.getElem?_modify, if_neg (by omega)]
    exact h.block k hk⟩
theorem und_deeds : Tryd.prog.underlying 67 = some (.array 10 66) := by kernel_rfl
theorem size_deeds : (Tryd.prog.info? 67).map (·.size) = some ddFc.size := by kernel_rfl
set_option maxRecDepth 100000 in
set_option maxHeartbeats 1600000 in
theorem deedForms_any (w : World) :
    Calls Tryd.prog 30 #[] w fun e w' => e = .returned (.agg ddFc) ∧ Below w.heap.size w w' := by
  have hR := heap_alloc_new w (.cells ddZc 67)
  have hB := (Below.refl _ w).alloc (Nat.le_refl _) (.cells ddZc 67)
  have hs : (Tryd.prog.info? 67).map (·.size) = some ddFc.size := size_deeds
  have hz : ddZc.size = ddFc.size := rfl
  have h1 : ddFc.all (·.oneCell') = true := by kernel_rfl
  go_enter Tryd.func30, Tryd.ntmps30
  go_upto_region 1 with fail
  change Code.wp _ _ _ _ (w.alloc (.cells ddZc 67))
  generalize w.alloc (.cells ddZc 67) = w1 at *
  have HR9 : Hid ((w1.setRow w.heap.size ddFc).heap[w.heap.size]? = some (.cells ddFc 67 (0, 0))) := Lib.hid (setRow_heap w1 w.heap.size _ _ _ _ hR)
  have HB9 : Hid (Below w.heap.size w (w1.setRow w.heap.size ddFc)) := Lib.hid (bSetRowD hB (Nat.le_refl _) _)
  have HH := Lib.hid (And.intro hR (And.intro hs (And.intro hz h1)))
  clear hR hB hs hz h1
  go_wp2_with (refine wpList_store_row rfl 67 _ _ rfl w.heap.size ddFc rfl rfl 67 _ HH.out.1 HH.out.2.1 HH.out.2.2.1 HH.out.2.2.2 ?_)
  exact bodyPost_ret (v := .agg ddFc) (results_cell_row rfl _ _ w.heap.size 67 _ (0, 0) _ rfl HR9.out und_deeds rfl size_deeds) rfl ⟨rfl, HB9.out⟩
theorem deedForms_lit (w : World) :
    Calls Tryd.prog 30 #[] w fun e w' => e = .returned (.agg #[.string ⟨#[]⟩, .int .i64 0, .string ⟨#[112, 117, 116]⟩, .int .i64 2, .string ⟨#[115, 97, 118, 101]⟩, .int .i64 1, .string ⟨#[99, 114, 97, 115, 104]⟩, .int .i64 1, .string ⟨#[111, 102, 102, 101, 114]⟩, .int .i64 3, .string ⟨#[97, 115, 107]⟩, .int .i64 2, .string ⟨#[100, 101, 108, 105, 118, 101, 114]⟩, .int .i64 1, .string ⟨#[99, 111, 112, 121]⟩, .int .i64 1, .string ⟨#[100, 114, 111, 112]⟩, .int .i64 1, .string ⟨#[115, 119, 101, 101, 112]⟩, .int .i64 1]) ∧ Below w.heap.size w w' := deedForms_any w
theorem index_deed1 (w : World) : (Instr.index 67 (.agg #[.string ⟨#[]⟩, .int .i64 0, .string ⟨#[112, 117, 116]⟩, .int .i64 2, .string ⟨#[115, 97, 118, 101]⟩, .int .i64 1, .string ⟨#[99, 114, 97, 115, 104]⟩, .int .i64 1, .string ⟨#[111, 102, 102, 101, 114]⟩, .int .i64 3, .string ⟨#[97, 115, 107]⟩, .int .i64 2, .string ⟨#[100, 101, 108, 105, 118, 101, 114]⟩, .int .i64 1, .string ⟨#[99, 111, 112, 121]⟩, .int .i64 1, .string ⟨#[100, 114, 111, 112]⟩, .int .i64 1, .string ⟨#[115, 119, 101, 101, 112]⟩, .int .i64 1]) (.int .i64 1)).run Tryd.prog w = .ok (.agg #[.string ⟨#[112, 117, 116]⟩, .int .i64 2]) w := by kernel_rfl
theorem index_deed2 (w : World) : (Instr.index 67 (.agg #[.string ⟨#[]⟩, .int .i64 0, .string ⟨#[112, 117, 116]⟩, .int .i64 2, .string ⟨#[115, 97, 118, 101]⟩, .int .i64 1, .string ⟨#[99, 114, 97, 115, 104]⟩, .int .i64 1, .string ⟨#[111, 102, 102, 101, 114]⟩, .int .i64 3, .string ⟨#[97, 115, 107]⟩, .int .i64 2, .string ⟨#[100, 101, 108, 105, 118, 101, 114]⟩, .int .i64 1, .string ⟨#[99, 111, 112, 121]⟩, .int .i64 1, .string ⟨#[100, 114, 111, 112]⟩, .int .i64 1, .string ⟨#[115, 119, 101, 101, 112]⟩, .int .i64 1]) (.int .i64 2)).run Tryd.prog w = .ok (.agg #[.string ⟨#[115, 97, 118, 101]⟩, .int .i64 1]) w := by kernel_rfl
theorem index_deed3 (w : World) : (Instr.index 67 (.agg #[.string ⟨#[]⟩, .int .i64 0, .string ⟨#[112, 117, 116]⟩, .int .i64 2, .string ⟨#[115, 97, 118, 101]⟩, .int .i64 1, .string ⟨#[99, 114, 97, 115, 104]⟩, .int .i64 1, .string ⟨#[111, 102, 102, 101, 114]⟩, .int .i64 3, .string ⟨#[97, 115, 107]⟩, .int .i64 2, .string ⟨#[100, 101, 108, 105, 118, 101, 114]⟩, .int .i64 1, .string ⟨#[99, 111, 112, 121]⟩, .int .i64 1, .string ⟨#[100, 114, 111, 112]⟩, .int .i64 1, .string ⟨#[115, 119, 101, 101, 112]⟩, .int .i64 1]) (.int .i64 3)).run Tryd.prog w = .ok (.agg #[.string ⟨#[99, 114, 97, 115, 104]⟩, .int .i64 1]) w := by kernel_rfl
theorem index_deed4 (w : World) : (Instr.index 67 (.agg #[.string ⟨#[]⟩, .int .i64 0, .string ⟨#[112, 117, 116]⟩, .int .i64 2, .string ⟨#[115, 97, 118, 101]⟩, .int .i64 1, .string ⟨#[99, 114, 97, 115, 104]⟩, .int .i64 1, .string ⟨#[111, 102, 102, 101, 114]⟩, .int .i64 3, .string ⟨#[97, 115, 107]⟩, .int .i64 2, .string ⟨#[100, 101, 108, 105, 118, 101, 114]⟩, .int .i64 1, .string ⟨#[99, 111, 112, 121]⟩, .int .i64 1, .string ⟨#[100, 114, 111, 112]⟩, .int .i64 1, .string ⟨#[115, 119, 101, 101, 112]⟩, .int .i64 1]) (.int .i64 4)).run Tryd.prog w = .ok (.agg #[.string ⟨#[111, 102, 102, 101, 114]⟩, .int .i64 3]) w := by kernel_rfl
theorem index_deed5 (w : World) : (Instr.index 67 (.agg #[.string ⟨#[]⟩, .int .i64 0, .string ⟨#[112, 117, 116]⟩, .int .i64 2, .string ⟨#[115, 97, 118, 101]⟩, .int .i64 1, .string ⟨#[99, 114, 97, 115, 104]⟩, .int .i64 1, .string ⟨#[111, 102, 102, 101, 114]⟩, .int .i64 3, .string ⟨#[97, 115, 107]⟩, .int .i64 2, .string ⟨#[100, 101, 108, 105, 118, 101, 114]⟩, .int .i64 1, .string ⟨#[99, 111, 112, 121]⟩, .int .i64 1, .string ⟨#[100, 114, 111, 112]⟩, .int .i64 1, .string ⟨#[115, 119, 101, 101, 112]⟩, .int .i64 1]) (.int .i64 5)).run Tryd.prog w = .ok (.agg #[.string ⟨#[97, 115, 107]⟩, .int .i64 2]) w := by kernel_rfl
theorem index_deed6 (w : World) : (Instr.index 67 (.agg #[.string ⟨#[]⟩, .int .i64 0, .string ⟨#[112, 117, 116]⟩, .int .i64 2, .string ⟨#[115, 97, 118, 101]⟩, .int .i64 1, .string ⟨#[99, 114, 97, 115, 104]⟩, .int .i64 1, .string ⟨#[111, 102, 102, 101, 114]⟩, .int .i64 3, .string ⟨#[97, 115, 107]⟩, .int .i64 2, .string ⟨#[100, 101, 108, 105, 118, 101, 114]⟩, .int .i64 1, .string ⟨#[99, 111, 112, 121]⟩, .int .i64 1, .string ⟨#[100, 114, 111, 112]⟩, .int .i64 1, .string ⟨#[115, 119, 101, 101, 112]⟩, .int .i64 1]) (.int .i64 6)).run Tryd.prog w = .ok (.agg #[.string ⟨#[100, 101, 108, 105, 118, 101, 114]⟩, .int .i64 1]) w := by kernel_rfl
theorem index_deed7 (w : World) : (Instr.index 67 (.agg #[.string ⟨#[]⟩, .int .i64 0, .string ⟨#[112, 117, 116]⟩, .int .i64 2, .string ⟨#[115, 97, 118, 101]⟩, .int .i64 1, .string ⟨#[99, 114, 97, 115, 104]⟩, .int .i64 1, .string ⟨#[111, 102, 102, 101, 114]⟩, .int .i64 3, .string ⟨#[97, 115, 107]⟩, .int .i64 2, .string ⟨#[100, 101, 108, 105, 118, 101, 114]⟩, .int .i64 1, .string ⟨#[99, 111, 112, 121]⟩, .int .i64 1, .string ⟨#[100, 114, 111, 112]⟩, .int .i64 1, .string ⟨#[115, 119, 101, 101, 112]⟩, .int .i64 1]) (.int .i64 7)).run Tryd.prog w = .ok (.agg #[.string ⟨#[99, 111, 112, 121]⟩, .int .i64 1]) w := by kernel_rfl
theorem index_deed8 (w : World) : (Instr.index 67 (.agg #[.string ⟨#[]⟩, .int .i64 0, .string ⟨#[112, 117, 116]⟩, .int .i64 2, .string ⟨#[115, 97, 118, 101]⟩, .int .i64 1, .string ⟨#[99, 114, 97, 115, 104]⟩, .int .i64 1, .string ⟨#[111, 102, 102, 101, 114]⟩, .int .i64 3, .string ⟨#[97, 115, 107]⟩, .int .i64 2, .string ⟨#[100, 101, 108, 105, 118, 101, 114]⟩, .int .i64 1, .string ⟨#[99, 111, 112, 121]⟩, .int .i64 1, .string ⟨#[100, 114, 111, 112]⟩, .int .i64 1, .string ⟨#[115, 119, 101, 101, 112]⟩, .int .i64 1]) (.int .i64 8)).run Tryd.prog w = .ok (.agg #[.string ⟨#[100, 114, 111, 112]⟩, .int .i64 1]) w := by kernel_rfl
theorem index_deed9 (w : World) : (Instr.index 67 (.agg #[.string ⟨#[]⟩, .int .i64 0, .string ⟨#[112, 117, 116]⟩, .int .i64 2, .string ⟨#[115, 97, 118, 101]⟩, .int .i64 1, .string ⟨#[99, 114, 97, 115, 104]⟩, .int .i64 1, .string ⟨#[111, 102, 102, 101, 114]⟩, .int .i64 3, .string ⟨#[97, 115, 107]⟩, .int .i64 2, .string ⟨#[100, 101, 108, 105, 118, 101, 114]⟩, .int .i64 1, .string ⟨#[99, 111, 112, 121]⟩, .int .i64 1, .string ⟨#[100, 114, 111, 112]⟩, .int .i64 1, .string ⟨#[115, 119, 101, 101, 112]⟩, .int .i64 1]) (.int .i64 9)).run Tryd.prog w = .ok (.agg #[.string ⟨#[115, 119, 101, 101, 112]⟩, .int .i64 1]) w := by kernel_rfl
theorem field_deed1 (w : World) : (Instr.field 66 (.agg #[.string ⟨#[112, 117, 116]⟩, .int .i64 2]) 1).run Tryd.prog w = .ok (.int .i64 2) w := by kernel_rfl
theorem field_deed2 (w : World) : (Instr.field 66 (.agg #[.string ⟨#[115, 97, 118, 101]⟩, .int .i64 1]) 1).run Tryd.prog w = .ok (.int .i64 1) w := by kernel_rfl
theorem field_deed3 (w : World) : (Instr.field 66 (.agg #[.string ⟨#[99, 114, 97, 115, 104]⟩, .int .i64 1]) 1).run Tryd.prog w = .ok (.int .i64 1) w := by kernel_rfl
theorem field_deed4 (w : World) : (Instr.field 66 (.agg #[.string ⟨#[111, 102, 102, 101, 114]⟩, .int .i64 3]) 1).run Tryd.prog w = .ok (.int .i64 3) w := by kernel_rfl
theorem field_deed5 (w : World) : (Instr.field 66 (.agg #[.string ⟨#[97, 115, 107]⟩, .int .i64 2]) 1).run Tryd.prog w = .ok (.int .i64 2) w := by kernel_rfl
theorem field_deed6 (w : World) : (Instr.field 66 (.agg #[.string ⟨#[100, 101, 108, 105, 118, 101, 114]⟩, .int .i64 1]) 1).run Tryd.prog w = .ok (.int .i64 1) w := by kernel_rfl
theorem field_deed7 (w : World) : (Instr.field 66 (.agg #[.string ⟨#[99, 111, 112, 121]⟩, .int .i64 1]) 1).run Tryd.prog w = .ok (.int .i64 1) w := by kernel_rfl
theorem field_deed8 (w : World) : (Instr.field 66 (.agg #[.string ⟨#[100, 114, 111, 112]⟩, .int .i64 1]) 1).run Tryd.prog w = .ok (.int .i64 1) w := by kernel_rfl
theorem field_deed9 (w : World) : (Instr.field 66 (.agg #[.string ⟨#[115, 119, 101, 101, 112]⟩, .int .i64 1]) 1).run Tryd.prog w = .ok (.int .i64 1) w := by kernel_rfl
set_option maxRecDepth 100000 in
set_option maxHeartbeats 12800000 in
theorem implValidDeed (k a b c : Int) (w : World) :
    Calls Tryd.prog 29 #[.agg #[.int .i64 k, .int .i64 a, .int .i64 b, .int .i64 c]] w fun e w' => e = .returned (.bool (ddOk k a b c)) ∧ Below w.heap.size w w' := by
  have hb0 := (Below.refl _ w).alloc (Nat.le_refl _) (.cells #[.int .i64 k, .int .i64 a, .int .i64 b, .int .i64 c] 25)
  have hP0 := heap_alloc_new w (.cells #[.int .i64 k, .int .i64 a, .int .i64 b, .int .i64 c] 25)
  have hs0 : w.heap.size < (w.alloc (.cells #[.int .i64 k, .int .i64 a, .int .i64 b, .int .i64 c] 25)).heap.size := by simp
  obtain ⟨R, hR⟩ : ∃ R, R = ddOk k a b c := ⟨_, rfl⟩
  rw [← hR]
  unfold ddOk dnOk at hR
  by_cases hk : 1 ≤ k ∧ k ≤ 9
  case neg =>
    rw [decide_eq_false hk, Bool.false_and] at hR
    subst hR
    have HB0 := Lib.hid hb0
    clear hb0 hP0 hs0
    by_cases h1 : k < 1
    · have h1' : decide (k < 1) = true := decide_eq_true h1
      clear hk
      go_enter Tryd.func29, Tryd.ntmps29
      go_wp2_with fail
      go_ret
      exact ⟨rfl, HB0.out⟩
    · have h1' : decide (k < 1) = false := decide_eq_false h1
      have h2' : decide (9 < k) = true := decide_eq_true (by omega)
      clear hk
      go_enter Tryd.func29, Tryd.ntmps29
      go_wp2_with fail
      go_ret
      exact ⟨rfl, HB0.out⟩
  case pos =>
    rw [decide_eq_true hk, Bool.true_and] at hR
    have HN : Hid (1 ≤ ddN k ∧ ddN k ≤ 3) := Lib.hid (by unfold ddN; split <;> (try split) <;> (try split) <;> omega)
    have HYES : Hid ((0 ≤ a ∧ a ≤ 999) → (0 ≤ b ∧ b ≤ 999) → (0 ≤ c ∧ c ≤ 999) → (1 < ddN k ∨ b = 0) → (2 < ddN k ∨ c = 0) → R = true) := Lib.hid (fun h1 h2 h3 h4 h5 => by
      rw [hR, decide_eq_true h1, decide_eq_true h2, decide_eq_true h3]
      rcases h4 with h4 | h4 <;> rcases h5 with h5 | h5 <;> simp [h4, h5])
    have HNO : Hid (¬ ((0 ≤ a ∧ a ≤ 999) ∧ (0 ≤ b ∧ b ≤ 999) ∧ (0 ≤ c ∧ c ≤ 999) ∧ (1 < ddN k ∨ b = 0) ∧ (2 < ddN k ∨ c = 0)) → R = false) := Lib.hid (fun h => by
      cases hRR : R with
      | false => rfl
      | true =>
        exfalso
        rw [hR] at hRR
        simp only [Bool.and_eq_true, Bool.or_eq_true, decide_eq_true_iff] at hRR
        exact h ⟨hRR.1, hRR.2.1, hRR.2.2.1, hRR.2.2.2.1, hRR.2.2.2.2⟩)
    have h1' : decide (k < 1) = false := decide_eq_false (by omega)
    have h2' : decide (9 < k) = false := decide_eq_false (by omega)
    have hk0 : (0 : Int) ≤ k := by omega
    have hk1 : k < 10 := by omega
    have HB0 := Lib.hid hb0
    have HP0 := Lib.hid hP0
    have HS0 := Lib.hid hs0
    clear hb0 hP0 hs0 hR
    go_enter Tryd.func29, Tryd.ntmps29
    go_upto_region 3 with fail
    generalize w.alloc (.cells #[.int .i64 k, .int .i64 a, .int .i64 b, .int .i64 c] 25) = w3 at *
    obtain ⟨⟨p0, _⟩, _⟩ := dblk_cells HP0.out
    go_cut [3] (fun s3 wx => s3 = .int .i64 (ddN k) ∧ Below w3.heap.size w3 wx)
    case first =>
      have HFM : Hid (∀ W, Below w3.heap.size w3 W → Calls Tryd.prog 30 #[] W fun e w' => e = .returned (.agg #[.string ⟨#[]⟩, .int .i64 0, .string ⟨#[112, 117, 116]⟩, .int .i64 2, .string ⟨#[115, 97, 118, 101]⟩, .int .i64 1, .string ⟨#[99, 114, 97, 115, 104]⟩, .int .i64 1, .string ⟨#[111, 102, 102, 101, 114]⟩, .int .i64 3, .string ⟨#[97, 115, 107]⟩, .int .i64 2, .string ⟨#[100, 101, 108, 105, 118, 101, 114]⟩, .int .i64 1, .string ⟨#[99, 111, 112, 121]⟩, .int .i64 1, .string ⟨#[100, 114, 111, 112]⟩, .int .i64 1, .string ⟨#[115, 119, 101, 101, 112]⟩, .int .i64 1]) ∧ Below w3.heap.size w3 w') := Lib.hid (fun W hb => by
        refine (deedForms_lit W).mono ?_
        rintro e w' ⟨he, h2⟩
        exact ⟨he, hb.trans (h2.mono hb.size)⟩)
      have HPK := Lib.hid (fun W (hb : Below w3.heap.size w3 W) => (hb.cell (p := ⟨w.heap.size, 0, none⟩) HS0.out).trans p0)
      clear HYES HNO HN HP0
      obtain rfl | rfl | rfl | rfl | rfl | rfl | rfl | rfl | rfl : k = 1 ∨ k = 2 ∨ k = 3 ∨ k = 4 ∨ k = 5 ∨ k = 6 ∨ k = 7 ∨ k = 8 ∨ k = 9 := by omega
      · have hx7 := index_deed1
        have hx8 := field_deed1
        go_region_held3 (fun w' => w'.cell? ⟨w.heap.size, 0, none⟩ = some (.int .i64 1))
          (first | (with_reducible go_keep) | (with_reducible exact p0) | (with_reducible exact HC7.out) | go_keep)
          (first
            | (go_at_call 30
               refine (HFM.out _ ?_).mono ?_
               (first | (with_reducible exact Below.refl _ _) | (with_reducible exact below_drewD (Below.refl _ _)))
               rintro e w7 ⟨rfl, hB7⟩
               have HB7 := Lib.hid hB7
               have HC7 := Lib.hid (HPK.out w7 hB7)
               clear hB7))
        all_goals (go_wp2_with fail; go_meet)
        all_goals first
          | (with_reducible exact ⟨rfl, HB7.out⟩)
          | (with_reducible exact ⟨rfl, below_drewD HB7.out⟩)
      · have hx7 := index_deed2
        have hx8 := field_deed2
        go_region_held3 (fun w' => w'.cell? ⟨w.heap.size, 0, none⟩ = some (.int .i64 2))
          (first | (with_reducible go_keep) | (with_reducible exact p0) | (with_reducible exact HC7.out) | go_keep)
          (first
            | (go_at_call 30
               refine (HFM.out _ ?_).mono ?_
               (first | (with_reducible exact Below.refl _ _) | (with_reducible exact below_drewD (Below.refl _ _)))
               rintro e w7 ⟨rfl, hB7⟩
               have HB7 := Lib.hid hB7
               have HC7 := Lib.hid (HPK.out w7 hB7)
               clear hB7))
        all_goals (go_wp2_with fail; go_meet)
        all_goals first
          | (with_reducible exact ⟨rfl, HB7.out⟩)
          | (with_reducible exact ⟨rfl, below_drewD HB7.out⟩)
      · have hx7 := index_deed3
        have hx8 := field_deed3
        go_region_held3 (fun w' => w'.cell? ⟨w.heap.size, 0, none⟩ = some (.int .i64 3))
          (first | (with_reducible go_keep) | (with_reducible exact p0) | (with_reducible exact HC7.out) | go_keep)
          (first
            | (go_at_call 30
               refine (HFM.out _ ?_).mono ?_
               (first | (with_reducible exact Below.refl _ _) | (with_reducible exact below_drewD (Below.refl _ _)))
               rintro e w7 ⟨rfl, hB7⟩
               have HB7 := Lib.hid hB7
               have HC7 := Lib.hid (HPK.out w7 hB7)
               clear hB7))
        all_goals (go_wp2_with fail; go_meet)
        all_goals first
          | (with_reducible exact ⟨rfl, HB7.out⟩)
          | (with_reducible exact ⟨rfl, below_drewD HB7.out⟩)
      · have hx7 := index_deed4
        have hx8 := field_deed4
        go_region_held3 (fun w' => w'.cell? ⟨w.heap.size, 0, none⟩ = some (.int .i64 4))
          (first | (with_reducible go_keep) | (with_reducible exact p0) | (with_reducible exact HC7.out) | go_keep)
          (first
            | (go_at_call 30
               refine (HFM.out _ ?_).mono ?_
               (first | (with_reducible exact Below.refl _ _) | (with_reducible exact below_drewD (Below.refl _ _)))
               rintro e w7 ⟨rfl, hB7⟩
               have HB7 := Lib.hid hB7
               have HC7 := Lib.hid (HPK.out w7 hB7)
               clear hB7))
        all_goals (go_wp2_with fail; go_meet)
        all_goals first
          | (with_reducible exact ⟨rfl, HB7.out⟩)
          | (with_reducible exact ⟨rfl, below_drewD HB7.out⟩)
      · have hx7 := index_deed5
        have hx8 := field_deed5
        go_region_held3 (fun w' => w'.cell? ⟨w.heap.size, 0, none⟩ = some (.int .i64 5))
          (first | (with_reducible go_keep) | (with_reducible exact p0) | (with_reducible exact HC7.out) | go_keep)
          (first
            | (go_at_call 30
               refine (HFM.out _ ?_).mono ?_
               (first | (with_reducible exact Below.refl _ _) | (with_reducible exact below_drewD (Below.refl _ _)))
               rintro e w7 ⟨rfl, hB7⟩
               have HB7 := Lib.hid hB7
               have HC7 := Lib.hid (HPK.out w7 hB7)
               clear hB7))
        all_goals (go_wp2_with fail; go_meet)
        all_goals first
          | (with_reducible exact ⟨rfl, HB7.out⟩)
          | (with_reducible exact ⟨rfl, below_drewD HB7.out⟩)
      · have hx7 := index_deed6
        have hx8 := field_deed6
        go_region_held3 (fun w' => w'.cell? ⟨w.heap.size, 0, none⟩ = some (.int .i64 6))
          (first | (with_reducible go_keep) | (with_reducible exact p0) | (with_reducible exact HC7.out) | go_keep)
          (first
            | (go_at_call 30
               refine (HFM.out _ ?_).mono ?_
               (first | (with_reducible exact Below.refl _ _) | (with_reducible exact below_drewD (Below.refl _ _)))
               rintro e w7 ⟨rfl, hB7⟩
               have HB7 := Lib.hid hB7
               have HC7 := Lib.hid (HPK.out w7 hB7)
               clear hB7))
        all_goals (go_wp2_with fail; go_meet)
        all_goals first
          | (with_reducible exact ⟨rfl, HB7.out⟩)
          | (with_reducible exact ⟨rfl, below_drewD HB7.out⟩)
      · have hx7 := index_deed7
        have hx8 := field_deed7
        go_region_held3 (fun w' => w'.cell? ⟨w.heap.size, 0, none⟩ = some (.int .i64 7))
          (first | (with_reducible go_keep) | (with_reducible exact p0) | (with_reducible exact HC7.out) | go_keep)
          (first
            | (go_at_call 30
               refine (HFM.out _ ?_).mono ?_
               (first | (with_reducible exact Below.refl _ _) | (with_reducible exact below_drewD (Below.refl _ _)))
               rintro e w7 ⟨rfl, hB7⟩
               have HB7 := Lib.hid hB7
               have HC7 := Lib.hid (HPK.out w7 hB7)
               clear hB7))
        all_goals (go_wp2_with fail; go_meet)
        all_goals first
          | (with_reducible exact ⟨rfl, HB7.out⟩)
          | (with_reducible exact ⟨rfl, below_drewD HB7.out⟩)
      · have hx7 := index_deed8
        have hx8 := field_deed8
        go_region_held3 (fun w' => w'.cell? ⟨w.heap.size, 0, none⟩ = some (.int .i64 8))
          (first | (with_reducible go_keep) | (with_reducible exact p0) | (with_reducible exact HC7.out) | go_keep)
          (first
            | (go_at_call 30
               refine (HFM.out _ ?_).mono ?_
               (first | (with_reducible exact Below.refl _ _) | (with_reducible exact below_drewD (Below.refl _ _)))
               rintro e w7 ⟨rfl, hB7⟩
               have HB7 := Lib.hid hB7
               have HC7 := Lib.hid (HPK.out w7 hB7)
               clear hB7))
        all_goals (go_wp2_with fail; go_meet)
        all_goals first
          | (with_reducible exact ⟨rfl, HB7.out⟩)
          | (with_reducible exact ⟨rfl, below_drewD HB7.out⟩)
      · have hx7 := index_deed9
        have hx8 := field_deed9
        go_region_held3 (fun w' => w'.cell? ⟨w.heap.size, 0, none⟩ = some (.int .i64 9))
          (first | (with_reducible go_keep) | (with_reducible exact p0) | (with_reducible exact HC7.out) | go_keep)
          (first
            | (go_at_call 30
               refine (HFM.out _ ?_).mono ?_
               (first | (with_reducible exact Below.refl _ _) | (with_reducible exact below_drewD (Below.refl _ _)))
               rintro e w7 ⟨rfl, hB7⟩
               have HB7 := Lib.hid hB7
               have HC7 := Lib.hid (HPK.out w7 hB7)
               clear hB7))
        all_goals (go_wp2_with fail; go_meet)
        all_goals first
          | (with_reducible exact ⟨rfl, HB7.out⟩)
          | (with_reducible exact ⟨rfl, below_drewD HB7.out⟩)
    case rest =>
      obtain ⟨rfl, hB⟩ := hcut
      have hPx := (hB.block w.heap.size HS0.out).trans HP0.out
      obtain ⟨⟨q0, q1, q2, q3⟩, _⟩ := dblk_cells hPx
      have HBX := Lib.hid (HB0.out.trans (hB.mono HB0.out.size))
      have hN1 := HN.out.1
      have hN2 := HN.out.2
      clear hB hPx p0 hk hk0 hk1 h1' h2' HN HP0 HS0 HB0
      generalize ddN k = N at *
      have i0 : ∀ w, (Instr.index 69 (.agg #[.int .i64 a, .int .i64 b, .int .i64 c]) (.int .i64 0)).run Tryd.prog w = .ok (.int .i64 a) w := fun _ => by kernel_rfl
      have i1 : ∀ w, (Instr.index 69 (.agg #[.int .i64 a, .int .i64 b, .int .i64 c]) (.int .i64 1)).run Tryd.prog w = .ok (.int .i64 b) w := fun _ => by kernel_rfl
      have i2 : ∀ w, (Instr.index 69 (.agg #[.int .i64 a, .int .i64 b, .int .i64 c]) (.int .i64 2)).run Tryd.prog w = .ok (.int .i64 c) w := fun _ => by kernel_rfl
      have g0 : decide (N ≤ 0) = false := decide_eq_false (by omega)
      go_wp2_with fail
      refine wp_loop_rounds 4 ?_
      rw [rounds_succ]
      go_wp2_with fail
      all_goals (try (rw [rounds_succ]; go_wp2_with fail))
      all_goals (try (rw [rounds_succ]; go_wp2_with fail))
      all_goals (try (rw [rounds_succ]; go_wp2_with fail))
      all_goals go_ret
      all_goals first
        | exact ⟨ret_bool' (HYES.out (by omega) (by omega) (by omega) (by omega) (by omega)).symm, HBX.out⟩
        | exact ⟨ret_bool' (HNO.out (by omega)).symm, HBX.out⟩
end Go.Proofs.YtcaeihdfljljbaaDoor
