/-
  Two rules compared with == and !=.
-/
import Derived.Test.YtnhobcfpipedmaaKind
import Derived.Laws.StructEq
namespace Go.Proofs.Ytnhobcfpipedmaa
open Go.RowKit
open Wd
set_option linter.unusedVariables false

namespace Wd
/-- are two rules the same? -/
def eqR (x y : Rl) : Bool := (x.L.toList == y.L.toList) && ((x.l == y.l) && (x.r == y.r))
theorem eqR_iff {x y : Rl} : eqR x y = true ↔ x = y := by
  obtain ⟨L, l, r⟩ := x
  obtain ⟨L', l', r'⟩ := y
  simp only [eqR, Bool.and_eq_true, beq_iff_eq, Rl.mk.injEq]
  constructor
  · rintro ⟨h1, h2, h3⟩
    refine ⟨?_, h2, h3⟩
    rw [ByteArray.toList_eq, ByteArray.toList_eq] at h1
    obtain ⟨⟨a⟩⟩ := L
    obtain ⟨⟨b⟩⟩ := L'
    simp at h1
    rw [h1]
  · rintro ⟨rfl, rfl, rfl⟩
    exact ⟨rfl, rfl, rfl⟩
instance rlDec : DecidableEq Rl := fun x y => if h : eqR x y = true then isTrue (eqR_iff.1 h) else isFalse (fun e => h (eqR_iff.2 e))
theorem eqR_same (x : Rl) : eqR x x = true := eqR_iff.2 rfl
theorem eqR_other {x y : Rl} (h : x ≠ y) : eqR x y = false := by
  cases hb : eqR x y
  · rfl
  · exact absurd (eqR_iff.1 hb) h
end Wd
theorem rule_flds : Try.prog.underlying 94 = some (.struct (Try.prog.fieldsOf 94)) := by kernel_rfl
theorem rule_held : Try.prog.stoodInHeld 94 = false := by kernel_rfl
theorem rule_equalIn (x y : Rl) (w : World) : (Op.equalIn 10000 94 (agg3 x) (agg3 y)).run Try.prog w = .ok (eqR x y) w := by
  unfold agg3 eqR
  rw [run_equalIn_agg w 9999 _ _ _ rule_flds rule_held]
  simp only [Program.fieldsOf, Try.underlying94]
  have u1 := Try.underlying9
  have u2 := Try.underlying2
  have e1 := fun w => run_equalIn_string (P := Try.prog) w 9998 9 x.L y.L u1
  have e2 := fun w => run_equalIn_int (P := Try.prog) w 9998 2 .i64 .i64 x.l y.l u2
  have e3 := fun w => run_equalIn_int (P := Try.prog) w 9998 2 .i64 .i64 x.r y.r u2
  simp [Op.eqFields, go_sem, e1, e2, e3]
  by_cases h1 : x.L.toList = y.L.toList <;> by_cases h2 : x.l = y.l <;> by_cases h3 : x.r = y.r <;> simp [h1, h2, h3]
theorem rule_neq (x y : Rl) (w : World) : (binOp .neq 94 (agg3 x) (agg3 y)).run Try.prog w = .ok (.bool (!eqR x y)) w := by
  unfold agg3
  rw [run_neq_struct, rule_equalIn]
  rfl
theorem rule_eql (x y : Rl) (w : World) : (binOp .eql 94 (agg3 x) (agg3 y)).run Try.prog w = .ok (.bool (eqR x y)) w := by
  unfold agg3
  rw [run_eql_struct, rule_equalIn]
  rfl
end Go.Proofs.Ytnhobcfpipedmaa
