/-
  Walks: impl.limited, spec.l02Told: a grammar if it is valid.
-/
import Derived.Test.YtnhobcfpipedmaaVar
import Derived.Test.YtnhobcfpipedmaaGValid
namespace Go.Proofs.Ytnhobcfpipedmaa
open Go.RowKit
open Wd
set_option linter.unusedVariables false

namespace Wd
def limV (gs : List Rl) (v : Value) : Value := if gOk gs then v else .slice none 0 0
def limC (gs : List Rl) : Int := if gOk gs then 0 else 3
def limG (gs : List Rl) : List Rl := if gOk gs then gs else []
end Wd
theorem lim_own {w : World} {B : Nat} {v : Value} {gs : List Rl} (h : OwnsR w B v gs) : OwnsR w B (limV gs v) (limG gs) := by
  unfold limV limG
  split
  · exact h
  · exact World.ownsRow_nil _ _ _ _

set_option maxHeartbeats 1600000 in
theorem limited_any (v : Value) (gs : List Rl) (w : World) (hf : FewR gs) (hr : Rules w v gs) :
    Calls Try.prog 68 #[v] w fun e w' => e = .returned (.tuple #[.agg #[limV gs v], .int .i64 (limC gs)]) ∧ Below w.heap.size w w' := by
  have hb : Below w.heap.size w ((w.alloc (.cells #[.slice none 0 0] 31)).alloc (.cells #[v] 31)) := ((Below.refl _ w).alloc (Nat.le_refl _) _).alloc (by simp) _
  have hv : Var ((w.alloc (.cells #[.slice none 0 0] 31)).alloc (.cells #[v] 31)) (w.heap.size + 1) v 31 := by
    have := Var.new (w.alloc (.cells #[.slice none 0 0] 31)) v 31
    rwa [show (w.alloc (.cells #[.slice none 0 0] 31)).heap.size = w.heap.size + 1 from by simp] at this
  have hv0 : Var ((w.alloc (.cells #[.slice none 0 0] 31)).alloc (.cells #[v] 31)) w.heap.size (.slice none 0 0) 31 := (Var.new w (.slice none 0 0) 31).kept ((Below.refl _ _).alloc (Nat.le_refl _) _)
  have h1 := implValidGrammar v gs _ hf (hr.kept hb)
  obtain ⟨A, c, rfl, _⟩ := hr
  have HB := Lib.hid hb
  have HV := Lib.hid hv
  have HV0 := Lib.hid hv0
  unfold limV limC
  cases hok : gOk gs
  all_goals
    rw [hok] at h1
    have H1 := Lib.hid h1
    clear h1 hok hb hv hv0
    go_enter Try.func68, Try.ntmps68
    go_wp2_with fail
    refine H1.out.mono ?_
    rintro e w1 ⟨rfl, hB1⟩
    obtain ⟨x0, x1⟩ := (HV.out.kept hB1).cell
    obtain ⟨y0, y1⟩ := (HV0.out.kept hB1).cell
    have HB1 := Lib.hid (HB.out.trans (hB1.mono (by simp; omega)))
    clear hB1
    go_wp2_with fail
  · refine bodyPost_ret (v := .tuple #[.agg #[.slice none 0 0], .int .i64 3]) (by simp [results, Try.results68, go_sem, y0]) rfl ⟨rfl, HB1.out.setCell (by simp) _⟩
  · refine bodyPost_ret (v := .tuple #[.agg #[.slice A gs.length c], .int .i64 0]) (by simp [results, Try.results68, go_sem, y0]) rfl ⟨rfl, HB1.out.setCell (by simp) _⟩

set_option maxHeartbeats 1600000 in
theorem told_any (v : Value) (gs : List Rl) (w : World) (hf : FewR gs) (hr : Rules w v gs) :
    Calls Try.prog 62 #[.agg #[v]] w fun e w' => e = .returned (.tuple #[.agg #[limV gs v], .int .i64 (limC gs)]) ∧ Below w.heap.size w w' := by
  have hb : Below w.heap.size w ((w.alloc (.cells #[v] 31)).alloc (.cells #[.slice none 0 0] 31)) := ((Below.refl _ w).alloc (Nat.le_refl _) _).alloc (by simp) _
  have hv : Var ((w.alloc (.cells #[v] 31)).alloc (.cells #[.slice none 0 0] 31)) (w.heap.size + 1) (.slice none 0 0) 31 := by
    have := Var.new (w.alloc (.cells #[v] 31)) (.slice none 0 0) 31
    rwa [show (w.alloc (.cells #[v] 31)).heap.size = w.heap.size + 1 from by simp] at this
  have hv0 : Var ((w.alloc (.cells #[v] 31)).alloc (.cells #[.slice none 0 0] 31)) w.heap.size v 31 := (Var.new w v 31).kept ((Below.refl _ _).alloc (Nat.le_refl _) _)
  have hg : GP ((w.alloc (.cells #[v] 31)).alloc (.cells #[.slice none 0 0] 31)) w.heap.size gs := (rules_gpT hr 31).kept ((Below.refl _ _).alloc (Nat.le_refl _) _)
  have h1 := l02Ok_any w.heap.size gs _ hf hg
  obtain ⟨A, c, rfl, _⟩ := hr
  have HB := Lib.hid hb
  have HV := Lib.hid hv
  have HV0 := Lib.hid hv0
  unfold limV limC
  cases hok : gOk gs
  all_goals
    rw [hok] at h1
    have H1 := Lib.hid h1
    clear h1 hok hb hv hv0 hg
    go_enter Try.func62, Try.ntmps62
    go_wp2_with fail
    refine H1.out.mono ?_
    rintro e w1 ⟨rfl, hB1⟩
    obtain ⟨x0, x1⟩ := (HV.out.kept hB1).cell
    obtain ⟨y0, y1⟩ := (HV0.out.kept hB1).cell
    have HB1 := Lib.hid (HB.out.trans (hB1.mono (by simp; omega)))
    clear hB1
    go_wp2_with fail
  · refine bodyPost_ret (v := .tuple #[.agg #[.slice none 0 0], .int .i64 3]) (by simp [results, Try.results62, go_sem, x0]) rfl ⟨rfl, HB1.out.setCell (by simp) _⟩
  · refine bodyPost_ret (v := .tuple #[.agg #[.slice A gs.length c], .int .i64 0]) (by simp [results, Try.results62, go_sem, x0]) rfl ⟨rfl, HB1.out.setCell (by simp) _⟩
end Go.Proofs.Ytnhobcfpipedmaa
