/-
  The walk of FnExactRunsOf: it returns true at every input.
-/
import Derived.Test.YtlgpleeanmeenaaRsS
import Derived.Test.YtlgpleeanmeenaaRsI
import Derived.Test.YtlgpleeanmeenaaRuEq
import Derived.Test.YtlgpleeanmeenaaRuMk
import Derived.Test.YtlgpleeanmeenaaRuHd
namespace Go.Proofs.Ytlgpleeanmeenaa.fnExactRunsOf
open Go.RowKit Wd
set_option linter.unusedVariables false

set_option maxHeartbeats 3200000 in
theorem walk_of (u : ByteArray) (w : World) (hu : ¬ 1048576 < u.size) (zs : List Ru) (c : Int) (hz : zs.length ≤ 1000000)
    (h1 : ∀ w, Calls Try.prog 27 #[.string u] w fun e w' => ∃ x, e = .returned (.tuple #[x, .int .i64 c]) ∧ OwnsU w' w.heap.size x zs ∧ Below w.heap.size w w')
    (h2 : ∀ w, Calls Try.prog 28 #[.string u] w fun e w' => ∃ x, e = .returned (.tuple #[x, .int .i64 c]) ∧ OwnsU w' w.heap.size x zs ∧ Below w.heap.size w w') :
    Calls Try.prog 6 #[.string u] w fun e w' => e = .returned (.bool true) ∧ Below w.heap.size w w' := by
  have H1 := Lib.hid h1
  have H2 := Lib.hid h2
  clear h1 h2
  go_enter Try.func6, Try.ntmps6
  go_wp2_with fail
  refine (H1.out _).mono ?_
  rintro e w1 ⟨v0, rfl, ho0, hb1⟩
  have HB1 := Lib.hid hb1
  have HO0 := Lib.hid ho0
  clear hb1 ho0
  go_wp2_with fail
  refine (H2.out _).mono ?_
  rintro e w2 ⟨v1, rfl, ho1, hb2⟩
  have HO0' := Lib.hid (own_below HO0.out hb2 (Nat.le_refl _))
  have HNE : Hid (v0.ownBlock = none ∨ v0.ownBlock ≠ v1.ownBlock) := Lib.hid (by
    cases hv : v0.ownBlock with
    | none => exact .inl rfl
    | some g =>
      refine .inr fun h => ?_
      have := (HO0.out.lt g hv).2
      have := (ho1.lt g h.symm).1
      omega)
  have HS1 := Lib.hid HB1.out.size
  have HB2 := Lib.hid (HB1.out.trans (hb2.mono HB1.out.size))
  have HO1 := Lib.hid ho1
  clear hb2 ho1
  go_wp2_with fail
  refine (eqRunS_same v1 v0 zs _ (by omega) (Runs.of_own HO1.out) (Runs.of_own HO0'.out)).mono ?_
  rintro e w3 ⟨rfl, hb3⟩
  have HO1' := Lib.hid (own_below HO1.out hb3 (Nat.le_refl _))
  have HO0d := Lib.hid (own_below HO0'.out hb3 (Nat.le_refl _))
  have HB3 := Lib.hid (HB2.out.trans (hb3.mono HB2.out.size))
  clear hb3
  go_wp2_with fail
  refine (markRunS_any v1 zs _ 1 (by omega) _ HO1'.out (by omega)).mono ?_
  rintro e w4 ⟨rfl, hom, hg4⟩
  have HO0m := Lib.hid (World.ownsRow.kept HO0d.out hg4 HNE.out)
  have HB4 := Lib.hid (HB3.out.grown hg4 HB3.out.size (fun q hq => by have := (HO1'.out.lt q hq).1; have := HS1.out; omega))
  have HOM := Lib.hid hom
  have hgz : (0 : Int) ≤ 2 * (zs.length : Int) := by omega
  clear hom hg4
  go_wp2_with fail
  refine (heldRunS_any v1 zs.length _ 1 (by omega) _ HOM.out (by omega)).mono ?_
  rintro e w5 ⟨rfl, hb5⟩
  have HB5 := Lib.hid (HB4.out.trans (hb5.mono HB4.out.size))
  have HO0n := Lib.hid (own_below HO0m.out hb5 (Nat.le_refl _))
  have HOMn := Lib.hid (own_below HOM.out hb5 (Nat.le_refl _))
  clear hb5
  go_wp2_with fail
  refine (H2.out _).mono ?_
  rintro e w6 ⟨v2, rfl, ho2, hb6⟩
  have HB6 := Lib.hid (HB5.out.trans (hb6.mono HB5.out.size))
  have HO0q := Lib.hid (own_below HO0n.out hb6 (Nat.le_refl _))
  have HOMq := Lib.hid (own_below HOMn.out hb6 (Nat.le_refl _))
  have HO2 := Lib.hid ho2
  clear hb6 ho2
  go_wp2_with fail
  refine (eqRunS_same v2 v0 zs _ (by omega) (Runs.of_own HO2.out) (Runs.of_own HO0q.out)).mono ?_
  rintro e w7 ⟨rfl, hb7⟩
  have HB7 := Lib.hid (HB6.out.trans (hb7.mono HB6.out.size))
  have HOMr := Lib.hid (own_below HOMq.out hb7 (Nat.le_refl _))
  clear hb7
  go_wp2_with fail
  refine (heldRunS_any v1 zs.length _ 1 (by omega) _ HOMr.out (by omega)).mono ?_
  rintro e w8 ⟨rfl, hb8⟩
  have HB8 := Lib.hid (HB7.out.trans (hb8.mono HB7.out.size))
  clear hb8
  go_wp2_with fail
  go_ret
  exact ⟨rfl, HB8.out⟩

theorem walk (a0 : ByteArray) (w : World) (w0 : a0.size ≤ maxLen) :
    Calls Try.prog 6 #[.string a0] w fun e w' => e = .returned (.bool true) ∧ Below w.heap.size w w' := by
  by_cases h0 : 1048576 < a0.size
  · go_enter Try.func6, Try.ntmps6
    go_wp2
    go_ret
    exact ⟨rfl, Below.refl _ _⟩
  exact walk_of a0 w h0 (rsA a0).1 (rsA a0).2 (rsA_len a0) (fun W => specRunsOf a0 W w0) (fun W => implRunsOf a0 W w0)
end Go.Proofs.Ytlgpleeanmeenaa.fnExactRunsOf
