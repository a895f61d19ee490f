/-
  The walk of FnExactPeriodsOf: it returns true at every input.
-/
import Derived.Test.YtiibadmijhbioabPeriodsI
namespace Go.Proofs.Ytiibadmijhbioab.fnExactPeriodsOf
open Go.RowKit Wd
set_option linter.unusedVariables false

set_option maxHeartbeats 800000 in
theorem walk_of (u : ByteArray) (w : World) (hu : ¬ 1048576 < u.size) (zs : List Int) (c : Int) (hz : zs.length ≤ 1000000)
    (h1 : ∀ w, Calls Try.prog 22 #[.string u] w fun e w' => ∃ x, e = .returned (.tuple #[x, .int .i64 c]) ∧ OwnsI w' w.heap.size x zs ∧ Below w.heap.size w w')
    (h2 : ∀ w, Calls Try.prog 23 #[.string u] w fun e w' => ∃ x, e = .returned (.tuple #[x, .int .i64 c]) ∧ OwnsI w' w.heap.size x zs ∧ Below w.heap.size w w') :
    Calls Try.prog 5 #[.string u] w fun e w' => e = .returned (.bool true) ∧ Below w.heap.size w w' := by
  have H1 := Lib.hid h1
  have H2 := Lib.hid h2
  clear h1 h2
  go_enter Try.func5, Try.ntmps5
  go_wp2_with fail
  refine (H1.out _).mono ?_; rintro e w1 ⟨v0, rfl, ho0, hb1⟩
  have s1 := hb1.size
  go_wp2_with fail
  refine (H2.out _).mono ?_; rintro e w2 ⟨v1, rfl, ho1, hb2⟩
  have s2 := hb2.size
  have ho0' := ho0.below hb2 (Nat.le_refl _)
  have hne : v0.ownBlock = none ∨ v0.ownBlock ≠ v1.ownBlock := by
    cases hv : v0.ownBlock with
    | none => exact .inl rfl
    | some g =>
      refine .inr fun h => ?_
      have := (ho0.lt g hv).2
      have := (ho1.lt g h.symm).1
      omega
  go_wp2_with fail
  refine (eqI v1 v0 zs _ _ _ ho1 ho0' hz).mono ?_; rintro e w3 ⟨rfl, hd3⟩
  have ho1' := ho1.drawn hd3
  have ho0d := ho0'.drawn hd3
  go_wp2_with fail
  refine (markI v1 zs _ 1 (by omega) (by omega) _ ho1' hz).mono ?_; rintro e w4 ⟨rfl, hom, hg4⟩
  have ho0m := ho0d.kept hg4 hne
  go_wp2_with fail
  refine (heldI v1 zs.length _ 1 (by omega) (by omega) _ hom hz).mono ?_; rintro e w5 ⟨rfl, rfl⟩
  have s3 : w3.heap.size = w2.heap.size := by obtain ⟨_, rfl⟩ := hd3; rfl
  have s4 := hg4.size
  have b4 : Below w.heap.size w w4 := ((hb1.trans (hb2.mono s1)).trans (hd3.below _)).grown hg4 (by omega) (fun q hq => by have := (ho1.lt q hq).1; omega)
  have SZ := Lib.hid (show w.heap.size ≤ w4.heap.size by omega)
  clear s1 s2 s3 s4 hb1 hb2 hd3 hg4 ho0 ho1 ho0' ho0d ho1' hne
  go_wp2_with fail
  refine (H2.out _).mono ?_; rintro e w6 ⟨v2, rfl, ho2, hb6⟩
  have ho0n := OwnsI.below ho0m hb6 (Nat.le_refl _)
  have homn := OwnsI.below hom hb6 (Nat.le_refl _)
  have b6 := b4.trans (hb6.mono SZ.out)
  clear hb6 b4 ho0m hom
  go_wp2_with fail
  refine (eqI v2 v0 zs _ _ _ ho2 ho0n hz).mono ?_; rintro e w7 ⟨rfl, hd7⟩
  have homd := homn.drawn hd7
  have b7 := b6.trans (hd7.below _)
  clear hd7 b6 homn ho2 ho0n
  go_wp2_with fail
  refine (heldI v1 zs.length _ 1 (by omega) (by omega) _ homd hz).mono ?_; rintro e w8 ⟨rfl, rfl⟩
  go_wp2
  go_ret
  exact ⟨rfl, b7⟩

theorem walk (a0 : ByteArray) (w : World) (w0 : a0.size ≤ maxLen) :
    Calls Try.prog 5 #[.string a0] w fun e w' => e = .returned (.bool true) ∧ Below w.heap.size w w' := by
  by_cases h0 : 1048576 < a0.size
  · go_enter Try.func5, Try.ntmps5
    go_wp2
    go_ret
    exact ⟨rfl, Below.refl _ _⟩
  obtain ⟨zs, c, hz, hS, hI⟩ := saidPeriodsOf a0 w0
  exact walk_of a0 w h0 zs c hz hS hI
end Go.Proofs.Ytiibadmijhbioab.fnExactPeriodsOf
