/-
  Walks: spec.l01Turn, spec.TurnWord.
-/
import Derived.Test.YtiibadmijhbioaaBase
namespace Go.Proofs.Ytiibadmijhbioaa
open Go.RowKit
open Wd
set_option linter.unusedVariables false

set_option maxHeartbeats 400000 in
theorem specTurn (s : ByteArray) (w : World) (hs : s.size ≤ 1000000) :
    Calls Try.prog 59 #[.string s] w fun e w' => e = .returned (.string ⟨s.data.toList.reverse.toArray⟩) ∧ Below w.heap.size w w' := by
  obtain ⟨i0, hi, hz0, hz1, hz2⟩ := info_parts Try.info_u8
  go_enter Try.func59, Try.ntmps59
  go_wp2
  go_loopw [3, 4] (fun v i wr => ∃ j k : Nat, j + k = s.size ∧ i = .int .i64 ((k : Int) - 1) ∧ wr.ownsRow w.heap.size 5 1 v j (bv (s.data.toList.reverse.take j)) ∧ Below w.heap.size w wr)
    (fun _ i _ => (intOf i + 1).toNat)
  case atStart => exact ⟨0, s.size, by omega, rfl, World.ownsRow_lit w #[] 0 (Nat.le_refl _) (by decide) rfl, (Below.refl _ _).alloc (Nat.le_refl _) _⟩
  case round =>
    obtain ⟨j, k, hj, rfl, hown, hB⟩ := hrel
    cases k with
    | succ m =>
      have hm : m < s.size := by omega
      rw [show ((m + 1 : Nat) : Int) - 1 = m from by omega]
      have hsz := hB.size
      have HJ := Lib.hid hj
      clear hj
      go_wp2_with (first | (at_builtin; refine wpList_append_own _ rfl _ _ 22 rfl w.heap.size 5 i0 (.int .u8 0) 1 1 Try.underlying22 hi hz0 hz1 hz2 rfl (by decide) _ _ _ rfl (hown.alloc _) ⟨wr.heap.size, 0, none⟩ 1 1 [.int .u8 s[m].toNat] rfl rfl ?c1 ?c2 ?c3 ?c4 ?c5 ?_))
      case c1 =>
        intro x u hx
        match x, hx with
        | 0, hx => simp at hx; subst hx; simp [Addr.add]
      case c2 => intro u hu; simp at hu; subst hu; rfl
      case c3 => unfold maxLen; have := HJ.out; omega
      case c4 => have := HJ.out; omega
      case c5 => simp; omega
      · intro v' w1 hown' hgrow _
        have hb1 : Below w.heap.size w w1 := (hB.alloc hsz _).grown hgrow (by simp; omega) (fun q hq => (hown.lt q hq).1)
        have hr := rev_snoc s j m HJ.out
        have hown1 : w1.ownsRow w.heap.size 5 1 v' (j + 1) (bv (s.data.toList.reverse.take (j + 1))) := by rw [hr, bv_app, bv_one]; exact hown'
        clear hown' hgrow hown hB hr
        go_wp2
        go_roundw
        case rel => exact ⟨j + 1, m, by have := HJ.out; omega, rfl, hown1, hb1⟩
        case measure => simp [intOf]
    | zero =>
      have hconv := conv_owned (P := Try.prog) (src := 22) (dst := 9) hown Try.underlying22 Try.underlying5 Try.underlying9
      have hj' : s.data.toList.reverse.take j = s.data.toList.reverse := List.take_of_length_le (by simp; omega)
      rw [hj'] at hconv
      clear hown hj' hj
      go_wp2
      go_ret
      exact ⟨rfl, hB⟩

end Go.Proofs.Ytiibadmijhbioaa
