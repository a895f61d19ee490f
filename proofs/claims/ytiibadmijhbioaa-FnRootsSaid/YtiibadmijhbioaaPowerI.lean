/-
  Walks: impl.PowerWord (strings.Repeat by its contract); then FnExactPowerWord.
-/
import Derived.Test.YtiibadmijhbioaaPower
import Derived.Outline
namespace Go.Proofs.Ytiibadmijhbioaa
open Go.RowKit
open Wd
set_option linter.unusedVariables false

theorem toList_nil {s : ByteArray} (h : s.size = 0) : s = ⟨#[]⟩ := by
  have : s.data = #[] := Array.eq_empty_of_size_eq_zero h
  cases s; simp at this; rw [this]

theorem toList_cons {s : ByteArray} (h : 0 < s.size) : s.toList.isEmpty = false := by
  rw [ByteArray.toList_eq]
  cases hl : s.data.toList with
  | nil => have : s.data.size = 0 := by simpa using congrArg List.length hl
           exact absurd (show s.size = 0 from this) (by omega)
  | cons _ _ => rfl

theorem implPower (s : ByteArray) (t : Int) (r : ByteArray) (c : Int) (w : World) (hs : s.size ≤ maxLen) (ht : (Lit.int .i64 t).wf = true) (h : PowSaid s t r c) :
    Calls Try.prog 20 #[.string s, .int .i64 t] w fun e w' => e = .returned (.tuple #[.string r, .int .i64 c]) ∧ Below w.heap.size w w' := by
  have c1 := implOk s w hs
  rcases h with ⟨h, rfl, rfl⟩ | ⟨h, h1, rfl, rfl⟩ | ⟨h, h1, h2, rfl, rfl⟩ | ⟨h, h1, h2, h3, rfl, rfl⟩ | ⟨h, h1, k, rfl, h2, rfl, rfl⟩
  · rw [h] at c1
    have C1 := Lib.hid c1
    clear c1 h
    go_enter Try.func20, Try.ntmps20
    go_wp2_with (go_at_call 39; refine C1.out.mono ?_; rintro e w' ⟨rfl, rfl⟩)
    go_ret2
    exact ⟨rfl, Below.refl _ _⟩
  · rw [h] at c1
    have C1 := Lib.hid c1
    clear c1 h
    go_enter Try.func20, Try.ntmps20
    go_wp2_with (go_at_call 39; refine C1.out.mono ?_; rintro e w' ⟨rfl, rfl⟩)
    go_ret2
    exact ⟨rfl, Below.refl _ _⟩
  · rw [h] at c1
    have C1 := Lib.hid c1
    clear c1 h
    obtain rfl := toList_nil h1
    have h3 : ¬ t < 0 := by omega
    clear h1
    go_enter Try.func20, Try.ntmps20
    go_wp2_with (go_at_call 39; refine C1.out.mono ?_; rintro e w' ⟨rfl, rfl⟩)
    go_ret2
    exact ⟨rfl, Below.refl _ _⟩
  · have hl := okL_len h
    simp at hl
    rw [h] at c1
    have C1 := Lib.hid c1
    have h5 : ¬ t < 0 := by omega
    obtain ⟨k, rfl⟩ := Int.eq_ofNat_of_zero_le h2
    have hq := not_fits_of h1 (c := k) (by rw [← Int.natCast_mul] at h3; omega)
    have he := toList_cons h1
    clear c1 h h3
    go_enter Try.func20, Try.ntmps20
    go_wp2_with (go_at_call 39; refine C1.out.mono ?_; rintro e w' ⟨rfl, rfl⟩)
    go_ret2
    exact ⟨rfl, Below.refl _ _⟩
  · have hl := okL_len h
    simp at hl
    rw [h] at c1
    have C1 := Lib.hid c1
    have hk2 : k ≤ 2000 := Nat.le_trans (Nat.le_mul_of_pos_left k h1) h2
    have c2 := Try.strings_Repeat s k w (by omega) (by omega)
    have C2 := Lib.hid c2
    have h5 : ¬ (k : Int) < 0 := by omega
    have hq := fits_of h1 h2
    have he := toList_cons h1
    clear c1 h c2 h2
    go_enter Try.func20, Try.ntmps20
    go_wp2_with (first | (go_at_call 39; refine C1.out.mono ?_; rintro e w' ⟨rfl, rfl⟩) | (go_at_call 47; refine C2.out.mono ?_; rintro e w' ⟨rfl, hB⟩))
    go_ret2
    exact ⟨rfl, hB⟩
end Go.Proofs.Ytiibadmijhbioaa
