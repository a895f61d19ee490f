/-
  The walk of FnExactFactorCount: it returns true at every string and number.
-/
import Derived.Test.YtiibadmijhbioabFactor
namespace Go.Proofs.Ytiibadmijhbioab.fnExactFactorCount
open Go.RowKit Wd
set_option linter.unusedVariables false

theorem specFactor_bad (s : ByteArray) (t : Int) (w : World) (hs : s.size ≤ maxLen) (h : okL s.data.toList = false) :
    Calls Try.prog 30 #[.string s, .int .i64 t] w fun e w' => e = .returned (.tuple #[.int .i64 0, .int .i64 1]) ∧ Below w.heap.size w w' := by
  have c1 := specOk s w hs
  rw [h] at c1
  have C1 := Lib.hid c1
  clear c1 h
  go_enter Try.func30, Try.ntmps30
  go_wp2_with (go_at_call 50; refine C1.out.mono ?_; rintro e w' ⟨rfl, rfl⟩)
  go_ret2
  exact ⟨rfl, Below.refl _ _⟩
theorem specFactor_range (s : ByteArray) (t : Int) (w : World) (hs : s.size ≤ 2000) (h : okL s.data.toList = true) (ht : t < 0 ∨ (s.size : Int) < t) :
    Calls Try.prog 30 #[.string s, .int .i64 t] w fun e w' => e = .returned (.tuple #[.int .i64 0, .int .i64 2]) ∧ Below w.heap.size w w' := by
  have c1 := specOk s w (by unfold maxLen; omega)
  rw [h] at c1
  have C1 := Lib.hid c1
  clear c1 h
  rcases ht with ht | ht
  · skip
    have t1 : ¬ (0 : Int) ≤ t := by omega
    go_enter Try.func30, Try.ntmps30
    go_wp2_with (first | (go_at_call 50; refine C1.out.mono ?_; rintro e w' ⟨rfl, rfl⟩) | go_in)
    go_ret2
    exact ⟨rfl, Below.refl _ _⟩
  · skip
    have t1 : (0 : Int) ≤ t := by omega
    have t2 : decide (t ≤ (s.size : Int)) = false := by simp; omega
    go_enter Try.func30, Try.ntmps30
    go_wp2_with (first | (go_at_call 50; refine C1.out.mono ?_; rintro e w' ⟨rfl, rfl⟩) | go_in)
    go_ret2
    exact ⟨rfl, Below.refl _ _⟩

theorem implFactor_bad (s : ByteArray) (t : Int) (w : World) (hs : s.size ≤ maxLen) (h : okL s.data.toList = false) :
    Calls Try.prog 31 #[.string s, .int .i64 t] w fun e w' => e = .returned (.tuple #[.int .i64 0, .int .i64 1]) ∧ Below w.heap.size w w' := by
  have c1 := implOk s w hs
  rw [h] at c1
  have C1 := Lib.hid c1
  clear c1 h
  go_enter Try.func31, Try.ntmps31
  go_wp2_with (go_at_call 52; refine C1.out.mono ?_; rintro e w' ⟨rfl, rfl⟩)
  go_ret2
  exact ⟨rfl, Below.refl _ _⟩
theorem implFactor_range (s : ByteArray) (t : Int) (w : World) (hs : s.size ≤ 2000) (h : okL s.data.toList = true) (ht : t < 0 ∨ (s.size : Int) < t) :
    Calls Try.prog 31 #[.string s, .int .i64 t] w fun e w' => e = .returned (.tuple #[.int .i64 0, .int .i64 2]) ∧ Below w.heap.size w w' := by
  have c1 := implOk s w (by unfold maxLen; omega)
  rw [h] at c1
  have C1 := Lib.hid c1
  clear c1 h
  rcases ht with ht | ht
  · skip
    go_enter Try.func31, Try.ntmps31
    go_wp2_with (first | (go_at_call 52; refine C1.out.mono ?_; rintro e w' ⟨rfl, rfl⟩) | go_in)
    go_ret2
    exact ⟨rfl, Below.refl _ _⟩
  · skip
    have t1 : decide (t < 0) = false := by simp; omega
    go_enter Try.func31, Try.ntmps31
    go_wp2_with (first | (go_at_call 52; refine C1.out.mono ?_; rintro e w' ⟨rfl, rfl⟩) | go_in)
    go_ret2
    exact ⟨rfl, Below.refl _ _⟩

theorem walk_of (u : ByteArray) (t : Int) (w : World) (hu : ¬ 1048576 < u.size) (a b : Int)
    (h1 : ∀ w, Calls Try.prog 30 #[.string u, .int .i64 t] w fun e w' => e = .returned (.tuple #[.int .i64 a, .int .i64 b]) ∧ Below w.heap.size w w')
    (h2 : ∀ w, Calls Try.prog 31 #[.string u, .int .i64 t] w fun e w' => e = .returned (.tuple #[.int .i64 a, .int .i64 b]) ∧ Below w.heap.size w w') :
    Calls Try.prog 9 #[.string u, .int .i64 t] w fun e w' => e = .returned (.bool true) ∧ Below w.heap.size w w' := by
  have H1 := Lib.hid h1
  have H2 := Lib.hid h2
  clear h1 h2
  go_enter Try.func9, Try.ntmps9
  go_wp2_with fail
  refine (H1.out _).mono ?_; rintro e w1 ⟨rfl, hB1⟩
  go_wp2_with fail
  refine (H2.out _).mono ?_; rintro e w2 ⟨rfl, hB2⟩
  go_wp2
  go_ret
  exact ⟨rfl, hB1.trans (hB2.mono hB1.size)⟩

theorem walk (a0 : ByteArray) (a1 : Int) (w : World) (w0 : a0.size ≤ maxLen) (w1 : (Lit.int .i64 a1).wf = true) :
    Calls Try.prog 9 #[.string a0, .int .i64 a1] w fun e w' => e = .returned (.bool true) ∧ Below w.heap.size w w' := by
  by_cases hu : 1048576 < a0.size
  · go_enter Try.func9, Try.ntmps9
    go_wp2
    go_ret
    exact ⟨rfl, Below.refl _ _⟩
  cases h : okL a0.data.toList
  · exact walk_of _ _ _ hu _ _ (fun _ => specFactor_bad _ _ _ w0 h) (fun _ => implFactor_bad _ _ _ w0 h)
  have hl := okL_len h
  simp at hl
  by_cases ht : a1 < 0 ∨ (a0.size : Int) < a1
  · exact walk_of _ _ _ hu _ _ (fun _ => specFactor_range _ _ _ hl h ht) (fun _ => implFactor_range _ _ _ hl h ht)
  · obtain ⟨L, rfl⟩ := Int.eq_ofNat_of_zero_le (show 0 ≤ a1 by omega)
    exact walk_of _ _ _ hu _ _ (fun _ => specFactor_ok _ L _ hl h (by omega)) (fun _ => implFactor_ok _ L _ hl h (by omega))
end Go.Proofs.Ytiibadmijhbioab.fnExactFactorCount
