/-
  The walk of FnExactRootOf: it returns true at every string.
-/
import Derived.Test.YtiibadmijhbioabRoot
namespace Go.Proofs.Ytiibadmijhbioab.fnExactRootOf
open Go.RowKit Wd
set_option linter.unusedVariables false

theorem specRoot_bad (s : ByteArray) (w : World) (hs : s.size ≤ maxLen) (h : okL s.data.toList = false) :
    Calls Try.prog 24 #[.string s] w fun e w' => e = .returned (.tuple #[.string ⟨#[]⟩, .int .i64 0, .int .i64 1]) ∧ Below w.heap.size w w' := by
  have c1 := specOk s w hs
  rw [h] at c1
  have C1 := Lib.hid c1
  clear c1 h
  go_enter Try.func24, Try.ntmps24
  go_wp2_with (go_at_call 50; refine C1.out.mono ?_; rintro e w' ⟨rfl, rfl⟩)
  go_ret3
  exact ⟨rfl, Below.refl _ _⟩
theorem specRoot_empty (s : ByteArray) (w : World) (hs : s.size ≤ maxLen) (h : okL s.data.toList = true) (h0 : s.size = 0) :
    Calls Try.prog 24 #[.string s] w fun e w' => e = .returned (.tuple #[.string ⟨#[]⟩, .int .i64 0, .int .i64 4]) ∧ Below w.heap.size w w' := by
  have c1 := specOk s w hs
  rw [h] at c1
  have C1 := Lib.hid c1
  have h3 : ((s.size : Int) == 0) = true := by rw [beq_iff_eq]; omega
  clear c1 h h0
  go_enter Try.func24, Try.ntmps24
  go_wp2_with (go_at_call 50; refine C1.out.mono ?_; rintro e w' ⟨rfl, rfl⟩)
  go_ret3
  exact ⟨rfl, Below.refl _ _⟩

theorem implRoot_bad (s : ByteArray) (w : World) (hs : s.size ≤ maxLen) (h : okL s.data.toList = false) :
    Calls Try.prog 25 #[.string s] w fun e w' => e = .returned (.tuple #[.string ⟨#[]⟩, .int .i64 0, .int .i64 1]) ∧ Below w.heap.size w w' := by
  have c1 := implOk s w hs
  rw [h] at c1
  have C1 := Lib.hid c1
  clear c1 h
  go_enter Try.func25, Try.ntmps25
  go_wp2_with (go_at_call 52; refine C1.out.mono ?_; rintro e w' ⟨rfl, rfl⟩)
  go_ret3
  exact ⟨rfl, Below.refl _ _⟩
theorem implRoot_empty (s : ByteArray) (w : World) (hs : s.size ≤ maxLen) (h : okL s.data.toList = true) (h0 : s.size = 0) :
    Calls Try.prog 25 #[.string s] w fun e w' => e = .returned (.tuple #[.string ⟨#[]⟩, .int .i64 0, .int .i64 4]) ∧ Below w.heap.size w w' := by
  have c1 := implOk s w hs
  rw [h] at c1
  have C1 := Lib.hid c1
  have h3 : s = ⟨#[]⟩ := by
    have : s.data = #[] := Array.eq_empty_of_size_eq_zero h0
    cases s; simp at this; rw [this]
  subst h3
  clear c1 h h0
  go_enter Try.func25, Try.ntmps25
  go_wp2_with (go_at_call 52; refine C1.out.mono ?_; rintro e w' ⟨rfl, rfl⟩)
  go_ret3
  exact ⟨rfl, Below.refl _ _⟩

theorem walk_of (u : ByteArray) (w : World) (hu : ¬ 1048576 < u.size) (a : ByteArray) (b c : Int)
    (h1 : ∀ w, Calls Try.prog 24 #[.string u] w fun e w' => e = .returned (.tuple #[.string a, .int .i64 b, .int .i64 c]) ∧ Below w.heap.size w w')
    (h2 : ∀ w, Calls Try.prog 25 #[.string u] w fun e w' => e = .returned (.tuple #[.string a, .int .i64 b, .int .i64 c]) ∧ Below w.heap.size w w') :
    Calls Try.prog 6 #[.string u] w fun e w' => e = .returned (.bool true) ∧ Below w.heap.size w w' := by
  have H1 := Lib.hid h1
  have H2 := Lib.hid h2
  clear h1 h2
  go_enter Try.func6, Try.ntmps6
  go_wp2_with fail
  refine (H1.out _).mono ?_; rintro e w1 ⟨rfl, hB1⟩
  go_wp2_with fail
  refine (H2.out _).mono ?_; rintro e w2 ⟨rfl, hB2⟩
  go_wp2
  go_ret
  exact ⟨rfl, hB1.trans (hB2.mono hB1.size)⟩

theorem walk (a0 : ByteArray) (w : World) (w0 : a0.size ≤ maxLen) :
    Calls Try.prog 6 #[.string a0] w fun e w' => e = .returned (.bool true) ∧ Below w.heap.size w w' := by
  by_cases hu : 1048576 < a0.size
  · go_enter Try.func6, Try.ntmps6
    go_wp2
    go_ret
    exact ⟨rfl, Below.refl _ _⟩
  cases h : okL a0.data.toList
  · exact walk_of _ _ hu _ _ _ (fun _ => specRoot_bad _ _ w0 h) (fun _ => implRoot_bad _ _ w0 h)
  by_cases h0 : a0.size = 0
  · exact walk_of _ _ hu _ _ _ (fun _ => specRoot_empty _ _ w0 h h0) (fun _ => implRoot_empty _ _ w0 h h0)
  · have hl := okL_len h
    simp at hl
    obtain ⟨p, hp⟩ := rt_exists (s := a0) (by omega)
    exact walk_of _ _ hu _ _ _ (fun _ => specRoot_ok _ p _ hl h (by omega) hp) (fun _ => implRoot_ok _ p _ hl h (by omega) hp)
end Go.Proofs.Ytiibadmijhbioab.fnExactRootOf
