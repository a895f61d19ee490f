/-
  The walk of FnExactCompareWords: it returns true at every two strings.
-/
import Derived.Test.YtiibadmijhbioabCompare
namespace Go.Proofs.Ytiibadmijhbioab.fnExactCompareWords
open Go.RowKit Wd

theorem walk_of (u v : ByteArray) (w : World) (hu : ¬ 1048576 < u.size) (hv : ¬ 1048576 < v.size) (a b : Int)
    (h1 : ∀ w, Calls Try.prog 15 #[.string u, .string v] w fun e w' => e = .returned (.tuple #[.int .i64 a, .int .i64 b]) ∧ w = w')
    (h2 : ∀ w, Calls Try.prog 16 #[.string u, .string v] w fun e w' => e = .returned (.tuple #[.int .i64 a, .int .i64 b]) ∧ w = w') :
    Calls Try.prog 3 #[.string u, .string v] w fun e w' => e = .returned (.bool true) ∧ Below w.heap.size w w' := by
  have H1 := Lib.hid h1
  have H2 := Lib.hid h2
  clear h1 h2
  go_enter Try.func3, Try.ntmps3
  go_wp2_with fail
  refine (H1.out _).mono ?_; rintro e w1 ⟨rfl, rfl⟩
  go_wp2_with fail
  refine (H2.out _).mono ?_; rintro e w2 ⟨rfl, rfl⟩
  go_wp2
  go_ret
  exact ⟨rfl, Below.refl _ _⟩

theorem walk (a0 : ByteArray) (a1 : ByteArray) (w : World) (w0 : a0.size ≤ maxLen) (w1 : a1.size ≤ maxLen) :
    Calls Try.prog 3 #[.string a0, .string a1] w fun e w' => e = .returned (.bool true) ∧ Below w.heap.size w w' := by
  by_cases hu : 1048576 < a0.size
  · go_enter Try.func3, Try.ntmps3
    go_wp2
    go_ret
    exact ⟨rfl, Below.refl _ _⟩
  by_cases hv : 1048576 < a1.size
  · go_enter Try.func3, Try.ntmps3
    go_wp2
    go_ret
    exact ⟨rfl, Below.refl _ _⟩
  cases h : okL a0.data.toList
  · exact walk_of _ _ _ hu hv _ _ (fun _ => specCompareW_bad _ _ _ w0 w1 (.inl h)) (fun _ => implCompareW_bad _ _ _ w0 w1 (.inl h))
  cases h' : okL a1.data.toList
  · exact walk_of _ _ _ hu hv _ _ (fun _ => specCompareW_bad _ _ _ w0 w1 (.inr ⟨h, h'⟩)) (fun _ => implCompareW_bad _ _ _ w0 w1 (.inr ⟨h, h'⟩))
  exact walk_of _ _ _ hu hv _ _ (fun _ => specCompareW_ok _ _ _ w0 w1 h h') (fun _ => implCompareW_ok _ _ _ w0 w1 h h')
end Go.Proofs.Ytiibadmijhbioab.fnExactCompareWords
