/-
  The walk of FnExactCommonStart: it returns true at every two strings.
-/
import Derived.Test.YtiibadmijhbioaaCommon
namespace Go.Proofs.Ytiibadmijhbioaa.fnExactCommonStart
open Go.RowKit Wd

theorem walk_of (u v : ByteArray) (w : World) (hu : ¬ 1048576 < u.size) (hv : ¬ 1048576 < v.size) (a b : Int)
    (h1 : ∀ w, Calls Try.prog 42 #[.string u, .string v] w fun e w' => e = .returned (.tuple #[.int .i64 a, .int .i64 b]) ∧ Drawn w w')
    (h2 : ∀ w, Calls Try.prog 43 #[.string u, .string v] w fun e w' => e = .returned (.tuple #[.int .i64 a, .int .i64 b]) ∧ Drawn w w') :
    Calls Try.prog 14 #[.string u, .string v] w fun e w' => e = .returned (.bool true) ∧ Below w.heap.size w w' := by
  have H1 := Lib.hid h1
  have H2 := Lib.hid h2
  clear h1 h2
  go_enter Try.func14, Try.ntmps14
  go_wp2_with fail
  refine (H1.out _).mono ?_; rintro e w1 ⟨rfl, hD1⟩
  go_wp2_with fail
  refine (H2.out _).mono ?_; rintro e w2 ⟨rfl, hD2⟩
  go_wp2
  go_ret
  exact ⟨rfl, (hD1.trans hD2).below _⟩

theorem walk (a0 : ByteArray) (a1 : ByteArray) (w : World) (w0 : a0.size ≤ maxLen) (w1 : a1.size ≤ maxLen) :
    Calls Try.prog 14 #[.string a0, .string a1] w fun e w' => e = .returned (.bool true) ∧ Below w.heap.size w w' := by
  by_cases hu : 1048576 < a0.size
  · go_enter Try.func14, Try.ntmps14
    go_wp2
    go_ret
    exact ⟨rfl, Below.refl _ _⟩
  by_cases hv : 1048576 < a1.size
  · go_enter Try.func14, Try.ntmps14
    go_wp2
    go_ret
    exact ⟨rfl, Below.refl _ _⟩
  cases h : okL a0.data.toList
  · exact walk_of _ _ _ hu hv _ _ (fun _ => specCommon_bad1 _ _ _ w0 w1 h) (fun _ => implCommon_bad1 _ _ _ w0 w1 h)
  cases h' : okL a1.data.toList
  · exact walk_of _ _ _ hu hv _ _ (fun _ => specCommon_bad2 _ _ _ w0 w1 h h') (fun _ => implCommon_bad2 _ _ _ w0 w1 h h')
  exact walk_of _ _ _ hu hv _ _ (fun _ => specCommon_ok _ _ _ w0 w1 h h') (fun _ => implCommon_ok _ _ _ w0 w1 h h')
end Go.Proofs.Ytiibadmijhbioaa.fnExactCommonStart
