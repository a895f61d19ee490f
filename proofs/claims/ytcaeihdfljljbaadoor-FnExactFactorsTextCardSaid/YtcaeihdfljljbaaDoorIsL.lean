/-
  Texts that are a letter; walks: impl.isLetter, spec.l05Letter at any text.
-/
import Derived.Test.YtcaeihdfljljbaaDoorKind
namespace Go.Proofs.YtcaeihdfljljbaaDoor
open Go.RowKit
open Wd
set_option linter.unusedVariables false
namespace Wd
/-- is the text a letter? -/
def isL (s : ByteArray) : Bool := decide (s.size = 1) && okL s.data.toList
/-- its number -/
def lNo (s : ByteArray) : Nat := (s.data.toList.headD 97).toNat - 97
theorem isL_byte {s : ByteArray} (h : isL s = true) : ∃ c : UInt8, s = ⟨#[c]⟩ ∧ 97 ≤ (c.toNat : Int) ∧ (c.toNat : Int) ≤ 100 ∧ lNo s = c.toNat - 97 := by
  unfold isL at h
  rw [Bool.and_eq_true, decide_eq_true_iff] at h
  obtain ⟨h1, h2⟩ := h
  obtain ⟨⟨l⟩⟩ := s
  match l, h1 with
  | [c], _ =>
    have h3 := of_lt (okL_at h2 (i := 0) (by simp))
    exact ⟨c, rfl, by simpa using h3.1, by simpa using h3.2, rfl⟩
theorem lNo_lt {s : ByteArray} (h : isL s = true) : lNo s < 4 := by
  obtain ⟨c, _, h1, h2, h3⟩ := isL_byte h
  omega
end Wd
theorem isLetter_all (s : ByteArray) (w : World) (hs : s.size ≤ maxLen) :
    Calls Tryd.prog 112 #[.string s] w fun e w' => e = .returned (.bool (isL s)) ∧ w = w' := by
  unfold maxLen at hs
  by_cases h1 : s.size = 1
  · exact (isLetter_any s (by omega) w).mono fun e w' he => he
  · have hz : ((s.size : Int) == 1) = false := by rw [beq_eq_false_iff_ne]; omega
    have H1 := Lib.hid h1
    clear h1
    go_enter Tryd.func112, Tryd.ntmps112
    go_wp2
    go_ret
    exact ⟨ret_bool (by unfold isL; simp [H1.out]), rfl⟩
theorem l05Letter_any (s : ByteArray) (w : World) (hs : s.size ≤ maxLen) :
    Calls Tryd.prog 90 #[.string s] w fun e w' => e = .returned (.bool (isL s)) ∧ w = w' := by
  have c1 := fun W => specOk s W hs
  have hx : isL s = (decide (s.size = 1) && okL s.data.toList) := rfl
  unfold maxLen at hs
  by_cases h1 : s.size = 1
  · have hz : ((s.size : Int) == 1) = true := by rw [beq_iff_eq]; omega
    generalize okL s.data.toList = b at c1 hx
    have HX := Lib.hid hx
    have C1 := Lib.hid c1
    have H1 := Lib.hid h1
    clear hx c1 h1
    go_enter Tryd.func90, Tryd.ntmps90
    go_wp2_with fail
    refine (C1.out _).mono ?_
    rintro e w' ⟨rfl, rfl⟩
    go_wp2_with fail
    go_ret
    exact ⟨ret_bool (by rw [HX.out]; simp [H1.out]), rfl⟩
  · have hz : ((s.size : Int) == 1) = false := by rw [beq_eq_false_iff_ne]; omega
    have HX := Lib.hid hx
    have H1 := Lib.hid h1
    clear hx c1 h1
    go_enter Tryd.func90, Tryd.ntmps90
    go_wp2_with fail
    go_ret
    exact ⟨ret_bool (by rw [HX.out]; simp [H1.out]), rfl⟩
end Go.Proofs.YtcaeihdfljljbaaDoor
