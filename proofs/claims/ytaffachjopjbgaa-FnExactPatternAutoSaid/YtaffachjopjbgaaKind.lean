/-
  Walks over one rule: impl.kindOf, what fits, spec.l02Rule; the laws' copies and comparisons of rules.
-/
import Derived.Test.YtaffachjopjbgaaBase
import Derived.Test.YtaffachjopjbgaaGramM
import Derived.Outline
namespace Go.Proofs.Ytaffachjopjbgaa
open Go.RowKit
open Wd
set_option linter.unusedVariables false

/-- a rule as a value -/
abbrev agg3 (x : Rl) : Value := .agg #[.string x.L, .int .i64 x.l, .int .i64 x.r]
theorem empty_list {L : ByteArray} (h : L.size = 0) : L.data.toList = [] := List.eq_nil_of_length_eq_zero (by simpa using h)
theorem empty_arr {L : ByteArray} (h : L.size = 0) : L = ⟨#[]⟩ := by
  have := empty_list h
  obtain ⟨⟨l⟩⟩ := L
  simp at this
  subst this; rfl
theorem full_list {L : ByteArray} (h : L.size ≠ 0) : L.toList.isEmpty = false := by
  rw [List.isEmpty_eq_false_iff]
  intro h0
  apply h
  have h1 : L.data.toList = [] := by rw [← h0, ByteArray.toList_eq]
  have := congrArg List.length h1
  simpa using this

theorem kind_pair (x : Rl) (h : x.L.size = 0) (w : World) :
    Calls Try.prog 156 #[agg3 x] w fun e w' => e = .returned (.iface 198 (agg3 x)) ∧ Below w.heap.size w w' := by
  obtain ⟨L, l, r⟩ := x
  simp only at h
  obtain rfl := empty_arr h
  clear h
  go_enter Try.func156, Try.ntmps156
  go_wp2
  go_ret
  exact ⟨rfl, (Below.refl _ _).alloc (Nat.le_refl _) _⟩
theorem kind_letter (x : Rl) (h : x.L.size ≠ 0) (w : World) :
    Calls Try.prog 156 #[agg3 x] w fun e w' => e = .returned (.iface 211 (agg3 x)) ∧ Below w.heap.size w w' := by
  obtain ⟨L, l, r⟩ := x
  simp only at h
  have h1 := full_list h
  clear h
  go_enter Try.func156, Try.ntmps156
  go_wp2
  go_ret
  exact ⟨rfl, (Below.refl _ _).alloc (Nat.le_refl _) _⟩

theorem pair_fits (x : Rl) (h : x.L.size = 0) (n : Nat) (w : World) :
    Calls Try.prog 254 #[agg3 x, .int .i64 n] w fun e w' => e = .returned (.bool (x.ok n)) ∧ Below w.heap.size w w' := by
  obtain ⟨L, l, r⟩ := x
  simp only at h
  obtain rfl := empty_arr h
  clear h
  go_enter Try.func254, Try.ntmps254
  go_wp2
  all_goals (go_ret; refine ⟨ret_bool ?_, (Below.refl _ _).alloc (Nat.le_refl _) _⟩; rw [Bool.eq_iff_iff, ok_pair rfl]; simp; omega)

theorem isLetter_any (L : ByteArray) (h : L.size ≠ 0) (w : World) :
    Calls Try.prog 165 #[.string L] w fun e w' => e = .returned (.bool (decide (L.size = 1) && okL L.data.toList)) ∧ w = w' := by
  by_cases h1 : L.size = 1
  · obtain ⟨c, hc⟩ : ∃ c, L.data.toList = [c] := by
      have : L.data.toList.length = 1 := by simpa using h1
      match hl : L.data.toList, this with
      | [c], _ => exact ⟨c, rfl⟩
    refine (implLetter L c w hc).mono fun e w' he => ⟨he.1.trans (ret_bool ?_), he.2⟩
    rw [hc]; simp [h1, okL]
  · have hz : ((L.size : Int) == 1) = false := by rw [beq_eq_false_iff_ne]; omega
    have H1 := Lib.hid h1
    clear h1
    go_enter Try.func165, Try.ntmps165
    go_wp2
    go_ret
    exact ⟨ret_bool (by simp [H1.out]), rfl⟩
theorem letter_fits (x : Rl) (h : x.L.size ≠ 0) (n : Nat) (w : World) :
    Calls Try.prog 256 #[agg3 x, .int .i64 n] w fun e w' => e = .returned (.bool (x.ok n)) ∧ Below w.heap.size w w' := by
  obtain ⟨L, l, r⟩ := x
  simp only at h
  have c1 := fun W => isLetter_any L h W
  have hx : Rl.ok ⟨L, l, r⟩ n = (decide (L.size = 1) && okL L.data.toList && (decide (l = 0) && decide (r = 0))) := by simp [Rl.ok, h]
  generalize (decide (L.size = 1) && okL L.data.toList) = b at c1 hx
  have HX := Lib.hid hx
  have C1 := Lib.hid c1
  clear h hx c1
  cases b
  all_goals
    go_enter Try.func256, Try.ntmps256
    go_wp2_with (go_at_call 165; refine (C1.out _).mono ?_; rintro e w' ⟨rfl, rfl⟩)
    all_goals (go_ret; refine ⟨ret_bool ?_, (Below.refl _ _).alloc (Nat.le_refl _) _⟩; rw [HX.out]; first | (simp; done) | (rw [Bool.eq_iff_iff]; simp; omega))

theorem in_any (n lo hi : Int) (w : World) :
    Calls Try.prog 80 #[.int .i64 n, .int .i64 lo, .int .i64 hi] w fun e w' => e = .returned (.bool (decide (lo ≤ n) && decide (n ≤ hi))) ∧ w = w' := by
  by_cases h1 : lo ≤ n
  · by_cases h2 : n ≤ hi
    · go_enter Try.func80, Try.ntmps80
      go_wp2
      go_ret
      exact ⟨ret_bool (by rw [Bool.eq_iff_iff]; simp; omega), rfl⟩
    · go_enter Try.func80, Try.ntmps80
      go_wp2
      go_ret
      exact ⟨ret_bool (by rw [Bool.eq_iff_iff]; simp; omega), rfl⟩
  · go_enter Try.func80, Try.ntmps80
    go_wp2
    go_ret
    exact ⟨ret_bool (by rw [Bool.eq_iff_iff]; simp; omega), rfl⟩
set_option maxRecDepth 100000 in
set_option maxHeartbeats 800000 in
/-- spec.l02Rule -/
theorem rule_any (x : Rl) (g o n : Nat) (w : World) (hs : x.L.size ≤ maxLen) (hn : n ≤ maxLen)
    (h0 : w.cell? ⟨g, o, none⟩ = some (.string x.L)) (h1 : w.cell? ⟨g, o + 1, none⟩ = some (.int .i64 x.l)) (h2 : w.cell? ⟨g, o + 2, none⟩ = some (.int .i64 x.r)) :
    Calls Try.prog 200 #[.pointer (some ⟨g, o, none⟩), .int .i64 n] w fun e w' => e = .returned (.bool (x.ok n)) ∧ w = w' := by
  unfold maxLen at hs hn
  by_cases h : x.L.size = 0
  · have he := empty_arr h
    have hx : x.ok n = (decide (0 ≤ x.l) && decide (x.l ≤ (n : Int) - 1) && (decide (0 ≤ x.r) && decide (x.r ≤ (n : Int) - 1))) := by
      rw [Bool.eq_iff_iff, ok_pair h]; simp; omega
    have c1 := fun W => in_any x.l 0 ((n : Int) - 1) W
    have c2 := fun W => in_any x.r 0 ((n : Int) - 1) W
    generalize (decide (0 ≤ x.l) && decide (x.l ≤ (n : Int) - 1)) = b1 at c1 hx
    generalize (decide (0 ≤ x.r) && decide (x.r ≤ (n : Int) - 1)) = b2 at c2 hx
    rw [he] at h0
    have HX := Lib.hid hx
    have C1 := Lib.hid c1
    have C2 := Lib.hid c2
    clear hx c1 c2 he h
    cases b1
    · go_enter Try.func200, Try.ntmps200
      go_wp2_with fail
      refine (C1.out _).mono ?_; rintro e w' ⟨rfl, rfl⟩
      go_wp2_with fail
      go_ret
      exact ⟨ret_bool (by rw [HX.out]; simp), rfl⟩
    · go_enter Try.func200, Try.ntmps200
      go_wp2_with fail
      refine (C1.out _).mono ?_; rintro e w' ⟨rfl, rfl⟩
      go_wp2_with fail
      refine (C2.out _).mono ?_; rintro e w' ⟨rfl, rfl⟩
      go_wp2_with fail
      go_ret
      exact ⟨ret_bool (by rw [HX.out]; simp), rfl⟩
  · have hx : x.ok n = (decide (x.L.size = 1) && okL x.L.data.toList && (decide (x.l = 0) && decide (x.r = 0))) := by simp [Rl.ok, h]
    have c1 := fun W => specOk x.L W (by unfold maxLen; omega)
    have h3 := full_list h
    generalize okL x.L.data.toList = b1 at c1 hx
    have HX := Lib.hid hx
    have C1 := Lib.hid c1
    clear hx c1 h
    by_cases h1 : x.L.size = 1
    · have h4 : ((x.L.size : Int) == 1) = true := by rw [beq_iff_eq]; omega
      have H4 := Lib.hid h1
      clear h1
      cases b1
      all_goals
        go_enter Try.func200, Try.ntmps200
        go_wp2_with (go_at_call 125; refine (C1.out _).mono ?_; rintro e w' ⟨rfl, rfl⟩)
        all_goals (go_ret; refine ⟨ret_bool ?_, rfl⟩; rw [HX.out]; have h5 := H4.out; first | (simp; done) | (rw [Bool.eq_iff_iff]; simp; omega))
    · have h4 : ((x.L.size : Int) == 1) = false := by rw [beq_eq_false_iff_ne]; omega
      have H4 := Lib.hid h1
      clear h1
      go_enter Try.func200, Try.ntmps200
      go_wp2_with fail
      go_ret
      exact ⟨ret_bool (by rw [HX.out]; simp [H4.out]), rfl⟩
end Go.Proofs.Ytaffachjopjbgaa
