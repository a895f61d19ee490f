/-
  Stretches of a letter: the numbers; the walks of the letter's closure and of then.
-/
import Derived.Test.YtcaeihdfljljbaaFoM
import Derived.Test.YtcaeihdfljljbaaBlk
import Derived.Test.YtcaeihdfljljbaaGramSpec
import Derived.Test.YtcaeihdfljljbaaGPr
import Derived.Deep.MidRow
import Derived.Deep.WholeRow
namespace Go.Proofs.Ytcaeihdfljljbaa
open Go.RowKit
open Wd
set_option linter.unusedVariables false
namespace Wd
def one1 (d l : Nat) : Int := if d = l then 1 else 0
/-- the stretch of a letter: its length, its first run, its last one, the longest -/
def stF (l d : Nat) : List Int := [1, one1 d l, one1 d l, one1 d l]
def stJ (u v : List Int) : List Int := [u.getD 0 0 + v.getD 0 0, if u.getD 1 0 = u.getD 0 0 then u.getD 1 0 + v.getD 1 0 else u.getD 1 0, if v.getD 2 0 = v.getD 0 0 then v.getD 2 0 + u.getD 2 0 else v.getD 2 0, max (max (u.getD 3 0) (v.getD 3 0)) (u.getD 2 0 + v.getD 1 0)]
def stOk (n : Int) (u : List Int) : Prop := u.length = 4 ∧ u.getD 0 0 = n ∧ (0 ≤ u.getD 1 0 ∧ u.getD 1 0 ≤ n) ∧ (0 ≤ u.getD 2 0 ∧ u.getD 2 0 ≤ n) ∧ (0 ≤ u.getD 3 0 ∧ u.getD 3 0 ≤ n) ∧ (u.getD 1 0 ≤ u.getD 3 0 ∧ u.getD 2 0 ≤ u.getD 3 0 ∧ (u.getD 1 0 = u.getD 0 0 → u.getD 2 0 = u.getD 0 0) ∧ (u.getD 2 0 = u.getD 0 0 → u.getD 1 0 = u.getD 0 0))
theorem one1_bd (d l : Nat) : 0 ≤ one1 d l ∧ one1 d l ≤ 1 := by unfold one1; split <;> omega
theorem stOk_F (l d : Nat) (hd : d < 4) : stOk 1 (stF l d) := by
  have := one1_bd d l
  exact ⟨rfl, rfl, this, this, this, Int.le_refl _, Int.le_refl _, fun h => h, fun h => h⟩
theorem stOk_J0 (m n : Int) (u v : List Int) (hm : 0 ≤ m) (hn : 1 ≤ n) (hu : stOk m u) (hv : stOk n v) : stOk (m + n) (stJ u v) := by
  obtain ⟨_, a0, ⟨a1, a2⟩, ⟨a3, a4⟩, ⟨a5, a6⟩, a7, a8, a9, a10⟩ := hu
  obtain ⟨_, b0, ⟨b1, b2⟩, ⟨b3, b4⟩, ⟨b5, b6⟩, b7, b8, b9, b10⟩ := hv
  refine ⟨rfl, ?_, ?_, ?_, ?_, ?_⟩
  · show u.getD 0 0 + v.getD 0 0 = m + n; omega
  · show 0 ≤ (if u.getD 1 0 = u.getD 0 0 then u.getD 1 0 + v.getD 1 0 else u.getD 1 0) ∧ (if u.getD 1 0 = u.getD 0 0 then u.getD 1 0 + v.getD 1 0 else u.getD 1 0) ≤ m + n; split <;> omega
  · show 0 ≤ (if v.getD 2 0 = v.getD 0 0 then v.getD 2 0 + u.getD 2 0 else v.getD 2 0) ∧ (if v.getD 2 0 = v.getD 0 0 then v.getD 2 0 + u.getD 2 0 else v.getD 2 0) ≤ m + n; split <;> omega
  · show 0 ≤ max (max (u.getD 3 0) (v.getD 3 0)) (u.getD 2 0 + v.getD 1 0) ∧ max (max (u.getD 3 0) (v.getD 3 0)) (u.getD 2 0 + v.getD 1 0) ≤ m + n; omega
  · show (if u.getD 1 0 = u.getD 0 0 then u.getD 1 0 + v.getD 1 0 else u.getD 1 0) ≤ max (max (u.getD 3 0) (v.getD 3 0)) (u.getD 2 0 + v.getD 1 0) ∧ (if v.getD 2 0 = v.getD 0 0 then v.getD 2 0 + u.getD 2 0 else v.getD 2 0) ≤ max (max (u.getD 3 0) (v.getD 3 0)) (u.getD 2 0 + v.getD 1 0) ∧
      ((if u.getD 1 0 = u.getD 0 0 then u.getD 1 0 + v.getD 1 0 else u.getD 1 0) = u.getD 0 0 + v.getD 0 0 → (if v.getD 2 0 = v.getD 0 0 then v.getD 2 0 + u.getD 2 0 else v.getD 2 0) = u.getD 0 0 + v.getD 0 0) ∧
      ((if v.getD 2 0 = v.getD 0 0 then v.getD 2 0 + u.getD 2 0 else v.getD 2 0) = u.getD 0 0 + v.getD 0 0 → (if u.getD 1 0 = u.getD 0 0 then u.getD 1 0 + v.getD 1 0 else u.getD 1 0) = u.getD 0 0 + v.getD 0 0)
    by_cases c1 : u.getD 1 0 = u.getD 0 0
    · have d1 := a9 c1
      by_cases c2 : v.getD 2 0 = v.getD 0 0
      · have d2 := b10 c2
        rw [if_pos c1, if_pos c2]
        omega
      · have d2 : ¬ v.getD 1 0 = v.getD 0 0 := fun e => c2 (b9 e)
        rw [if_pos c1, if_neg c2]
        omega
    · have d1 : ¬ u.getD 2 0 = u.getD 0 0 := fun e => c1 (a10 e)
      by_cases c2 : v.getD 2 0 = v.getD 0 0
      · have d2 := b10 c2
        rw [if_neg c1, if_pos c2]
        omega
      · have d2 : ¬ v.getD 1 0 = v.getD 0 0 := fun e => c2 (b9 e)
        rw [if_neg c1, if_neg c2]
        omega
/-- the stretch of a rule's word -/
def stAt (l : Nat) (gs : List Rl) (k : Nat) : List Int := valAt (stF l) stJ gs k
theorem stAt_ok {l : Nat} {gs : List Rl} (hok : gOk gs = true) {k : Nat} (hk : k < gs.length) : stOk ((lens gs).getD k 0) (stAt l gs k) := valAt_all hok stOk (stOk_F l) (fun m n u v hm => stOk_J0 m n u v (by omega)) (k + 1) k (by omega) hk
end Wd
abbrev ag4s (a b c d : Int) : Value := .agg #[.int .i64 a, .int .i64 b, .int .i64 c, .int .i64 d]
theorem ag4s_eq {a b c d a' b' c' d' : Int} (h0 : a = a') (h1 : b = b') (h2 : c = c') (h3 : d = d') : Ending.returned (ag4s a b c d) = Ending.returned (ag4s a' b' c' d') := by rw [h0, h1, h2, h3]
theorem oneWhere_any (b : Bool) (w : World) : Calls Try.prog 70 #[.bool b] w fun e w' => e = .returned (.int .i64 (if b then 1 else 0)) ∧ w = w' := by
  cases b
  · go_enter Try.func70, Try.ntmps70
    go_wp2
    go_ret
    exact ⟨rfl, rfl⟩
  · go_enter Try.func70, Try.ntmps70
    go_wp2
    go_ret
    exact ⟨rfl, rfl⟩
set_option maxRecDepth 100000 in
set_option maxHeartbeats 1600000 in
/-- a letter's stretch -/
theorem stLetter_any (d l bl : Nat) (w : World) (h : w.cell? ⟨bl, 0, none⟩ = some (.int .i64 l)) :
    Calls Try.prog 69 #[.int .i64 (d : Int), .pointer (some ⟨bl, 0, none⟩)] w fun e w' => e = .returned (ag4s 1 (one1 d l) (one1 d l) (one1 d l)) ∧ Below w.heap.size w w' := by
  have hb := (Below.refl _ w).alloc (Nat.le_refl _) (.cells #[.int .i64 0, .int .i64 0, .int .i64 0, .int .i64 0] 115)
  have e1 := (hb.cell (p := ⟨bl, 0, none⟩) (lt_of_cell h)).trans h
  have HB := Lib.hid hb
  have hx : decide ((d : Int) = (l : Int)) = decide (d = l) := by
    by_cases e : d = l
    · rw [decide_eq_true e, decide_eq_true (by omega)]
    · rw [decide_eq_false e, decide_eq_false (by omega)]
  have hx2 : (((d : Int)) == (l : Int)) = decide (d = l) := by rw [← hx]; rfl
  obtain ⟨b, hbe⟩ : ∃ b, b = decide (d = l) := ⟨_, rfl⟩
  rw [← hbe] at hx hx2
  have ho : one1 d l = if b then 1 else 0 := by unfold one1; rw [hbe]; by_cases e : d = l <;> simp [e]
  rw [ho]
  have H1 := Lib.hid (oneWhere_any b)
  clear hb h ho hbe
  go_enter Try.func69, Try.ntmps69
  go_wp2_with fail
  refine (H1.out _).mono ?_
  rintro e w1 ⟨rfl, rfl⟩
  go_wp2_with fail
  all_goals first
    | exact bodyPost_ret (v := ag4s 1 1 1 1) (by simp [results, Try.results69, go_sem]) rfl ⟨rfl, (Below.refl _ w).alloc (Nat.le_refl _) _⟩
    | exact bodyPost_ret (v := ag4s 1 0 0 0) (by simp [results, Try.results69, go_sem]) rfl ⟨rfl, (Below.refl _ w).alloc (Nat.le_refl _) _⟩
set_option maxRecDepth 100000 in
set_option maxHeartbeats 3200000 in
/-- two stretches together -/
theorem stThen_any (x0 x1 x2 x3 y0 y1 y2 y3 : Int) (w : World) (h0 : 0 ≤ x0 ∧ x0 ≤ 1000000000000000) (h1 : 0 ≤ x1 ∧ x1 ≤ 1000000000000000) (h2 : 0 ≤ x2 ∧ x2 ≤ 1000000000000000) (h3 : 0 ≤ x3 ∧ x3 ≤ 1000000000000000)
    (g0 : 0 ≤ y0 ∧ y0 ≤ 1000000000000000) (g1 : 0 ≤ y1 ∧ y1 ≤ 1000000000000000) (g2 : 0 ≤ y2 ∧ y2 ≤ 1000000000000000) (g3 : 0 ≤ y3 ∧ y3 ≤ 1000000000000000) :
    Calls Try.prog 71 #[ag4s x0 x1 x2 x3, ag4s y0 y1 y2 y3] w fun e w' => e = .returned (ag4s (x0 + y0) (if x1 = x0 then x1 + y1 else x1) (if y2 = y0 then y2 + x2 else y2) (max (max x3 y3) (x2 + y1))) ∧ Below w.heap.size w w' := by
  by_cases c1 : x1 = x0
  · by_cases c2 : y2 = y0
    · rw [if_pos c1, if_pos c2]
      have d1 : (x1 == x0) = true := by rw [beq_iff_eq]; exact c1
      have d2 : (y2 == y0) = true := by rw [beq_iff_eq]; exact c2
      go_enter Try.func71, Try.ntmps71
      go_wp2
      all_goals exact bodyPost_ret (v := ag4s (x0 + y0) (x1 + y1) (y2 + x2) (max (max x3 y3) (x2 + y1))) (by simp [results, Try.results71, go_sem] <;> omega) rfl ⟨ag4s_eq (by omega) (by omega) (by omega) (by omega), ((((Below.refl _ w).alloc (Nat.le_refl _) _).alloc (by simp) _).alloc (by simp; omega) _).alloc (by simp; omega) _⟩
    · rw [if_pos c1, if_neg c2]
      have d1 : (x1 == x0) = true := by rw [beq_iff_eq]; exact c1
      have d2 : (y2 == y0) = false := by rw [beq_eq_false_iff_ne]; exact c2
      go_enter Try.func71, Try.ntmps71
      go_wp2
      all_goals exact bodyPost_ret (v := ag4s (x0 + y0) (x1 + y1) (y2) (max (max x3 y3) (x2 + y1))) (by simp [results, Try.results71, go_sem] <;> omega) rfl ⟨ag4s_eq (by omega) (by omega) (by omega) (by omega), ((((Below.refl _ w).alloc (Nat.le_refl _) _).alloc (by simp) _).alloc (by simp; omega) _).alloc (by simp; omega) _⟩
  · by_cases c2 : y2 = y0
    · rw [if_neg c1, if_pos c2]
      have d1 : (x1 == x0) = false := by rw [beq_eq_false_iff_ne]; exact c1
      have d2 : (y2 == y0) = true := by rw [beq_iff_eq]; exact c2
      go_enter Try.func71, Try.ntmps71
      go_wp2
      all_goals exact bodyPost_ret (v := ag4s (x0 + y0) (x1) (y2 + x2) (max (max x3 y3) (x2 + y1))) (by simp [results, Try.results71, go_sem] <;> omega) rfl ⟨ag4s_eq (by omega) (by omega) (by omega) (by omega), ((((Below.refl _ w).alloc (Nat.le_refl _) _).alloc (by simp) _).alloc (by simp; omega) _).alloc (by simp; omega) _⟩
    · rw [if_neg c1, if_neg c2]
      have d1 : (x1 == x0) = false := by rw [beq_eq_false_iff_ne]; exact c1
      have d2 : (y2 == y0) = false := by rw [beq_eq_false_iff_ne]; exact c2
      go_enter Try.func71, Try.ntmps71
      go_wp2
      all_goals exact bodyPost_ret (v := ag4s (x0 + y0) (x1) (y2) (max (max x3 y3) (x2 + y1))) (by simp [results, Try.results71, go_sem] <;> omega) rfl ⟨ag4s_eq (by omega) (by omega) (by omega) (by omega), ((((Below.refl _ w).alloc (Nat.le_refl _) _).alloc (by simp) _).alloc (by simp; omega) _).alloc (by simp; omega) _⟩
end Go.Proofs.Ytcaeihdfljljbaa
