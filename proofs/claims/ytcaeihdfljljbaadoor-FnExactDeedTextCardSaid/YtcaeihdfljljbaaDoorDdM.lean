/-
  Deeds, as numbers: which are valid. Their blocks; spec.l00In; spec.l08Fields; spec.ValidDeed.
-/
import Derived.Test.YtcaeihdfljljbaaDoorBase
import Derived.Lib.Hide
namespace Go.Proofs.YtcaeihdfljljbaaDoor
open Go.RowKit
open Wd
set_option linter.unusedVariables false
namespace Wd
/-- how many numbers the text of a kind has -/
def ddN (k : Int) : Int := if k = 1 then 2 else if k = 4 then 3 else if k = 5 then 2 else 1
/-- a number that a deed may mention -/
def dnOk (n : Int) : Bool := decide (0 ≤ n ∧ n ≤ 999)
/-- is the deed valid? -/
def ddOk (k a b c : Int) : Bool := decide (1 ≤ k ∧ k ≤ 9) && (dnOk a && (dnOk b && (dnOk c && ((decide (1 < ddN k) || decide (b = 0)) && (decide (2 < ddN k) || decide (c = 0))))))
end Wd
theorem ret_bool' {a b : Bool} (h : a = b) : Ending.returned (.bool a) = .returned (.bool b) := by rw [h]
theorem dblk_cells {w : World} {R : Nat} {t : TypeId} {a b c d : Value} (h : w.heap[R]? = some (.cells #[a, b, c, d] t (0, 0))) :
    (w.cell? ⟨R, 0, none⟩ = some a ∧ w.cell? ⟨R, 1, none⟩ = some b ∧ w.cell? ⟨R, 2, none⟩ = some c ∧ w.cell? ⟨R, 3, none⟩ = some d) ∧ (w.frozen? ⟨R, 0, none⟩ = false ∧ w.frozen? ⟨R, 1, none⟩ = false ∧ w.frozen? ⟨R, 2, none⟩ = false ∧ w.frozen? ⟨R, 3, none⟩ = false) := by
  have key : ∀ o, w.cell? ⟨R, o, none⟩ = (#[a, b, c, d] : Array Value)[o]? := fun o => by simp [World.cell?, h]
  refine ⟨⟨?_, ?_, ?_, ?_⟩, ?_, ?_, ?_, ?_⟩
  · rw [key]; rfl
  · rw [key]; rfl
  · rw [key]; rfl
  · rw [key]; rfl
  all_goals simp [World.frozen?, h]
theorem inD_any (n lo hi : Int) (w : World) :
    Calls Tryd.prog 64 #[.int .i64 n, .int .i64 lo, .int .i64 hi] w fun e w' => e = .returned (.bool (decide (lo ≤ n ∧ n ≤ hi))) ∧ w' = w := by
  by_cases h1 : lo ≤ n
  · by_cases h2 : n ≤ hi
    · rw [decide_eq_true ⟨h1, h2⟩]
      go_enter Tryd.func64, Tryd.ntmps64
      go_wp2
      go_ret
      exact ⟨rfl, rfl⟩
    · rw [decide_eq_false (fun h => h2 h.2)]
      go_enter Tryd.func64, Tryd.ntmps64
      go_wp2
      go_ret
      exact ⟨rfl, rfl⟩
  · rw [decide_eq_false (fun h => h1 h.1)]
    go_enter Tryd.func64, Tryd.ntmps64
    go_wp2
    go_ret
    exact ⟨rfl, rfl⟩
set_option maxHeartbeats 3200000 in
theorem fields8_any (k : Int) (w : World) (h : 1 ≤ k ∧ k ≤ 9) :
    Calls Tryd.prog 28 #[.int .i64 k] w fun e w' => e = .returned (.int .i64 (ddN k)) ∧ Below w.heap.size w w' := by
  obtain rfl | rfl | rfl | rfl | rfl | rfl | rfl | rfl | rfl : k = 1 ∨ k = 2 ∨ k = 3 ∨ k = 4 ∨ k = 5 ∨ k = 6 ∨ k = 7 ∨ k = 8 ∨ k = 9 := by omega
  all_goals
    go_enter Tryd.func28, Tryd.ntmps28
    go_wp2
    go_ret
    exact ⟨rfl, (Below.refl _ _).alloc (Nat.le_refl _) _⟩
set_option maxRecDepth 100000 in
set_option maxHeartbeats 3200000 in
theorem specValidDeed (k a b c : Int) (w : World) :
    Calls Tryd.prog 25 #[.agg #[.int .i64 k, .int .i64 a, .int .i64 b, .int .i64 c]] w fun e w' => e = .returned (.bool (ddOk k a b c)) ∧ Below w.heap.size w w' := by
  have hb0 := (Below.refl _ w).alloc (Nat.le_refl _) (.cells #[.int .i64 k, .int .i64 a, .int .i64 b, .int .i64 c] 25)
  have hP0 := heap_alloc_new w (.cells #[.int .i64 k, .int .i64 a, .int .i64 b, .int .i64 c] 25)
  have HIK := Lib.hid (fun W => inD_any k 1 9 W)
  have HIA := Lib.hid (fun W => inD_any a 0 999 W)
  have HIB := Lib.hid (fun W => inD_any b 0 999 W)
  have HIC := Lib.hid (fun W => inD_any c 0 999 W)
  have HB0 := Lib.hid hb0
  have HP0 := Lib.hid hP0
  have HS0 : Hid (w.heap.size < (w.alloc (.cells #[.int .i64 k, .int .i64 a, .int .i64 b, .int .i64 c] 25)).heap.size) := Lib.hid (by simp)
  clear hb0 hP0
  obtain ⟨R, hR⟩ : ∃ R, R = ddOk k a b c := ⟨_, rfl⟩
  rw [← hR]
  unfold ddOk dnOk at hR
  by_cases hk : 1 ≤ k ∧ k ≤ 9
  case neg =>
    rw [decide_eq_false hk] at HIK
    rw [decide_eq_false hk, Bool.false_and] at hR
    subst hR
    clear hk
    go_enter Tryd.func25, Tryd.ntmps25
    go_wp2_with fail
    refine (HIK.out _).mono ?_
    rintro e w1 ⟨rfl, rfl⟩
    go_wp2_with fail
    go_ret
    exact ⟨rfl, HB0.out⟩
  have HF := Lib.hid (fun W => fields8_any k W hk)
  rw [decide_eq_true hk] at HIK
  rw [decide_eq_true hk, Bool.true_and] at hR
  have hkl := hk.1
  have hkh := hk.2
  clear hk
  by_cases ha : 0 ≤ a ∧ a ≤ 999
  case neg =>
    rw [decide_eq_false ha] at HIA
    rw [decide_eq_false ha, Bool.false_and] at hR
    subst hR
    clear ha
    go_enter Tryd.func25, Tryd.ntmps25
    go_wp2_with fail
    refine (HIK.out _).mono ?_
    rintro e w1 ⟨rfl, rfl⟩
    go_wp2_with fail
    refine (HIA.out _).mono ?_
    rintro e w1 ⟨rfl, rfl⟩
    go_wp2_with fail
    go_ret
    exact ⟨rfl, HB0.out⟩
  rw [decide_eq_true ha] at HIA
  rw [decide_eq_true ha, Bool.true_and] at hR
  clear ha
  by_cases hb : 0 ≤ b ∧ b ≤ 999
  case neg =>
    rw [decide_eq_false hb] at HIB
    rw [decide_eq_false hb, Bool.false_and] at hR
    subst hR
    clear hb
    go_enter Tryd.func25, Tryd.ntmps25
    go_wp2_with fail
    refine (HIK.out _).mono ?_
    rintro e w1 ⟨rfl, rfl⟩
    go_wp2_with fail
    refine (HIA.out _).mono ?_
    rintro e w1 ⟨rfl, rfl⟩
    go_wp2_with fail
    refine (HIB.out _).mono ?_
    rintro e w1 ⟨rfl, rfl⟩
    go_wp2_with fail
    go_ret
    exact ⟨rfl, HB0.out⟩
  rw [decide_eq_true hb] at HIB
  rw [decide_eq_true hb, Bool.true_and] at hR
  clear hb
  by_cases hc : 0 ≤ c ∧ c ≤ 999
  case neg =>
    rw [decide_eq_false hc] at HIC
    rw [decide_eq_false hc, Bool.false_and] at hR
    subst hR
    clear hc
    go_enter Tryd.func25, Tryd.ntmps25
    go_wp2_with fail
    refine (HIK.out _).mono ?_
    rintro e w1 ⟨rfl, rfl⟩
    go_wp2_with fail
    refine (HIA.out _).mono ?_
    rintro e w1 ⟨rfl, rfl⟩
    go_wp2_with fail
    refine (HIB.out _).mono ?_
    rintro e w1 ⟨rfl, rfl⟩
    go_wp2_with fail
    refine (HIC.out _).mono ?_
    rintro e w1 ⟨rfl, rfl⟩
    go_wp2_with fail
    go_ret
    exact ⟨rfl, HB0.out⟩
  rw [decide_eq_true hc] at HIC
  rw [decide_eq_true hc, Bool.true_and] at hR
  clear hc
  have HR := Lib.hid hR
  clear hR
  go_enter Tryd.func25, Tryd.ntmps25
  go_wp2_with fail
  refine (HIK.out _).mono ?_
  rintro e w1 ⟨rfl, rfl⟩
  go_wp2_with fail
  refine (HIA.out _).mono ?_
  rintro e w1 ⟨rfl, rfl⟩
  go_wp2_with fail
  refine (HIB.out _).mono ?_
  rintro e w1 ⟨rfl, rfl⟩
  go_wp2_with fail
  refine (HIC.out _).mono ?_
  rintro e w1 ⟨rfl, rfl⟩
  go_wp2_with fail
  refine (HF.out _).mono ?_
  rintro e w1 ⟨rfl, hB1⟩
  have hP1 := (hB1.block w.heap.size HS0.out).trans HP0.out
  obtain ⟨⟨q0, q1, q2, q3⟩, _⟩ := dblk_cells hP1
  have HB1 := Lib.hid (HB0.out.trans (hB1.mono (by simp)))
  clear hB1 hP1
  generalize ddN k = n at *
  by_cases h1 : 1 < n
  · have h1' : decide (1 < n) = true := decide_eq_true h1
    by_cases h2 : 2 < n
    · have h2' : decide (2 < n) = true := decide_eq_true h2
      go_wp2_with fail
      go_ret
      exact ⟨ret_bool' (by rw [HR.out]; by_cases h5 : c = 0 <;> simp [h1', h2', h5]), HB1.out⟩
    · have h2' : decide (2 < n) = false := decide_eq_false h2
      go_wp2_with fail
      go_ret
      exact ⟨ret_bool' (by rw [HR.out]; by_cases h5 : c = 0 <;> simp [h1', h2', h5]), HB1.out⟩
  · have h1' : decide (1 < n) = false := decide_eq_false h1
    have h2' : decide (2 < n) = false := decide_eq_false (by omega)
    by_cases h3 : b = 0
    · have h3' : (b == 0) = true := by simp [h3]
      go_wp2_with fail
      go_ret
      exact ⟨ret_bool' (by rw [HR.out]; by_cases h5 : c = 0 <;> simp [h1', h2', h3, h5]), HB1.out⟩
    · have h3' : (b == 0) = false := by simp [h3]
      go_wp2_with fail
      go_ret
      exact ⟨ret_bool' (by rw [HR.out]; by_cases h5 : c = 0 <;> simp [h1', h2', h3, h5]), HB1.out⟩
end Go.Proofs.YtcaeihdfljljbaaDoor
