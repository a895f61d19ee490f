/-
  Walks: spec.PowerGrammar, impl.PowerGrammar at every input.
-/
import Derived.Test.YtjkijboljffmcabGPowI
namespace Go.Proofs.Ytjkijboljffmcab
open Go.RowKit
open Wd
set_option linter.unusedVariables false
namespace Wd
/-- the answer -/
def gramPowerGrammar (gs : List Rl) (x : Int) : List Rl × Int :=
  if gOk gs then if 0 ≤ x ∧ x ≤ 1000000000000000 then if x = 0 ∨ gs.length = 0 then ([], 0) else (limG (powG gs x.toNat), limC (powG gs x.toNat)) else ([], 2) else ([], 1)
/-- why nothing is made -/
def PowNo (gs : List Rl) (x c : Int) : Prop := (gOk gs = false ∧ c = 1) ∨ (gOk gs = true ∧ ¬ (0 ≤ x ∧ x ≤ 1000000000000000) ∧ c = 2) ∨ (gOk gs = true ∧ (0 ≤ x ∧ x ≤ 1000000000000000) ∧ (x = 0 ∨ gs.length = 0) ∧ c = 0)
theorem pow_cases (gs : List Rl) (x : Int) : (∃ c, PowNo gs x c ∧ gramPowerGrammar gs x = ([], c)) ∨ (gOk gs = true ∧ 0 < x ∧ x ≤ 1000000000000000 ∧ 0 < gs.length ∧ gramPowerGrammar gs x = (limG (powG gs x.toNat), limC (powG gs x.toNat))) := by
  unfold gramPowerGrammar PowNo
  cases h : gOk gs
  · left; exact ⟨1, .inl ⟨rfl, rfl⟩, by simp⟩
  · by_cases h2 : 0 ≤ x ∧ x ≤ 1000000000000000
    · by_cases h3 : x = 0 ∨ gs.length = 0
      · left; exact ⟨0, .inr (.inr ⟨rfl, h2, h3, rfl⟩), by rw [if_pos rfl, if_pos h2, if_pos h3]⟩
      · right; exact ⟨rfl, by omega, h2.2, by omega, by rw [if_pos rfl, if_pos h2, if_neg h3]⟩
    · left; exact ⟨2, .inr (.inl ⟨rfl, h2, rfl⟩), by rw [if_pos rfl, if_neg h2]⟩
theorem gramPowerGrammar_len (gs : List Rl) (x : Int) (hf : FewR gs) : (gramPowerGrammar gs x).1.length ≤ 1048576 := by
  rcases pow_cases gs x with ⟨c, _, h⟩ | ⟨h1, h2, h3, h4, h⟩
  · rw [h]; simp
  · rw [h]
    show (limG _).length ≤ _
    unfold limG
    split
    · exact (powG_few h1 (by omega)).len
    · simp
end Wd

set_option maxRecDepth 100000 in
set_option maxHeartbeats 6400000 in
theorem specPower_no (v : Value) (gs : List Rl) (x c : Int) (w : World) (hf : FewR gs) (hr : Rules w v gs) (hbd : -9223372036854775808 ≤ x ∧ x ≤ 9223372036854775807) (hno : PowNo gs x c) :
    Calls Try.prog 40 #[.agg #[v], .int .i64 x] w fun e w' => e = .returned (.tuple #[.agg #[.slice none 0 0], .int .i64 c]) ∧ Below w.heap.size w w' := by
  have hb : Below w.heap.size w ((w.alloc (.cells #[v] 29)).alloc (.cells #[.slice none 0 0] 29)) := ((Below.refl _ w).alloc (Nat.le_refl _) _).alloc (by simp) _
  have hg : GP ((w.alloc (.cells #[v] 29)).alloc (.cells #[.slice none 0 0] 29)) w.heap.size gs := (rules_gpT hr 29).kept ((Below.refl _ _).alloc (Nat.le_refl _) _)
  have hv0 : Var ((w.alloc (.cells #[v] 29)).alloc (.cells #[.slice none 0 0] 29)) w.heap.size v 29 := (Var.new w v 29).kept ((Below.refl _ _).alloc (Nat.le_refl _) _)
  have hvr : Var ((w.alloc (.cells #[v] 29)).alloc (.cells #[.slice none 0 0] 29)) (w.heap.size + 1) (.slice none 0 0) 29 := by
    have := Var.new (w.alloc (.cells #[v] 29)) (.slice none 0 0) 29
    rwa [show (w.alloc (.cells #[v] 29)).heap.size = w.heap.size + 1 from by simp] at this
  have h1 := l02Ok_any w.heap.size gs _ hf hg
  have hfl := hf.len
  obtain ⟨A, cp, rfl, _⟩ := hr
  have HB := Lib.hid hb
  have HV0 := Lib.hid hv0
  have HVR := Lib.hid hvr
  have hIN := fun W => in_any x 0 1000000000000000 W
  rcases hno with ⟨hok, rfl⟩ | ⟨hok, hrg, rfl⟩ | ⟨hok, hrg, hz, rfl⟩
  · rw [hok] at h1
    have H1 := Lib.hid h1
    clear h1 hok hb hg hv0 hvr hIN
    go_enter Try.func40, Try.ntmps40
    go_wp2_with fail
    refine H1.out.mono ?_
    rintro e w1 ⟨rfl, hB1⟩
    obtain ⟨x0, x1⟩ := (HVR.out.kept hB1).cell
    have HB1 := Lib.hid (HB.out.trans (hB1.mono (by simp; omega)))
    clear hB1
    go_wp2_with fail
    refine bodyPost_ret (v := .tuple #[.agg #[.slice none 0 0], .int .i64 1]) (by simp [results, Try.results40, go_sem, x0]) rfl ⟨rfl, HB1.out.setCell (by simp) _⟩
  · rw [hok] at h1
    have H1 := Lib.hid h1
    have hd : (decide ((0 : Int) ≤ x) && decide (x ≤ 1000000000000000)) = false := by simp; omega
    simp only [hd] at hIN
    have HIN := Lib.hid hIN
    clear h1 hok hb hg hv0 hvr hIN hd hrg
    go_enter Try.func40, Try.ntmps40
    go_wp2_with fail
    refine H1.out.mono ?_
    rintro e w1 ⟨rfl, hB1⟩
    obtain ⟨x0, x1⟩ := (HVR.out.kept hB1).cell
    have HB1 := Lib.hid (HB.out.trans (hB1.mono (by simp; omega)))
    clear hB1
    go_wp2_with fail
    refine (HIN.out _).mono ?_
    rintro e w2 ⟨rfl, rfl⟩
    go_wp2_with fail
    refine bodyPost_ret (v := .tuple #[.agg #[.slice none 0 0], .int .i64 2]) (by simp [results, Try.results40, go_sem, x0]) rfl ⟨rfl, HB1.out.setCell (by simp) _⟩
  · rw [hok] at h1
    have H1 := Lib.hid h1
    have hd : (decide ((0 : Int) ≤ x) && decide (x ≤ 1000000000000000)) = true := by simp; omega
    simp only [hd] at hIN
    have HIN := Lib.hid hIN
    clear h1 hok hb hg hv0 hvr hIN hd
    by_cases hx : x = 0
    · subst hx
      clear hz hrg
      go_enter Try.func40, Try.ntmps40
      go_wp2_with fail
      refine H1.out.mono ?_
      rintro e w1 ⟨rfl, hB1⟩
      obtain ⟨x0, x1⟩ := (HVR.out.kept hB1).cell
      have HB1 := Lib.hid (HB.out.trans (hB1.mono (by simp; omega)))
      clear hB1
      go_wp2_with fail
      refine (HIN.out _).mono ?_
      rintro e w2 ⟨rfl, rfl⟩
      go_wp2_with fail
      refine bodyPost_ret (v := .tuple #[.agg #[.slice none 0 0], .int .i64 0]) (by simp [results, Try.results40, go_sem, x0]) rfl ⟨rfl, HB1.out.setCell (by simp) _⟩
    · have hg0 : gs.length = 0 := by omega
      rw [hg0] at HV0
      have hx2 : (x == 0) = false := by rw [beq_eq_false_iff_ne]; exact hx
      rw [hg0] at H1 HB HVR ⊢
      clear hz hrg hg0 hx
      go_enter Try.func40, Try.ntmps40
      go_wp2_with fail
      refine H1.out.mono ?_
      rintro e w1 ⟨rfl, hB1⟩
      obtain ⟨x0, x1⟩ := (HVR.out.kept hB1).cell
      obtain ⟨y0, y1⟩ := (HV0.out.kept hB1).cell
      have HB1 := Lib.hid (HB.out.trans (hB1.mono (by simp; omega)))
      clear hB1
      go_wp2_with fail
      refine (HIN.out _).mono ?_
      rintro e w2 ⟨rfl, rfl⟩
      go_wp2_with fail
      refine bodyPost_ret (v := .tuple #[.agg #[.slice none 0 0], .int .i64 0]) (by simp [results, Try.results40, go_sem, x0]) rfl ⟨rfl, HB1.out.setCell (by simp) _⟩
theorem specPowerGrammar (v : Value) (gs : List Rl) (x : Int) (w : World) (hf : FewR gs) (hr : Rules w v gs) (hbd : -9223372036854775808 ≤ x ∧ x ≤ 9223372036854775807) :
    Calls Try.prog 40 #[.agg #[v], .int .i64 x] w fun e w' => ∃ y, e = .returned (.tuple #[.agg #[y], .int .i64 (gramPowerGrammar gs x).2]) ∧ OwnsR w' w.heap.size y (gramPowerGrammar gs x).1 ∧ Below w.heap.size w w' := by
  rcases pow_cases gs x with ⟨c, hc, h⟩ | ⟨h1, h2, h3, h4, h⟩
  · rw [h]
    refine (specPower_no v gs x c w hf hr hbd hc).mono ?_
    rintro e w' ⟨rfl, hB⟩
    exact ⟨_, rfl, World.ownsRow_nil _ _ _ _, hB⟩
  · rw [h]
    obtain ⟨t, rfl⟩ : ∃ t : Nat, x = t := ⟨x.toNat, by omega⟩
    rw [Int.toNat_natCast]
    exact specPower_ok v gs t w hf hr h1 (by omega) (by omega) h4
set_option maxRecDepth 100000 in
set_option maxHeartbeats 6400000 in
theorem implPower_no (v : Value) (gs : List Rl) (x c : Int) (w : World) (hf : FewR gs) (hr : Rules w v gs) (hbd : -9223372036854775808 ≤ x ∧ x ≤ 9223372036854775807) (hno : PowNo gs x c) :
    Calls Try.prog 41 #[.agg #[v], .int .i64 x] w fun e w' => e = .returned (.tuple #[.agg #[.slice none 0 0], .int .i64 c]) ∧ Below w.heap.size w w' := by
  have hb : Below w.heap.size w ((w.alloc (.cells #[v] 29)).alloc (.cells #[.slice none 0 0] 29)) := ((Below.refl _ w).alloc (Nat.le_refl _) _).alloc (by simp) _
  have hv0 : Var ((w.alloc (.cells #[v] 29)).alloc (.cells #[.slice none 0 0] 29)) w.heap.size v 29 := (Var.new w v 29).kept ((Below.refl _ _).alloc (Nat.le_refl _) _)
  have hvr : Var ((w.alloc (.cells #[v] 29)).alloc (.cells #[.slice none 0 0] 29)) (w.heap.size + 1) (.slice none 0 0) 29 := by
    have := Var.new (w.alloc (.cells #[v] 29)) (.slice none 0 0) 29
    rwa [show (w.alloc (.cells #[v] 29)).heap.size = w.heap.size + 1 from by simp] at this
  have h1 := implValidGrammar v gs _ hf (hr.kept hb)
  have hfl := hf.len
  obtain ⟨A, cp, rfl, _⟩ := hr
  have HB := Lib.hid hb
  have HV0 := Lib.hid hv0
  have HVR := Lib.hid hvr
  rcases hno with ⟨hok, rfl⟩ | ⟨hok, hrg, rfl⟩ | ⟨hok, hrg, hz, rfl⟩
  · rw [hok] at h1
    have H1 := Lib.hid h1
    clear h1 hok hb hv0 hvr
    go_enter Try.func41, Try.ntmps41
    go_wp2_with fail
    refine H1.out.mono ?_
    rintro e w1 ⟨rfl, hB1⟩
    obtain ⟨x0, x1⟩ := (HVR.out.kept hB1).cell
    have HB1 := Lib.hid (HB.out.trans (hB1.mono (by simp; omega)))
    clear hB1
    go_wp2_with fail
    refine bodyPost_ret (v := .tuple #[.agg #[.slice none 0 0], .int .i64 1]) (by simp [results, Try.results41, go_sem, x0]) rfl ⟨rfl, HB1.out.setCell (by simp) _⟩
  · rw [hok] at h1
    have H1 := Lib.hid h1
    clear h1 hok hb hv0 hvr
    have hrs : x < 0 ∨ (0 ≤ x ∧ 1000000000000000 < x) := by omega
    clear hrg
    rcases hrs with hx | ⟨hx0, hx⟩
    all_goals
      go_enter Try.func41, Try.ntmps41
      go_wp2_with fail
      refine H1.out.mono ?_
      rintro e w1 ⟨rfl, hB1⟩
      obtain ⟨x0, x1⟩ := (HVR.out.kept hB1).cell
      have HB1 := Lib.hid (HB.out.trans (hB1.mono (by simp; omega)))
      clear hB1
      go_wp2_with fail
      refine bodyPost_ret (v := .tuple #[.agg #[.slice none 0 0], .int .i64 2]) (by simp [results, Try.results41, go_sem, x0]) rfl ⟨rfl, HB1.out.setCell (by simp) _⟩
  · rw [hok] at h1
    have H1 := Lib.hid h1
    clear h1 hok hb hv0 hvr
    obtain ⟨hx0, hxm⟩ := hrg
    by_cases hx : x = 0
    · subst hx
      clear hz
      go_enter Try.func41, Try.ntmps41
      go_wp2_with fail
      refine H1.out.mono ?_
      rintro e w1 ⟨rfl, hB1⟩
      obtain ⟨x0, x1⟩ := (HVR.out.kept hB1).cell
      have HB1 := Lib.hid (HB.out.trans (hB1.mono (by simp; omega)))
      clear hB1
      go_wp2_with fail
      refine bodyPost_ret (v := .tuple #[.agg #[.slice none 0 0], .int .i64 0]) (by simp [results, Try.results41, go_sem, x0]) rfl ⟨rfl, HB1.out.setCell (by simp) _⟩
    · have hg0 : gs.length = 0 := by omega
      rw [hg0] at HV0
      have hx2 : (x == 0) = false := by rw [beq_eq_false_iff_ne]; exact hx
      rw [hg0] at H1 HB HVR ⊢
      clear hz hg0 hx
      go_enter Try.func41, Try.ntmps41
      go_wp2_with fail
      refine H1.out.mono ?_
      rintro e w1 ⟨rfl, hB1⟩
      obtain ⟨x0, x1⟩ := (HVR.out.kept hB1).cell
      obtain ⟨y0, y1⟩ := (HV0.out.kept hB1).cell
      have HB1 := Lib.hid (HB.out.trans (hB1.mono (by simp; omega)))
      clear hB1
      go_wp2_with fail
      refine bodyPost_ret (v := .tuple #[.agg #[.slice none 0 0], .int .i64 0]) (by simp [results, Try.results41, go_sem, x0]) rfl ⟨rfl, HB1.out.setCell (by simp) _⟩
theorem implPowerGrammar (v : Value) (gs : List Rl) (x : Int) (w : World) (hf : FewR gs) (hr : Rules w v gs) (hbd : -9223372036854775808 ≤ x ∧ x ≤ 9223372036854775807) :
    Calls Try.prog 41 #[.agg #[v], .int .i64 x] w fun e w' => ∃ y, e = .returned (.tuple #[.agg #[y], .int .i64 (gramPowerGrammar gs x).2]) ∧ OwnsR w' w.heap.size y (gramPowerGrammar gs x).1 ∧ Below w.heap.size w w' := by
  rcases pow_cases gs x with ⟨c, hc, h⟩ | ⟨h1, h2, h3, h4, h⟩
  · rw [h]
    refine (implPower_no v gs x c w hf hr hbd hc).mono ?_
    rintro e w' ⟨rfl, hB⟩
    exact ⟨_, rfl, World.ownsRow_nil _ _ _ _, hB⟩
  · rw [h]
    obtain ⟨t, rfl⟩ : ∃ t : Nat, x = t := ⟨x.toNat, by omega⟩
    rw [Int.toNat_natCast]
    exact implPower_ok v gs t w hf hr h1 (by omega) (by omega) h4
end Go.Proofs.Ytjkijboljffmcab
