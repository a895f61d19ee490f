/-
  Walks: spec.EmbeddedStart, spec.EmbedFirst.
-/
import Derived.Test.YtlkjceolddccbaaEmS
namespace Go.Proofs.Ytlkjceolddccbaa
open Go.RowKit
open Wd
set_option linter.unusedVariables false
namespace Wd
/-- how much of a text is embedded, and the code -/
def embStG (gs : List Rl) (s : ByteArray) : Int × Int := if (gOk gs && okL s.data.toList) = true then (((embL gs s.data.toList 0).length : Nat), 0) else (0, 1)
/-- where a text is first embedded, and the code -/
def embFiG (gs : List Rl) (s : ByteArray) : List Int × Int := if (gOk gs && okL s.data.toList) = true then (if (embL gs s.data.toList 0).length < s.size then ([], 6) else (embL gs s.data.toList 0, 0)) else ([], 1)
theorem embL_len (gs : List Rl) : ∀ (l : List UInt8) (fr : Int), (embL gs l fr).length ≤ l.length
  | [], _ => Nat.le_refl _
  | c :: l, fr => by
    unfold embL
    split
    · simp
    · have := embL_len gs l (selF gs (c.toNat - 97) gs.length (gs.length - 1) (rkAt gs (c.toNat - 97) fr) + 1)
      simp only [List.length_cons]
      omega
theorem embFiG_len (gs : List Rl) (s : ByteArray) : (embFiG gs s).1.length ≤ 1000000 := by
  unfold embFiG
  split
  · next h =>
    split
    · simp
    · have h1 := embL_len gs s.data.toList 0
      rw [Bool.and_eq_true] at h
      have h2 := okL_len h.2
      simp only
      omega
  · simp
end Wd
set_option maxRecDepth 100000 in
set_option maxHeartbeats 1600000 in
theorem specEmbeddedStart (v : Value) (gs : List Rl) (s : ByteArray) (w : World) (hf : FewR gs) (hr : Rules w v gs) (hs : s.size ≤ maxLen) :
    Calls Try.prog 37 #[.agg #[v], .string s] w fun e w' => e = .returned (.tuple #[.int .i64 (embStG gs s).1, .int .i64 (embStG gs s).2]) ∧ Below w.heap.size w w' := by
  have hg := rules_gpT hr 30
  have h1 := l02Ok_any w.heap.size gs _ hf hg
  have HG := Lib.hid hg
  have hb := (Below.refl _ w).alloc (Nat.le_refl _) (.cells #[v] 30)
  have HSO := Lib.hid (fun W => specOk s W hs)
  obtain ⟨A, c, rfl, _⟩ := hr
  have HB := Lib.hid hb
  unfold embStG
  cases hok : gOk gs
  · rw [hok] at h1
    rw [Bool.false_and, if_neg (by simp)]
    have H1 := Lib.hid h1
    clear h1 hok hg hb
    go_enter Try.func37, Try.ntmps37
    go_wp2_with fail
    refine H1.out.mono ?_
    rintro e w1 ⟨rfl, hB1⟩
    have HB1 := Lib.hid (HB.out.trans (hB1.mono (by simp)))
    clear hB1
    go_wp2_with fail
    go_ret2
    exact ⟨rfl, HB1.out⟩
  · rw [hok] at h1
    have H1 := Lib.hid h1
    cases hl : okL s.data.toList
    · rw [hl] at HSO
      rw [Bool.and_false, if_neg (by simp)]
      clear h1 hok hg hl hb
      go_enter Try.func37, Try.ntmps37
      go_wp2_with fail
      refine H1.out.mono ?_
      rintro e w1 ⟨rfl, hB1⟩
      have HB1 := Lib.hid (HB.out.trans (hB1.mono (by simp)))
      clear hB1
      go_wp2_with fail
      refine (HSO.out _).mono ?_
      rintro e w2 ⟨rfl, rfl⟩
      go_wp2_with fail
      go_ret2
      exact ⟨rfl, HB1.out⟩
    · rw [hl] at HSO
      rw [Bool.and_self, if_pos rfl]
      have HE := Lib.hid (fun W (hW : GP W w.heap.size gs) => l05Embed_any w.heap.size gs s W hf hok hl hW)
      generalize embL gs s.data.toList 0 = E at *
      clear h1 hok hg hl hb
      go_enter Try.func37, Try.ntmps37
      go_wp2_with fail
      refine H1.out.mono ?_
      rintro e w1 ⟨rfl, hB1⟩
      have HB1 := Lib.hid (HB.out.trans (hB1.mono (by simp)))
      have HG1 := Lib.hid (HG.out.kept hB1)
      clear hB1
      go_wp2_with fail
      refine (HSO.out _).mono ?_
      rintro e w2 ⟨rfl, rfl⟩
      go_wp2_with fail
      refine (HE.out _ HG1.out).mono ?_
      rintro e w3 ⟨y, rfl, hy, hB3⟩
      obtain ⟨Ay, cy, rfl⟩ := own_slice hy
      have HB3 := Lib.hid (HB1.out.trans (hB3.mono HB1.out.size))
      clear hB3 hy
      go_wp2_with fail
      go_ret2
      exact ⟨rfl, HB3.out⟩
set_option maxRecDepth 100000 in
set_option maxHeartbeats 1600000 in
theorem specEmbedFirst (v : Value) (gs : List Rl) (s : ByteArray) (w : World) (hf : FewR gs) (hr : Rules w v gs) (hs : s.size ≤ maxLen) :
    Calls Try.prog 39 #[.agg #[v], .string s] w fun e w' => ∃ y, e = .returned (.tuple #[y, .int .i64 (embFiG gs s).2]) ∧ OwnsI w' w.heap.size y (embFiG gs s).1 ∧ Below w.heap.size w w' := by
  have hg := rules_gpT hr 30
  have h1 := l02Ok_any w.heap.size gs _ hf hg
  have HG := Lib.hid hg
  have hb := (Below.refl _ w).alloc (Nat.le_refl _) (.cells #[v] 30)
  have HSO := Lib.hid (fun W => specOk s W hs)
  obtain ⟨A, c, rfl, _⟩ := hr
  have HB := Lib.hid hb
  unfold embFiG
  cases hok : gOk gs
  · rw [hok] at h1
    rw [Bool.false_and, if_neg (by simp)]
    have H1 := Lib.hid h1
    clear h1 hok hg hb
    go_enter Try.func39, Try.ntmps39
    go_wp2_with fail
    refine H1.out.mono ?_
    rintro e w1 ⟨rfl, hB1⟩
    have HB1 := Lib.hid (HB.out.trans (hB1.mono (by simp)))
    clear hB1
    go_wp2_with fail
    go_ret2
    exact ⟨_, rfl, World.ownsRow_lit (base := w.heap.size) (e := 2) (size := 1) w1 #[] 0 HB1.out.size (by decide) rfl, HB1.out.alloc HB1.out.size _⟩
  · rw [hok] at h1
    have H1 := Lib.hid h1
    cases hl : okL s.data.toList
    · rw [hl] at HSO
      rw [Bool.and_false, if_neg (by simp)]
      clear h1 hok hg hl hb
      go_enter Try.func39, Try.ntmps39
      go_wp2_with fail
      refine H1.out.mono ?_
      rintro e w1 ⟨rfl, hB1⟩
      have HB1 := Lib.hid (HB.out.trans (hB1.mono (by simp)))
      clear hB1
      go_wp2_with fail
      refine (HSO.out _).mono ?_
      rintro e w2 ⟨rfl, rfl⟩
      go_wp2_with fail
      go_ret2
      exact ⟨_, rfl, World.ownsRow_lit (base := w.heap.size) (e := 2) (size := 1) w1 #[] 0 HB1.out.size (by decide) rfl, HB1.out.alloc HB1.out.size _⟩
    · rw [hl] at HSO
      rw [Bool.and_self, if_pos rfl]
      have HE := Lib.hid (fun W (hW : GP W w.heap.size gs) => l05Embed_any w.heap.size gs s W hf hok hl hW)
      have hcap := embL_len gs s.data.toList 0
      generalize embL gs s.data.toList 0 = E at *
      have hs2 : s.size ≤ 2000 := by
        have := hl
        simp only [okL, Bool.and_eq_true, decide_eq_true_iff] at this
        simpa using this.1
      have hEl : E.length ≤ 2000 := by simp at hcap; omega
      by_cases hlt : E.length < s.size
      · rw [if_pos hlt]
        have hltd : decide ((E.length : Int) < (s.size : Int)) = true := decide_eq_true (by omega)
        clear h1 hok hg hl hb hcap
        go_enter Try.func39, Try.ntmps39
        go_wp2_with fail
        refine H1.out.mono ?_
        rintro e w1 ⟨rfl, hB1⟩
        have HB1 := Lib.hid (HB.out.trans (hB1.mono (by simp)))
        have HG1 := Lib.hid (HG.out.kept hB1)
        clear hB1
        go_wp2_with fail
        refine (HSO.out _).mono ?_
        rintro e w2 ⟨rfl, rfl⟩
        go_wp2_with fail
        refine (HE.out _ HG1.out).mono ?_
        rintro e w3 ⟨y, rfl, hy, hB3⟩
        obtain ⟨Ay, cy, rfl⟩ := own_slice hy
        have HB3 := Lib.hid (HB1.out.trans (hB3.mono HB1.out.size))
        clear hB3 hy
        go_wp2_with fail
        go_ret2
        exact ⟨_, rfl, World.ownsRow_lit (base := w.heap.size) (e := 2) (size := 1) w3 #[] 0 HB3.out.size (by decide) rfl, HB3.out.alloc HB3.out.size _⟩
      · rw [if_neg hlt]
        have hltd : decide ((E.length : Int) < (s.size : Int)) = false := decide_eq_false (by omega)
        clear h1 hok hg hl hb hcap
        go_enter Try.func39, Try.ntmps39
        go_wp2_with fail
        refine H1.out.mono ?_
        rintro e w1 ⟨rfl, hB1⟩
        have HB1 := Lib.hid (HB.out.trans (hB1.mono (by simp)))
        have HG1 := Lib.hid (HG.out.kept hB1)
        clear hB1
        go_wp2_with fail
        refine (HSO.out _).mono ?_
        rintro e w2 ⟨rfl, rfl⟩
        go_wp2_with fail
        refine (HE.out _ HG1.out).mono ?_
        rintro e w3 ⟨y, rfl, hy, hB3⟩
        have HY := Lib.hid (own_lower hy HB1.out.size)
        obtain ⟨Ay, cy, rfl⟩ := own_slice hy
        have HB3 := Lib.hid (HB1.out.trans (hB3.mono HB1.out.size))
        clear hB3 hy
        go_wp2_with fail
        go_ret2
        exact ⟨_, rfl, HY.out, HB3.out⟩
end Go.Proofs.Ytlkjceolddccbaa
