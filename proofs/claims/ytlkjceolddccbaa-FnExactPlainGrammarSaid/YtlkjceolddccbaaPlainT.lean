/-
  Walks: spec.PlainGrammar, impl.PlainGrammar.
-/
import Derived.Test.YtlkjceolddccbaaPlainS
import Derived.Test.YtlkjceolddccbaaPlainR
namespace Go.Proofs.Ytlkjceolddccbaa
open Go.RowKit
open Wd
set_option linter.unusedVariables false

set_option maxRecDepth 100000 in
set_option maxHeartbeats 3200000 in
theorem specPlainGrammar (s : ByteArray) (w : World) (hs : s.size ≤ maxLen) :
    Calls Try.prog 20 #[.string s] w fun e w' => ∃ y, e = .returned (.tuple #[.agg #[y], .int .i64 (gramPlainGrammar s).2]) ∧ OwnsR w' w.heap.size y (gramPlainGrammar s).1 ∧ Below w.heap.size w w' := by
  have hb := (Below.refl _ w).alloc (Nat.le_refl _) (.cells #[.slice none 0 0] 30)
  have HB := Lib.hid hb
  have hvr := Var.new w (.slice none 0 0) 30
  have HVR := Lib.hid hvr
  have hx := hvr.cell
  have c1 := fun W => specOk s W hs
  unfold gramPlainGrammar
  cases h : okL s.data.toList
  · rw [if_neg (by simp)]
    rw [h] at c1
    have H1 := Lib.hid c1
    clear c1 h hb hvr
    obtain ⟨x0, x1⟩ := hx
    go_enter Try.func20, Try.ntmps20
    go_wp2_with fail
    refine (H1.out _).mono ?_
    rintro e w1 ⟨rfl, rfl⟩
    go_wp2_with fail
    refine bodyPost_ret (v := .tuple #[.agg #[.slice none 0 0], .int .i64 1]) (by simp [results, Try.results20, go_sem, x0]) rfl ⟨_, rfl, World.ownsRow_nil _ _ _ _, HB.out⟩
  · rw [if_pos rfl]
    rw [h] at c1
    have H1 := Lib.hid c1
    have hlen := okL_len h
    have hsz : s.size ≤ 2000 := by simpa using hlen
    by_cases hl : 400 < s.size
    · have hno := plainG_long h (by simpa using hl)
      have hG : limG (plainG s.data.toList) = [] := by unfold limG; rw [hno]; rfl
      have hC : limC (plainG s.data.toList) = 3 := by unfold limC; rw [hno]; rfl
      rw [hG, hC]
      clear c1 h hb hvr hno hG hC
      obtain ⟨x0, x1⟩ := hx
      go_enter Try.func20, Try.ntmps20
      go_wp2_with fail
      refine (H1.out _).mono ?_
      rintro e w1 ⟨rfl, rfl⟩
      go_wp2_with fail
      refine bodyPost_ret (v := .tuple #[.agg #[.slice none 0 0], .int .i64 3]) (by simp [results, Try.results20, go_sem, x0]) rfl ⟨_, rfl, World.ownsRow_nil _ _ _ _, HB.out⟩
    · have HPL := Lib.hid (fun W => l02Plain_any s W h)
      have HFW := Lib.hid (plainG_few hlen)
      clear c1 h hb hvr hx hlen
      generalize plainG s.data.toList = pg at *
      go_enter Try.func20, Try.ntmps20
      go_wp2_with fail
      refine (H1.out _).mono ?_
      rintro e w1 ⟨rfl, rfl⟩
      go_wp2_with fail
      refine (HPL.out _).mono ?_
      rintro e w3 ⟨y, rfl, ho, hB3⟩
      have HV3 := Lib.hid (HVR.out.kept hB3)
      have HB3 := Lib.hid (HB.out.trans (hB3.mono HB.out.size))
      have hT := told_any y pg w3 HFW.out (Rules.of_own ho)
      have hlo := lim_own ho
      have hne : (limV pg y).ownBlock ≠ some w.heap.size := by
        intro hq
        have h7 := (hlo.lt _ hq).1
        rw [World.size_alloc] at h7
        omega
      obtain ⟨Ay, cy, rfl⟩ := own_slice ho
      obtain ⟨Al, cl, hl⟩ := own_slice hlo
      rw [hl] at hT hlo hne
      have HLO := Lib.hid hlo
      have HT := Lib.hid hT
      have HNE := Lib.hid hne
      clear hT hlo hl hne ho hB3
      go_wp2_with fail
      refine HT.out.mono ?_
      rintro e w5 ⟨rfl, hB5⟩
      obtain ⟨x0, x1⟩ := (HV3.out.kept hB5).cell
      have HO5 := Lib.hid (own_lower (own_below HLO.out hB5 (Nat.le_refl _)) (show w.heap.size ≤ _ by simp))
      have HB5 := Lib.hid (HB3.out.trans (hB5.mono HB3.out.size))
      clear hB5
      go_wp2_with fail
      refine bodyPost_ret (v := .tuple #[.agg #[.slice Al (limG pg).length cl], .int .i64 (limC pg)]) (by simp [results, Try.results20, go_sem, x0]) rfl ⟨_, rfl, ?_, HB5.out.setCell (by simp) _⟩
      exact World.ownsRow.kept HO5.out (only_setCell (World.grownBy.refl w5 (some w.heap.size)) (p := ⟨w.heap.size, 0, none⟩) (.inl rfl) _) (.inr HNE.out)

set_option maxRecDepth 100000 in
set_option maxHeartbeats 3200000 in
theorem implPlainGrammar (s : ByteArray) (w : World) (hs : s.size ≤ maxLen) :
    Calls Try.prog 21 #[.string s] w fun e w' => ∃ y, e = .returned (.tuple #[.agg #[y], .int .i64 (gramPlainGrammar s).2]) ∧ OwnsR w' w.heap.size y (gramPlainGrammar s).1 ∧ Below w.heap.size w w' := by
  have hb := (Below.refl _ w).alloc (Nat.le_refl _) (.cells #[.slice none 0 0] 30)
  have HB := Lib.hid hb
  have hvr := Var.new w (.slice none 0 0) 30
  have HVR := Lib.hid hvr
  have hx := hvr.cell
  have c1 := fun W => implOk s W hs
  unfold gramPlainGrammar
  cases h : okL s.data.toList
  · rw [if_neg (by simp)]
    rw [h] at c1
    have H1 := Lib.hid c1
    clear c1 h hb hvr
    obtain ⟨x0, x1⟩ := hx
    go_enter Try.func21, Try.ntmps21
    go_wp2_with fail
    refine (H1.out _).mono ?_
    rintro e w1 ⟨rfl, rfl⟩
    go_wp2_with fail
    refine bodyPost_ret (v := .tuple #[.agg #[.slice none 0 0], .int .i64 1]) (by simp [results, Try.results21, go_sem, x0]) rfl ⟨_, rfl, World.ownsRow_nil _ _ _ _, HB.out⟩
  · rw [if_pos rfl]
    rw [h] at c1
    have H1 := Lib.hid c1
    have hlen := okL_len h
    have hsz : s.size ≤ 2000 := by simpa using hlen
    have HPL := Lib.hid (fun W => plainRules_any s W h)
    have HFW := Lib.hid (plainG_few hlen)
    clear c1 h hb hvr hx hlen
    generalize plainG s.data.toList = pg at *
    go_enter Try.func21, Try.ntmps21
    go_wp2_with fail
    refine (H1.out _).mono ?_
    rintro e w1 ⟨rfl, rfl⟩
    go_wp2_with fail
    refine (HPL.out _).mono ?_
    rintro e w3 ⟨y, rfl, ho, hB3⟩
    have HV3 := Lib.hid (HVR.out.kept hB3)
    have HB3 := Lib.hid (HB.out.trans (hB3.mono HB.out.size))
    have hT := limited_any y pg w3 HFW.out (Rules.of_own ho)
    have hlo := lim_own ho
    have hne : (limV pg y).ownBlock ≠ some w.heap.size := by
      intro hq
      have h7 := (hlo.lt _ hq).1
      rw [World.size_alloc] at h7
      omega
    obtain ⟨Ay, cy, rfl⟩ := own_slice ho
    obtain ⟨Al, cl, hl⟩ := own_slice hlo
    rw [hl] at hT hlo hne
    have HLO := Lib.hid hlo
    have HT := Lib.hid hT
    have HNE := Lib.hid hne
    clear hT hlo hl hne ho hB3
    go_wp2_with fail
    refine HT.out.mono ?_
    rintro e w5 ⟨rfl, hB5⟩
    obtain ⟨x0, x1⟩ := (HV3.out.kept hB5).cell
    have HO5 := Lib.hid (own_lower (own_below HLO.out hB5 (Nat.le_refl _)) (show w.heap.size ≤ _ by simp))
    have HB5 := Lib.hid (HB3.out.trans (hB5.mono HB3.out.size))
    clear hB5
    go_wp2_with fail
    refine bodyPost_ret (v := .tuple #[.agg #[.slice Al (limG pg).length cl], .int .i64 (limC pg)]) (by simp [results, Try.results21, go_sem, x0]) rfl ⟨_, rfl, ?_, HB5.out.setCell (by simp) _⟩
    exact World.ownsRow.kept HO5.out (only_setCell (World.grownBy.refl w5 (some w.heap.size)) (p := ⟨w.heap.size, 0, none⟩) (.inl rfl) _) (.inr HNE.out)
end Go.Proofs.Ytlkjceolddccbaa
