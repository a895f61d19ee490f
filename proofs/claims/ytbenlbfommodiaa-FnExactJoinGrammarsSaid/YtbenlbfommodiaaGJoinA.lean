/-
  Walk: spec.JoinGrammars.
-/
import Derived.Test.YtbenlbfommodiaaGJoinL
namespace Go.Proofs.Ytbenlbfommodiaa
open Go.RowKit
open Wd
set_option linter.unusedVariables false
namespace Wd
/-- the answer -/
def gramJoinGrammars (gs hs : List Rl) : List Rl × Int := if gOk gs && gOk hs then (limG (joinG gs hs), limC (joinG gs hs)) else ([], 1)
theorem raise_sum (b : Int) (hs : List Rl) : sumL (hs.map (raiseR b)) = sumL hs := by
  induction hs with
  | nil => rfl
  | cons x hs ih =>
    have h1 : (raiseR b x).L = x.L := by unfold raiseR; split <;> rfl
    have h2 := ih
    simp only [sumL, List.map_cons, List.sum_cons] at h2 ⊢
    rw [h1, h2]
end Wd
theorem joinG_few {gs hs : List Rl} (h1 : gOk gs = true) (h2 : gOk hs = true) : FewR (joinG gs hs) := by
  have a1 := gOk_len h1
  have a2 := gOk_len h2
  have b1 := sum_ok h1
  have b2 := sum_ok h2
  unfold FewR joinG
  split
  · omega
  · split
    · omega
    · rw [sumL_app, sumL_app, raise_sum, show sumL [pairR (gs.length - 1) (gs.length + hs.length - 1)] = 0 from rfl]
      simp only [List.length_append, List.length_map, List.length_cons, List.length_nil]
      omega
theorem gramJoinGrammars_len (gs hs : List Rl) : (gramJoinGrammars gs hs).1.length ≤ 1048576 := by
  unfold gramJoinGrammars
  cases h1 : gOk gs
  · simp
  · cases h2 : gOk hs
    · simp
    · show (limG _).length ≤ _
      unfold limG
      split
      · exact (joinG_few h1 h2).len
      · simp

set_option maxRecDepth 100000 in
set_option maxHeartbeats 6400000 in
theorem specJoinGrammars (v u : Value) (gs hs : List Rl) (w : World) (hf : FewR gs) (hf2 : FewR hs) (hr : Rules w v gs) (hr2 : Rules w u hs) :
    Calls Try.prog 39 #[.agg #[v], .agg #[u]] w fun e w' => ∃ y, e = .returned (.tuple #[.agg #[y], .int .i64 (gramJoinGrammars gs hs).2]) ∧ OwnsR w' w.heap.size y (gramJoinGrammars gs hs).1 ∧ Below w.heap.size w w' := by
  have hb : Below w.heap.size w (((w.alloc (.cells #[v] 45)).alloc (.cells #[u] 45)).alloc (.cells #[.slice none 0 0] 45)) := (((Below.refl _ w).alloc (Nat.le_refl _) _).alloc (by simp) _).alloc (by simp; omega) _
  have hg : GP (((w.alloc (.cells #[v] 45)).alloc (.cells #[u] 45)).alloc (.cells #[.slice none 0 0] 45)) w.heap.size gs := (rules_gpT hr 45).kept (((Below.refl _ _).alloc (Nat.le_refl _) _).alloc (by simp) _)
  have hh : GP (((w.alloc (.cells #[v] 45)).alloc (.cells #[u] 45)).alloc (.cells #[.slice none 0 0] 45)) (w.heap.size + 1) hs := by
    have := (rules_gpT (hr2.kept ((Below.refl _ w).alloc (Nat.le_refl _) (.cells #[v] 45))) 45).kept ((Below.refl _ _).alloc (Nat.le_refl _) (.cells #[.slice none 0 0] 45))
    rwa [show (w.alloc (.cells #[v] 45)).heap.size = w.heap.size + 1 from by simp] at this
  have hvr : Var (((w.alloc (.cells #[v] 45)).alloc (.cells #[u] 45)).alloc (.cells #[.slice none 0 0] 45)) (w.heap.size + 2) (.slice none 0 0) 45 := by
    have := Var.new ((w.alloc (.cells #[v] 45)).alloc (.cells #[u] 45)) (.slice none 0 0) 45
    rwa [show ((w.alloc (.cells #[v] 45)).alloc (.cells #[u] 45)).heap.size = w.heap.size + 2 from by simp] at this
  have h1 := l02Ok_any w.heap.size gs _ hf hg
  obtain ⟨A, c, rfl, _⟩ := hr
  obtain ⟨A', c', rfl, _⟩ := hr2
  have HB := Lib.hid hb
  have HG := Lib.hid hg
  have HH := Lib.hid hh
  have HVR := Lib.hid hvr
  have H2 := Lib.hid (fun W (h : GP W (w.heap.size + 1) hs) => l02Ok_any (w.heap.size + 1) hs W hf2 h)
  unfold gramJoinGrammars
  cases hok : gOk gs
  · rw [hok] at h1
    have H1 := Lib.hid h1
    clear h1 hok hb hg hh hvr
    simp only [Bool.false_and, Bool.false_eq_true, if_false]
    go_enter Try.func39, Try.ntmps39
    go_wp2_with fail
    refine H1.out.mono ?_
    rintro e w1 ⟨rfl, hB1⟩
    obtain ⟨x0, x1⟩ := (HVR.out.kept hB1).cell
    have HB1 := Lib.hid (HB.out.trans (hB1.mono (by simp; omega)))
    clear hB1
    go_wp2_with fail
    refine bodyPost_ret (v := .tuple #[.agg #[.slice none 0 0], .int .i64 1]) (by simp [results, Try.results39, go_sem, x0]) rfl ⟨_, rfl, World.ownsRow_nil _ _ _ _, HB1.out.setCell (by simp; omega) _⟩
  · rw [hok] at h1
    have H1 := Lib.hid h1
    cases hok2 : gOk hs
    · rw [hok2] at H2
      clear h1 hok hok2 hb hg hh hvr
      simp only [Bool.and_false, Bool.false_eq_true, if_false]
      go_enter Try.func39, Try.ntmps39
      go_wp2_with fail
      refine H1.out.mono ?_
      rintro e w1 ⟨rfl, hB1⟩
      have HV1 := Lib.hid (HVR.out.kept hB1)
      have HH1 := Lib.hid (HH.out.kept hB1)
      have HB1 := Lib.hid (HB.out.trans (hB1.mono (by simp; omega)))
      clear hB1
      go_wp2_with fail
      refine (H2.out _ HH1.out).mono ?_
      rintro e w2 ⟨rfl, hB2⟩
      obtain ⟨x0, x1⟩ := (HV1.out.kept hB2).cell
      have HB2 := Lib.hid (HB1.out.trans (hB2.mono HB1.out.size))
      clear hB2
      go_wp2_with fail
      refine bodyPost_ret (v := .tuple #[.agg #[.slice none 0 0], .int .i64 1]) (by simp [results, Try.results39, go_sem, x0]) rfl ⟨_, rfl, World.ownsRow_nil _ _ _ _, HB2.out.setCell (by simp; omega) _⟩
    · rw [hok2] at H2
      have HFJ := Lib.hid (joinG_few hok hok2)
      have HJ := Lib.hid (fun W (h : GP W w.heap.size gs) (h' : GP W (w.heap.size + 1) hs) => join_any w.heap.size (w.heap.size + 1) gs hs W (gOk_len hok) (gOk_len hok2) (gOk_iff.1 hok2).2.1 h h')
      clear h1 hok hok2 hb hg hh hvr
      simp only [Bool.and_true, if_true]
      go_enter Try.func39, Try.ntmps39
      go_wp2_with fail
      refine H1.out.mono ?_
      rintro e w1 ⟨rfl, hB1⟩
      have HV1 := Lib.hid (HVR.out.kept hB1)
      have HG1 := Lib.hid (HG.out.kept hB1)
      have HH1 := Lib.hid (HH.out.kept hB1)
      have HB1 := Lib.hid (HB.out.trans (hB1.mono (by simp; omega)))
      clear hB1
      go_wp2_with fail
      refine (H2.out _ HH1.out).mono ?_
      rintro e w2 ⟨rfl, hB2⟩
      have HV2 := Lib.hid (HV1.out.kept hB2)
      have HG2 := Lib.hid (HG1.out.kept hB2)
      have HH2 := Lib.hid (HH1.out.kept hB2)
      have HB2 := Lib.hid (HB1.out.trans (hB2.mono HB1.out.size))
      clear hB2
      go_wp2_with fail
      refine (HJ.out _ HG2.out HH2.out).mono ?_
      rintro e w3 ⟨y, rfl, ho, hB3⟩
      have HV3 := Lib.hid (HV2.out.kept hB3)
      have HB3 := Lib.hid (HB2.out.trans (hB3.mono HB2.out.size))
      have hs2 : w.heap.size + 2 < w2.heap.size := HV2.out.lt
      have hT := told_any y (joinG gs hs) w3 HFJ.out (Rules.of_own ho)
      have hlo := lim_own ho
      have hne : (limV (joinG gs hs) y).ownBlock ≠ some (w.heap.size + 2) := by
        intro hq
        have := (hlo.lt _ hq).1; omega
      obtain ⟨Al, cl, hl⟩ := own_slice hlo
      rw [hl] at hT hlo hne
      have HLO := Lib.hid hlo
      have HT := Lib.hid hT
      have HNE := Lib.hid hne
      clear hT hlo hl hne ho hB3
      go_wp2_with fail
      refine HT.out.mono ?_
      rintro e w5 ⟨rfl, hB5⟩
      obtain ⟨x0, x1⟩ := (HV3.out.kept hB5).cell
      have HO5 := Lib.hid (own_lower (own_below HLO.out hB5 (Nat.le_refl _)) (show w.heap.size ≤ w2.heap.size by omega))
      have HB5 := Lib.hid (HB3.out.trans (hB5.mono HB3.out.size))
      clear hB5
      go_wp2_with fail
      refine bodyPost_ret (v := .tuple #[.agg #[.slice Al (limG (joinG gs hs)).length cl], .int .i64 (limC (joinG gs hs))]) (by simp [results, Try.results39, go_sem, x0]) rfl ⟨_, rfl, ?_, HB5.out.setCell (by simp; omega) _⟩
      exact World.ownsRow.kept HO5.out (only_setCell (World.grownBy.refl w5 (some (w.heap.size + 2))) (p := ⟨w.heap.size + 2, 0, none⟩) (.inl rfl) _) (.inr HNE.out)
end Go.Proofs.Ytbenlbfommodiaa
