/-
  Walk: impl.JoinGrammars.
-/
import Derived.Test.YtbenlbfommodiaaGConc
import Derived.Test.YtbenlbfommodiaaGJoinA
namespace Go.Proofs.Ytbenlbfommodiaa
open Go.RowKit
open Wd
set_option linter.unusedVariables false

theorem raise_zero (hs : List Rl) : hs.map (raiseR (0 : Nat)) = hs := by
  induction hs with
  | nil => rfl
  | cons x hs ih =>
    rw [List.map_cons, ih]
    congr 1
    unfold raiseR
    split
    · simp
    · rfl
/-- the first three variables of a call of two grammars -/
theorem three_vars (w : World) (a b c : Value) (t : TypeId) :
    Below w.heap.size w (((w.alloc (.cells #[a] t)).alloc (.cells #[b] t)).alloc (.cells #[c] t)) ∧ Var (((w.alloc (.cells #[a] t)).alloc (.cells #[b] t)).alloc (.cells #[c] t)) w.heap.size a t ∧ Var (((w.alloc (.cells #[a] t)).alloc (.cells #[b] t)).alloc (.cells #[c] t)) (w.heap.size + 1) b t ∧ Var (((w.alloc (.cells #[a] t)).alloc (.cells #[b] t)).alloc (.cells #[c] t)) (w.heap.size + 2) c t := by
  refine ⟨(((Below.refl _ w).alloc (Nat.le_refl _) _).alloc (by simp) _).alloc (by simp; omega) _, ?_, ?_, ?_⟩
  · exact ((Var.new w a t).kept ((Below.refl _ _).alloc (Nat.le_refl _) _)).kept ((Below.refl _ _).alloc (Nat.le_refl _) _)
  · have := (Var.new (w.alloc (.cells #[a] t)) b t).kept ((Below.refl _ _).alloc (Nat.le_refl _) (.cells #[c] t))
    rwa [show (w.alloc (.cells #[a] t)).heap.size = w.heap.size + 1 from by simp] at this
  · have := Var.new ((w.alloc (.cells #[a] t)).alloc (.cells #[b] t)) c t
    rwa [show ((w.alloc (.cells #[a] t)).alloc (.cells #[b] t)).heap.size = w.heap.size + 2 from by simp] at this

set_option maxRecDepth 100000 in
set_option maxHeartbeats 3200000 in
theorem implJoin_bad (v u : Value) (gs hs : List Rl) (w : World) (hf : FewR gs) (hf2 : FewR hs) (hr : Rules w v gs) (hr2 : Rules w u hs) (hbad : (gOk gs && gOk hs) = false) :
    Calls Try.prog 40 #[.agg #[v], .agg #[u]] w fun e w' => e = .returned (.tuple #[.agg #[.slice none 0 0], .int .i64 1]) ∧ Below w.heap.size w w' := by
  obtain ⟨hb, v0, v1, v2⟩ := three_vars w v u (.slice none 0 0) 45
  have HV := Lib.hid (fun W (h : Rules W v gs) => implValidGrammar v gs W hf h)
  have HU := Lib.hid (fun W (h : Rules W u hs) => implValidGrammar u hs W hf2 h)
  have HR := Lib.hid hr
  have HR2 := Lib.hid hr2
  have HB := Lib.hid hb
  have HV2 := Lib.hid v2
  have HV1 := Lib.hid v1
  obtain ⟨A, c, rfl, _⟩ := hr
  obtain ⟨A', c', rfl, _⟩ := hr2
  clear hb v0 v1 v2
  cases hok : gOk gs
  · rw [hok] at HV
    clear hok hbad
    go_enter Try.func40, Try.ntmps40
    go_wp2_with fail
    refine (HV.out _ (HR.out.kept HB.out)).mono ?_
    rintro e w1 ⟨rfl, hB1⟩
    obtain ⟨x0, x1⟩ := (HV2.out.kept hB1).cell
    have HB1 := Lib.hid (HB.out.trans (hB1.mono HB.out.size))
    clear hB1
    go_wp2_with fail
    refine bodyPost_ret (v := .tuple #[.agg #[.slice none 0 0], .int .i64 1]) (by simp [results, Try.results40, go_sem, x0]) rfl ⟨rfl, HB1.out.setCell (by simp; omega) _⟩
  · have hok2 : gOk hs = false := by rw [hok] at hbad; simpa using hbad
    rw [hok] at HV
    rw [hok2] at HU
    clear hok hok2 hbad
    go_enter Try.func40, Try.ntmps40
    go_wp2_with fail
    refine (HV.out _ (HR.out.kept HB.out)).mono ?_
    rintro e w1 ⟨rfl, hB1⟩
    have HV21 := Lib.hid (HV2.out.kept hB1)
    have y0 := (HV1.out.kept hB1).cell.1
    have HB1 := Lib.hid (HB.out.trans (hB1.mono HB.out.size))
    clear hB1
    go_wp2_with fail
    refine (HU.out _ (HR2.out.kept HB1.out)).mono ?_
    rintro e w2 ⟨rfl, hB2⟩
    obtain ⟨x0, x1⟩ := (HV21.out.kept hB2).cell
    have HB2 := Lib.hid (HB1.out.trans (hB2.mono HB1.out.size))
    clear hB2
    go_wp2_with fail
    refine bodyPost_ret (v := .tuple #[.agg #[.slice none 0 0], .int .i64 1]) (by simp [results, Try.results40, go_sem, x0]) rfl ⟨rfl, HB2.out.setCell (by simp; omega) _⟩

set_option maxRecDepth 100000 in
set_option maxHeartbeats 3200000 in
theorem implJoin_ok (v u : Value) (gs hs : List Rl) (w : World) (hf : FewR gs) (hf2 : FewR hs) (hr : Rules w v gs) (hr2 : Rules w u hs) (hok : gOk gs = true) (hok2 : gOk hs = true) :
    Calls Try.prog 40 #[.agg #[v], .agg #[u]] w fun e w' => ∃ y, e = .returned (.tuple #[.agg #[y], .int .i64 (limC (joinG gs hs))]) ∧ OwnsR w' w.heap.size y (limG (joinG gs hs)) ∧ Below w.heap.size w w' := by
  obtain ⟨i0, hi, hz0, hz1, hz2⟩ := info_parts Try.info_rule
  obtain ⟨hb, v0, v1, v2⟩ := three_vars w v u (.slice none 0 0) 45
  have hn := gOk_len hok
  have hn2 := gOk_len hok2
  have HV := Lib.hid (fun W (h : Rules W v gs) => implValidGrammar v gs W hf h)
  have HU := Lib.hid (fun W (h : Rules W u hs) => implValidGrammar u hs W hf2 h)
  rw [hok] at HV
  rw [hok2] at HU
  obtain ⟨H, hH⟩ : ∃ H, H = hs.map (raiseR gs.length) := ⟨_, rfl⟩
  have hHL : H.length = hs.length := by rw [hH, List.length_map]
  have HRA : Hid (∀ W, Rules W u hs → Calls Try.prog 93 #[u, .int .i64 gs.length] W fun e w' => ∃ y, e = .returned y ∧ w'.ownsRow W.heap.size 117 3 y hs.length (rv H) ∧ Below W.heap.size W w') := Lib.hid (fun W h => by
    have h9 := raised_any u hs gs.length W hn2 (gOk_iff.1 hok2).2.1 (by omega) h
    rw [← hH] at h9
    refine h9.mono ?_
    rintro e w' ⟨y, he, ho, hB⟩
    exact ⟨y, he, by rw [← hHL]; exact ho, hB⟩)
  obtain ⟨N, hN⟩ : ∃ N, N = (gs ++ H).length := ⟨_, rfl⟩
  have hNb : N ≤ 800 := by rw [hN, List.length_append]; omega
  have HN := Lib.hid hN
  have HNS := Lib.hid (show N = gs.length + hs.length by rw [hN, List.length_append, hHL])
  have HHL := Lib.hid hHL
  have HHE := Lib.hid hH
  have HFJ := Lib.hid (joinG_few hok hok2)
  have HR := Lib.hid hr
  have HR2 := Lib.hid hr2
  have HB := Lib.hid hb
  have HV0 := Lib.hid v0
  have HV1 := Lib.hid v1
  have HV2 := Lib.hid v2
  obtain ⟨A, c, rfl, _⟩ := hr
  obtain ⟨A', c', rfl, _⟩ := hr2
  clear hb v0 v1 v2 hok hok2 hH hHL hN
  go_enter Try.func40, Try.ntmps40
  go_wp2_with fail
  refine (HV.out _ (HR.out.kept HB.out)).mono ?_
  rintro e w1 ⟨rfl, hB1⟩
  have HV01 := Lib.hid (HV0.out.kept hB1)
  have HV11 := Lib.hid (HV1.out.kept hB1)
  have HV21 := Lib.hid (HV2.out.kept hB1)
  have y0 := HV11.out.cell.1
  have HB1 := Lib.hid (HB.out.trans (hB1.mono HB.out.size))
  clear hB1
  go_wp2_with fail
  refine (HU.out _ (HR2.out.kept HB1.out)).mono ?_
  rintro e w2 ⟨rfl, hB2⟩
  have HV02 := Lib.hid (HV01.out.kept hB2)
  have HV12 := Lib.hid (HV11.out.kept hB2)
  have HV22 := Lib.hid (HV21.out.kept hB2)
  have HB2 := Lib.hid (HB1.out.trans (hB2.mono HB1.out.size))
  have z0 := HV02.out.cell.1
  have z1 := HV12.out.cell.1
  clear hB2 y0
  go_wp2_with fail
  have HRA2 := Lib.hid (fun m => HRA.out (w2.drewN m) (HR2.out.kept (below_drewN HB2.out m)))
  have HS2 := Lib.hid (And.intro z0 z1)
  clear z0 z1
  go_region_held3 (fun w' => w'.cell? ⟨w.heap.size, 0, none⟩ = some (.slice A gs.length c) ∧ w'.cell? ⟨w.heap.size + 1, 0, none⟩ = some (.slice A' hs.length c')) (first | exact HS2.out | exact HS3.out | exact HS5.out _ | exact HS6.out | go_keep)
    ((first
      | (go_at_call 93
         refine (HRA2.out _).mono ?_
         rintro e w3 ⟨y3, rfl, ho3, hB3'⟩
         have hB3 := below_undrew hB3'
         obtain ⟨A3, c3, rfl⟩ := own_slice ho3
         have HS3 := Lib.hid (And.intro ((hB3.cell (p := ⟨w.heap.size, 0, none⟩) (lt_of_cell HS2.out.1)).trans HS2.out.1) ((hB3.cell (p := ⟨w.heap.size + 1, 0, none⟩) (lt_of_cell HS2.out.2)).trans HS2.out.2))
         have HS5 := Lib.hid (fun o => And.intro (((hB3.alloc hB3.size o).cell (p := ⟨w.heap.size, 0, none⟩) (lt_of_cell HS2.out.1)).trans HS2.out.1) (((hB3.alloc hB3.size o).cell (p := ⟨w.heap.size + 1, 0, none⟩) (lt_of_cell HS2.out.2)).trans HS2.out.2))
         have HO3 : Hid (OwnsR w3 w2.heap.size (.slice A3 hs.length c3) H) := Lib.hid (by unfold OwnsR; rw [HHL.out]; exact ho3)
         have HB3 := Lib.hid (HB2.out.trans (hB3.mono HB2.out.size))
         have HV23 := Lib.hid (HV22.out.kept hB3)
         have HWS : Hid (w.heap.size + 2 < w3.heap.size) := Lib.hid HV23.out.lt
         clear hB3 hB3' ho3)
      | (go_at_call 92
         refine (concat_any (.slice A gs.length c) (.slice A3 hs.length c3) gs H w3.heap.size _ (by omega) (by rw [HHL.out]; omega) (by rw [cell_of_row _ _ _ _ _ _ (heap_alloc_new _ _)]; rfl) (by rw [cell_of_row _ _ _ _ _ _ (heap_alloc_new _ _)]; rfl) (HR.out.kept (HB3.out.alloc HB3.out.size _)) ((Rules.of_own HO3.out).kept ((Below.refl _ w3).alloc (Nat.le_refl _) _))).mono ?_
         rintro e w4 ⟨y4, rfl, ho4, hB4'⟩
         have hB4 := ((Below.refl _ w3).alloc (Nat.le_refl _) (.cells #[.slice A gs.length c, .slice A3 hs.length c3] 43)).trans (hB4'.mono (by simp))
         have ho5 : w4.ownsRow (w3.alloc (.cells #[.slice A gs.length c, .slice A3 hs.length c3] 43)).heap.size 117 3 y4 N (rv (gs ++ H)) := by rw [HN.out]; exact ho4
         obtain ⟨A4, c4, rfl⟩ := own_slice ho5
         have HS6 := Lib.hid (And.intro ((hB4.cell (p := ⟨w.heap.size, 0, none⟩) (lt_of_cell HS3.out.1)).trans HS3.out.1) ((hB4.cell (p := ⟨w.heap.size + 1, 0, none⟩) (lt_of_cell HS3.out.2)).trans HS3.out.2))
         have HO4 := Lib.hid (own_lower ho5 (show w3.heap.size ≤ (w3.alloc (.cells #[.slice A gs.length c, .slice A3 hs.length c3] 43)).heap.size by simp))
         have HB4 := Lib.hid (HB3.out.trans (hB4.mono HB3.out.size))
         have HV24 := Lib.hid (HV23.out.kept hB4)
         clear hB4 hB4' ho4 ho5)))
  obtain ⟨s0, s1⟩ := HS6.out
  by_cases hz : gs.length = 0
  · have hj : gs ++ H = joinG gs hs := by
      unfold joinG
      rw [if_pos hz, HHE.out, hz, raise_zero, List.eq_nil_of_length_eq_zero hz, List.nil_append]
    have HO5 : Hid (OwnsR w4 w3.heap.size (.slice A4 N c4) (joinG gs hs)) := Lib.hid (by unfold OwnsR; rw [← hj, ← HN.out]; exact HO4.out)
    have HB5 := Lib.hid HB4.out
    have HV5 := Lib.hid HV24.out
    have hz2 : ¬ (0 : Int) < (gs.length : Int) := by omega
    have hz2d : decide ((0 : Int) < (gs.length : Int)) = false := decide_eq_false hz2
    clear hj hz
    go_wp2_with fail
    have hT := limited_any (.slice A4 N c4) (joinG gs hs) w4 HFJ.out (Rules.of_own HO5.out)
    have hlo := lim_own HO5.out
    have hne : (limV (joinG gs hs) (.slice A4 N c4)).ownBlock ≠ some (w.heap.size + 2) := by
      intro hq
      have h7 := (hlo.lt _ hq).1
      have h8 := HWS.out
      omega
    obtain ⟨Al, cl, hl⟩ := own_slice hlo
    rw [hl] at hT hlo hne
    have HLO := Lib.hid hlo
    have HT := Lib.hid hT
    have HNE := Lib.hid hne
    clear hT hlo hl hne
    go_wp2_with fail
    refine HT.out.mono ?_
    rintro e w9 ⟨rfl, hB9⟩
    obtain ⟨f0, f1⟩ := (HV5.out.kept hB9).cell
    have HO9 := Lib.hid (own_lower (own_below HLO.out hB9 (Nat.le_refl _)) (show w.heap.size ≤ w3.heap.size by have := HWS.out; omega))
    have HB9 := Lib.hid (HB5.out.trans (hB9.mono HB5.out.size))
    clear hB9
    go_wp2_with fail
    refine bodyPost_ret (v := .tuple #[.agg #[.slice Al (limG (joinG gs hs)).length cl], .int .i64 (limC (joinG gs hs))]) (by simp [results, Try.results40, go_sem, f0]) rfl ⟨_, rfl, ?_, HB9.out.setCell (by simp; omega) _⟩
    exact World.ownsRow.kept HO9.out (only_setCell (World.grownBy.refl w9 (some (w.heap.size + 2))) (p := ⟨w.heap.size + 2, 0, none⟩) (.inl rfl) _) (.inr HNE.out)
  · have g1 : (0 : Int) < (gs.length : Int) := by omega
    by_cases hz3 : hs.length = 0
    · have hj : gs ++ H = joinG gs hs := by
        unfold joinG
        rw [if_neg hz, if_pos hz3, List.eq_nil_of_length_eq_zero (show H.length = 0 by rw [HHL.out]; exact hz3), List.append_nil]
      have HO5 : Hid (OwnsR w4 w3.heap.size (.slice A4 N c4) (joinG gs hs)) := Lib.hid (by unfold OwnsR; rw [← hj, ← HN.out]; exact HO4.out)
      have HB5 := Lib.hid HB4.out
      have HV5 := Lib.hid HV24.out
      have hz2 : ¬ (0 : Int) < (hs.length : Int) := by omega
      have hz2d : decide ((0 : Int) < (hs.length : Int)) = false := decide_eq_false hz2
      clear hj hz hz3
      go_wp2_with fail
      have hT := limited_any (.slice A4 N c4) (joinG gs hs) w4 HFJ.out (Rules.of_own HO5.out)
      have hlo := lim_own HO5.out
      have hne : (limV (joinG gs hs) (.slice A4 N c4)).ownBlock ≠ some (w.heap.size + 2) := by
        intro hq
        have h7 := (hlo.lt _ hq).1
        have h8 := HWS.out
        omega
      obtain ⟨Al, cl, hl⟩ := own_slice hlo
      rw [hl] at hT hlo hne
      have HLO := Lib.hid hlo
      have HT := Lib.hid hT
      have HNE := Lib.hid hne
      clear hT hlo hl hne
      go_wp2_with fail
      refine HT.out.mono ?_
      rintro e w9 ⟨rfl, hB9⟩
      obtain ⟨f0, f1⟩ := (HV5.out.kept hB9).cell
      have HO9 := Lib.hid (own_lower (own_below HLO.out hB9 (Nat.le_refl _)) (show w.heap.size ≤ w3.heap.size by have := HWS.out; omega))
      have HB9 := Lib.hid (HB5.out.trans (hB9.mono HB5.out.size))
      clear hB9
      go_wp2_with fail
      refine bodyPost_ret (v := .tuple #[.agg #[.slice Al (limG (joinG gs hs)).length cl], .int .i64 (limC (joinG gs hs))]) (by simp [results, Try.results40, go_sem, f0]) rfl ⟨_, rfl, ?_, HB9.out.setCell (by simp; omega) _⟩
      exact World.ownsRow.kept HO9.out (only_setCell (World.grownBy.refl w9 (some (w.heap.size + 2))) (p := ⟨w.heap.size + 2, 0, none⟩) (.inl rfl) _) (.inr HNE.out)
    · have hj : joinG gs hs = gs ++ H ++ [pairR (gs.length - 1) (N - 1)] := by
        unfold joinG
        rw [if_neg hz, if_neg hz3, HHE.out, HNS.out]
      have g2 : (0 : Int) < (hs.length : Int) := by omega
      have HJ := Lib.hid hj
      have hN1 : 1 ≤ N := by have := HNS.out; omega
      clear hj hz hz3
      go_wp2_with fail
      refine (lastA A gs.length c (by omega) _).mono ?_
      rintro e w5 ⟨rfl, rfl⟩
      go_wp2_with fail
      refine (lastA A4 N c4 (by omega) _).mono ?_
      rintro e w5 ⟨rfl, rfl⟩
      go_wp2_with fail
      refine (pairA ((gs.length : Int) - 1) ((N : Int) - 1) _).mono ?_
      rintro e w6 ⟨rfl, hB6⟩
      have HO6 := Lib.hid (own_below HO4.out hB6 (Nat.le_refl _))
      have HV6 := Lib.hid (HV24.out.kept hB6)
      have HB6 := Lib.hid (HB4.out.trans (hB6.mono HB4.out.size))
      obtain ⟨X, hX⟩ : ∃ X : Rl, X = ⟨⟨#[]⟩, (gs.length : Int) - 1, (N : Int) - 1⟩ := ⟨_, rfl⟩
      have HXP := Lib.hid (show X = pairR (gs.length - 1) (N - 1) from by rw [hX]; unfold pairR; congr 1 <;> omega)
      have HXC := Lib.hid (show rc X = [.string ⟨#[]⟩, .int .i64 ((gs.length : Int) - 1), .int .i64 ((N : Int) - 1)] from by rw [hX]; rfl)
      have hnw := news3 w6 X 117
      rw [hX] at hnw
      have HNW := Lib.hid hnw
      have hbs6 : w3.heap.size ≤ w6.heap.size := by
        have h1 := HB6.out.size
        rcases HO6.out.2 with ⟨_, h2⟩ | ⟨g, cap, cur, _, h2, h3, _⟩
        · omega
        · have := (Array.getElem?_eq_some_iff.1 h3).1; omega
      clear hX hnw hB6
      go_wp2_with (first | (at_builtin; refine wpList_append_own _ rfl _ _ 43 rfl w3.heap.size 117 i0 (.agg #[.string ⟨#[]⟩, .int .i64 0, .int .i64 0]) 3 32 Try.underlying43 hi hz0 hz1 hz2 rfl (by decide) _ _ _ rfl (World.ownsRow.alloc HO6.out _) ⟨w6.heap.size, 0, none⟩ 1 1 (rc X) rfl rfl (by rw [HXC.out]; exact HNW.out) (rc_cell _) (by unfold maxLen; omega) (by omega) (by simp; omega) ?_))
      intro v' w7 hown' hgr _
      obtain ⟨A7, c7, rfl⟩ := own_slice hown'
      have hba : Below w6.heap.size w6 (w6.alloc (.cells #[.string ⟨#[]⟩, .int .i64 ((gs.length : Int) - 1), .int .i64 ((N : Int) - 1)] 117)) := (Below.refl _ w6).alloc (Nat.le_refl _) _
      have HO5 : Hid (OwnsR w7 w3.heap.size (.slice A7 (N + 1) c7) (joinG gs hs)) := Lib.hid (by
        unfold OwnsR
        rw [HJ.out, List.length_append, ← HN.out, rv_app, rv_one, ← HXP.out]
        exact hown')
      have HV5 : Hid (Var w7 (w.heap.size + 2) (.slice none 0 0) 45) := Lib.hid ((hgr.block (w.heap.size + 2) (Nat.lt_of_lt_of_le HV6.out.lt hba.size) (fun e => own_var_ne HO6.out HV6.out (by decide) e.symm)).trans (HV6.out.kept hba))
      have HB5 : Hid (Below w.heap.size w w7) := Lib.hid ((HB6.out.trans (hba.mono HB6.out.size)).grown hgr (Nat.le_trans HB6.out.size hba.size) (fun q hq => by have h1 := (HO6.out.lt q hq).1; have h2 := HWS.out; omega))
      clear hown' hgr hba
      go_wp2_with fail
      have hT := limited_any (.slice A7 (N + 1) c7) (joinG gs hs) w7 HFJ.out (Rules.of_own HO5.out)
      have hlo := lim_own HO5.out
      have hne : (limV (joinG gs hs) (.slice A7 (N + 1) c7)).ownBlock ≠ some (w.heap.size + 2) := by
        intro hq
        have h7 := (hlo.lt _ hq).1
        have h8 := HWS.out
        omega
      obtain ⟨Al, cl, hl⟩ := own_slice hlo
      rw [hl] at hT hlo hne
      have HLO := Lib.hid hlo
      have HT := Lib.hid hT
      have HNE := Lib.hid hne
      clear hT hlo hl hne
      go_wp2_with fail
      refine HT.out.mono ?_
      rintro e w9 ⟨rfl, hB9⟩
      obtain ⟨f0, f1⟩ := (HV5.out.kept hB9).cell
      have HO9 := Lib.hid (own_lower (own_below HLO.out hB9 (Nat.le_refl _)) (show w.heap.size ≤ w3.heap.size by have := HWS.out; omega))
      have HB9 := Lib.hid (HB5.out.trans (hB9.mono HB5.out.size))
      clear hB9
      go_wp2_with fail
      refine bodyPost_ret (v := .tuple #[.agg #[.slice Al (limG (joinG gs hs)).length cl], .int .i64 (limC (joinG gs hs))]) (by simp [results, Try.results40, go_sem, f0]) rfl ⟨_, rfl, ?_, HB9.out.setCell (by simp; omega) _⟩
      exact World.ownsRow.kept HO9.out (only_setCell (World.grownBy.refl w9 (some (w.heap.size + 2))) (p := ⟨w.heap.size + 2, 0, none⟩) (.inl rfl) _) (.inr HNE.out)

theorem implJoinGrammars (v u : Value) (gs hs : List Rl) (w : World) (hf : FewR gs) (hf2 : FewR hs) (hr : Rules w v gs) (hr2 : Rules w u hs) :
    Calls Try.prog 40 #[.agg #[v], .agg #[u]] w fun e w' => ∃ y, e = .returned (.tuple #[.agg #[y], .int .i64 (gramJoinGrammars gs hs).2]) ∧ OwnsR w' w.heap.size y (gramJoinGrammars gs hs).1 ∧ Below w.heap.size w w' := by
  unfold gramJoinGrammars
  cases hb : gOk gs && gOk hs
  · rw [if_neg (by simp)]
    refine (implJoin_bad v u gs hs w hf hf2 hr hr2 hb).mono ?_
    rintro e w' ⟨rfl, hB⟩
    exact ⟨_, rfl, World.ownsRow_nil _ _ _ _, hB⟩
  · rw [if_pos rfl]
    rw [Bool.and_eq_true] at hb
    exact implJoin_ok v u gs hs w hf hf2 hr hr2 hb.1 hb.2
end Go.Proofs.Ytbenlbfommodiaa
