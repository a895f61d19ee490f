/-
  PlainT, FacV, FacT, FgT, Text, GramMk, GramHd, FaEq, FaMk, in one text.
-/
import Derived.Test.YtlgpleeanmeenaaFnExactFactorsGrammarK9
import Derived.Test.YtlgpleeanmeenaaFacM
import Derived.Test.YtlgpleeanmeenaaFnExactFactorsGrammarK1
import Derived.Test.YtlgpleeanmeenaaFnExactFactorsGrammarK7
import Derived.Test.YtlgpleeanmeenaaFnExactFactorsGrammarK8
import Derived.Test.YtlgpleeanmeenaaBase
import Derived.Outline
import Derived.Deep.RegionHeld3
import Derived.Test.YtlgpleeanmeenaaFaTo
import Derived.StillTailTactics
namespace Go.Proofs.Ytlgpleeanmeenaa
open Go.RowKit
open Wd
set_option linter.unusedVariables false

set_option maxRecDepth 100000 in
set_option maxHeartbeats 3200000 in
theorem specPlainGrammar (s : ByteArray) (w : World) (hs : s.size ≤ maxLen) :
    Calls Try.prog 23 #[.string s] w fun e w' => ∃ y, e = .returned (.tuple #[.agg #[y], .int .i64 (gramPlainGrammar s).2]) ∧ OwnsR w' w.heap.size y (gramPlainGrammar s).1 ∧ Below w.heap.size w w' := by
  have hb := (Below.refl _ w).alloc (Nat.le_refl _) (.cells #[.slice none 0 0] 26)
  have HB := Lib.hid hb
  have hvr := Var.new w (.slice none 0 0) 26
  have HVR := Lib.hid hvr
  have hx := hvr.cell
  have c1 := fun W => specOk s W hs
  unfold gramPlainGrammar
  cases h : okL s.data.toList
  · rw [if_neg (by simp)]
    rw [h] at c1
    have H1 := Lib.hid c1
    clear c1 h hb hvr
    obtain ⟨x0, x1⟩ := hx
    go_enter Try.func23, Try.ntmps23
    go_wp2_with fail
    refine (H1.out _).mono ?_
    rintro e w1 ⟨rfl, rfl⟩
    go_wp2_with fail
    refine bodyPost_ret (v := .tuple #[.agg #[.slice none 0 0], .int .i64 1]) (by simp [results, Try.results23, go_sem, x0]) rfl ⟨_, rfl, World.ownsRow_nil _ _ _ _, HB.out⟩
  · rw [if_pos rfl]
    rw [h] at c1
    have H1 := Lib.hid c1
    have hlen := okL_len h
    have hsz : s.size ≤ 2000 := by simpa using hlen
    by_cases hl : 400 < s.size
    · have hno := plainG_long h (by simpa using hl)
      have hG : limG (plainG s.data.toList) = [] := by unfold limG; rw [hno]; rfl
      have hC : limC (plainG s.data.toList) = 3 := by unfold limC; rw [hno]; rfl
      rw [hG, hC]
      clear c1 h hb hvr hno hG hC
      obtain ⟨x0, x1⟩ := hx
      go_enter Try.func23, Try.ntmps23
      go_wp2_with fail
      refine (H1.out _).mono ?_
      rintro e w1 ⟨rfl, rfl⟩
      go_wp2_with fail
      refine bodyPost_ret (v := .tuple #[.agg #[.slice none 0 0], .int .i64 3]) (by simp [results, Try.results23, go_sem, x0]) rfl ⟨_, rfl, World.ownsRow_nil _ _ _ _, HB.out⟩
    · have HPL := Lib.hid (fun W => l02Plain_any s W h)
      have HFW := Lib.hid (plainG_few hlen)
      clear c1 h hb hvr hx hlen
      generalize plainG s.data.toList = pg at *
      go_enter Try.func23, Try.ntmps23
      go_wp2_with fail
      refine (H1.out _).mono ?_
      rintro e w1 ⟨rfl, rfl⟩
      go_wp2_with fail
      refine (HPL.out _).mono ?_
      rintro e w3 ⟨y, rfl, ho, hB3⟩
      have HV3 := Lib.hid (HVR.out.kept hB3)
      have HB3 := Lib.hid (HB.out.trans (hB3.mono HB.out.size))
      have hT := told_any y pg w3 HFW.out (Rules.of_own ho)
      have hlo := lim_own ho
      have hne : (limV pg y).ownBlock ≠ some w.heap.size := by
        intro hq
        have h7 := (hlo.lt _ hq).1
        rw [World.size_alloc] at h7
        omega
      obtain ⟨Ay, cy, rfl⟩ := own_slice ho
      obtain ⟨Al, cl, hl⟩ := own_slice hlo
      rw [hl] at hT hlo hne
      have HLO := Lib.hid hlo
      have HT := Lib.hid hT
      have HNE := Lib.hid hne
      clear hT hlo hl hne ho hB3
      go_wp2_with fail
      refine HT.out.mono ?_
      rintro e w5 ⟨rfl, hB5⟩
      obtain ⟨x0, x1⟩ := (HV3.out.kept hB5).cell
      have HO5 := Lib.hid (own_lower (own_below HLO.out hB5 (Nat.le_refl _)) (show w.heap.size ≤ _ by simp))
      have HB5 := Lib.hid (HB3.out.trans (hB5.mono HB3.out.size))
      clear hB5
      go_wp2_with fail
      refine bodyPost_ret (v := .tuple #[.agg #[.slice Al (limG pg).length cl], .int .i64 (limC pg)]) (by simp [results, Try.results23, go_sem, x0]) rfl ⟨_, rfl, ?_, HB5.out.setCell (by simp) _⟩
      exact World.ownsRow.kept HO5.out (only_setCell (World.grownBy.refl w5 (some w.heap.size)) (p := ⟨w.heap.size, 0, none⟩) (.inl rfl) _) (.inr HNE.out)

set_option maxRecDepth 100000 in
set_option maxHeartbeats 3200000 in
theorem implPlainGrammar (s : ByteArray) (w : World) (hs : s.size ≤ maxLen) :
    Calls Try.prog 24 #[.string s] w fun e w' => ∃ y, e = .returned (.tuple #[.agg #[y], .int .i64 (gramPlainGrammar s).2]) ∧ OwnsR w' w.heap.size y (gramPlainGrammar s).1 ∧ Below w.heap.size w w' := by
  have hb := (Below.refl _ w).alloc (Nat.le_refl _) (.cells #[.slice none 0 0] 26)
  have HB := Lib.hid hb
  have hvr := Var.new w (.slice none 0 0) 26
  have HVR := Lib.hid hvr
  have hx := hvr.cell
  have c1 := fun W => implOk s W hs
  unfold gramPlainGrammar
  cases h : okL s.data.toList
  · rw [if_neg (by simp)]
    rw [h] at c1
    have H1 := Lib.hid c1
    clear c1 h hb hvr
    obtain ⟨x0, x1⟩ := hx
    go_enter Try.func24, Try.ntmps24
    go_wp2_with fail
    refine (H1.out _).mono ?_
    rintro e w1 ⟨rfl, rfl⟩
    go_wp2_with fail
    refine bodyPost_ret (v := .tuple #[.agg #[.slice none 0 0], .int .i64 1]) (by simp [results, Try.results24, go_sem, x0]) rfl ⟨_, rfl, World.ownsRow_nil _ _ _ _, HB.out⟩
  · rw [if_pos rfl]
    rw [h] at c1
    have H1 := Lib.hid c1
    have hlen := okL_len h
    have hsz : s.size ≤ 2000 := by simpa using hlen
    have HPL := Lib.hid (fun W => plainRules_any s W h)
    have HFW := Lib.hid (plainG_few hlen)
    clear c1 h hb hvr hx hlen
    generalize plainG s.data.toList = pg at *
    go_enter Try.func24, Try.ntmps24
    go_wp2_with fail
    refine (H1.out _).mono ?_
    rintro e w1 ⟨rfl, rfl⟩
    go_wp2_with fail
    refine (HPL.out _).mono ?_
    rintro e w3 ⟨y, rfl, ho, hB3⟩
    have HV3 := Lib.hid (HVR.out.kept hB3)
    have HB3 := Lib.hid (HB.out.trans (hB3.mono HB.out.size))
    have hT := limited_any y pg w3 HFW.out (Rules.of_own ho)
    have hlo := lim_own ho
    have hne : (limV pg y).ownBlock ≠ some w.heap.size := by
      intro hq
      have h7 := (hlo.lt _ hq).1
      rw [World.size_alloc] at h7
      omega
    obtain ⟨Ay, cy, rfl⟩ := own_slice ho
    obtain ⟨Al, cl, hl⟩ := own_slice hlo
    rw [hl] at hT hlo hne
    have HLO := Lib.hid hlo
    have HT := Lib.hid hT
    have HNE := Lib.hid hne
    clear hT hlo hl hne ho hB3
    go_wp2_with fail
    refine HT.out.mono ?_
    rintro e w5 ⟨rfl, hB5⟩
    obtain ⟨x0, x1⟩ := (HV3.out.kept hB5).cell
    have HO5 := Lib.hid (own_lower (own_below HLO.out hB5 (Nat.le_refl _)) (show w.heap.size ≤ _ by simp))
    have HB5 := Lib.hid (HB3.out.trans (hB5.mono HB3.out.size))
    clear hB5
    go_wp2_with fail
    refine bodyPost_ret (v := .tuple #[.agg #[.slice Al (limG pg).length cl], .int .i64 (limC pg)]) (by simp [results, Try.results24, go_sem, x0]) rfl ⟨_, rfl, ?_, HB5.out.setCell (by simp) _⟩
    exact World.ownsRow.kept HO5.out (only_setCell (World.grownBy.refl w5 (some w.heap.size)) (p := ⟨w.heap.size, 0, none⟩) (.inl rfl) _) (.inr HNE.out)
end Go.Proofs.Ytlgpleeanmeenaa
namespace Go.Proofs.Ytlgpleeanmeenaa
open Go.RowKit
open Wd
set_option linter.unusedVariables false

theorem factorLength_any (x : Rl) (w : World) :
    Calls Try.prog 143 #[agg3 x] w fun e w' => e = .returned (.int .i64 (facLn x)) ∧ Below w.heap.size w w' := by
  obtain ⟨L, l, r⟩ := x
  unfold facLn
  simp only
  by_cases h0 : L.size = 0
  · rw [if_pos h0]
    obtain rfl := empty_arr h0
    clear h0
    go_enter Try.func143, Try.ntmps143
    go_wp2
    go_ret
    exact ⟨rfl, (Below.refl _ _).alloc (Nat.le_refl _) _⟩
  · rw [if_neg h0]
    have h1 := full_list h0
    clear h0
    go_enter Try.func143, Try.ntmps143
    go_wp2
    go_ret
    exact ⟨rfl, (Below.refl _ _).alloc (Nat.le_refl _) _⟩
theorem factorFits_any (x : Rl) (n : Int) (w : World) (hx : -9223372036854775808 ≤ x.l ∧ x.l ≤ 9223372036854775807) (hn : 0 ≤ n ∧ n ≤ 1000000000000000) :
    Calls Try.prog 142 #[agg3 x, .int .i64 n] w fun e w' => e = .returned (.bool (facFits x n)) ∧ Below w.heap.size w w' := by
  obtain ⟨L, l, r⟩ := x
  unfold facFits
  simp only at hx ⊢
  by_cases h0 : L.size = 0
  · rw [if_pos h0]
    obtain rfl := empty_arr h0
    clear h0
    by_cases hl : 0 ≤ l
    · have hw : IntKind.i64.wrap (n - l) = n - l := IntWalk.i64_in _ (by omega)
      by_cases hr : 1 ≤ r
      · by_cases hq : r ≤ n - l
        all_goals
          go_enter Try.func142, Try.ntmps142
          go_wp2
          go_ret
          exact ⟨ret_bool (by rw [Bool.eq_iff_iff]; simp; omega), (Below.refl _ _).alloc (Nat.le_refl _) _⟩
      · go_enter Try.func142, Try.ntmps142
        go_wp2
        go_ret
        exact ⟨ret_bool (by rw [Bool.eq_iff_iff]; simp; omega), (Below.refl _ _).alloc (Nat.le_refl _) _⟩
    · go_enter Try.func142, Try.ntmps142
      go_wp2
      go_ret
      exact ⟨ret_bool (by rw [Bool.eq_iff_iff]; simp; omega), (Below.refl _ _).alloc (Nat.le_refl _) _⟩
  · rw [if_neg h0]
    have h1 := full_list h0
    have c1 := fun W => isLetter_any L h0 W
    have hb : isL L = (decide (L.size = 1) && okL L.data.toList) := rfl
    rw [hb]
    generalize (decide (L.size = 1) && okL L.data.toList) = b at c1
    have C1 := Lib.hid c1
    clear h0 c1 hb
    cases b
    all_goals
      go_enter Try.func142, Try.ntmps142
      go_wp2_with (go_at_call 139; refine (C1.out _).mono ?_; rintro e w' ⟨rfl, rfl⟩)
      all_goals (go_ret; refine ⟨ret_bool ?_, (Below.refl _ _).alloc (Nat.le_refl _) _⟩; first | (simp; done) | (rw [Bool.eq_iff_iff]; simp; done) | (rw [Bool.eq_iff_iff]; simp; omega))

/-- between two factors -/
def FvRel (gs : List Rl) (w : World) (R : Option Int) (nv iv' : Value) (wr : World) : Prop :=
  ∃ (k : Nat) (n : Int), k ≤ gs.length ∧ iv' = .int .i64 k ∧ nv = .int .i64 n ∧ 0 ≤ n ∧ n ≤ 1000000000000000 ∧ facF (gs.drop k) n = R ∧ Below w.heap.size w wr
set_option maxRecDepth 100000 in
set_option maxHeartbeats 3200000 in
theorem vfl_any (v : Value) (gs : List Rl) (w : World) (hf : FewR gs) (hr : Rules w v gs) (hw : WfF gs) :
    Calls Try.prog 84 #[v] w fun e w' => e = .returned (.tuple #[.int .i64 (facN gs), .bool (facOk gs)]) ∧ Below w.heap.size w w' := by
  have hn := hf.len
  obtain ⟨A, c, rfl, hr⟩ := hr
  obtain ⟨n, hng⟩ : ∃ n, n = gs.length := ⟨_, rfl⟩
  rw [← hng] at hn ⊢
  have HN := Lib.hid hng
  have HR := Lib.hid hr
  have HW := Lib.hid hw
  by_cases hlong : 120 < n
  · obtain ⟨e1, e2⟩ := fac_no (facR_long (gs := gs) (by omega))
    rw [e1, e2]
    clear hr hw hng e1 e2
    go_enter Try.func84, Try.ntmps84
    go_wp2
    go_ret2
    exact ⟨rfl, Below.refl _ _⟩
  · obtain ⟨R, hR⟩ : ∃ R, R = facR gs := ⟨_, rfl⟩
    have hR0 : facF (gs.drop 0) 0 = R := by rw [hR, facR_short (by omega)]
    have HNO := Lib.hid (fun (h : R = none) => fac_no (gs := gs) (hR ▸ h))
    have HYES := Lib.hid (fun m (h : R = some m) => fac_yes (gs := gs) (n := m) (hR ▸ h))
    have HR0 := Lib.hid hR0
    generalize facOk gs = ok at *
    generalize facN gs = N at *
    clear hr hw hng hR hR0
    go_enter Try.func84, Try.ntmps84
    go_wp2
    go_loopw [4, 6, 12] (fun nv _ iv' wr => FvRel gs w R nv iv' wr) (fun _ _ i _ => n - (intOf i).toNat)
    case atStart => exact ⟨0, 0, Nat.zero_le _, rfl, rfl, by omega, by omega, HR0.out, Below.refl _ _⟩
    case round =>
      obtain ⟨k, m, hk, rfl, rfl, hm0, hm1, hF, hB⟩ := hrel
      obtain ⟨wo, rfl⟩ : ∃ wo : World, wo = wr := ⟨_, rfl⟩
      by_cases hlt : k < n
      · have hkg : k < gs.length := by rw [← HN.out]; exact hlt
        rcases HR.out with h | ⟨g, rfl, hg, hc⟩
        · rw [h] at hkg; simp at hkg
        obtain ⟨a0, a1, a2⟩ := rules_cells hc hkg
        rw [← hB.cell (p := ⟨g, k * 3, none⟩) hg] at a0
        rw [← hB.cell (p := ⟨g, k * 3 + 1, none⟩) hg] at a1
        rw [← hB.cell (p := ⟨g, k * 3 + 2, none⟩) hg] at a2
        rw [facF_drop m hkg] at hF
        have HFI := Lib.hid (fun W => factorFits_any gs[k] m W (HW.out k hkg).1 ⟨hm0, hm1⟩)
        have HFL := Lib.hid (fun W => factorLength_any gs[k] W)
        have HBD := Lib.hid (fun (h : facFits gs[k] m = true) => facLn_bd h hm0)
        have HB := Lib.hid hB
        have hbs := hB.size
        have t1 : (0 : Int) ≤ (k : Int) := by omega
        have t2 : (k : Int) < (n : Int) := by omega
        clear hc hB hk
        cases hfit : facFits gs[k] m
        · rw [hfit] at HFI hF
          rw [if_neg (by decide)] at hF
          obtain ⟨e1, e2⟩ := HNO.out hF.symm
          have HE := Lib.hid (And.intro e1 e2)
          clear hF hfit e1 e2
          go_wp2_with fail
          refine (HFI.out _).mono ?_
          rintro e w1 ⟨rfl, hB1⟩
          have HB1 := Lib.hid ((HB.out.alloc hbs _).trans (hB1.mono (by simp; omega)))
          clear hB1
          go_wp2_with fail
          go_ret2
          exact ⟨by rw [HE.out.1, HE.out.2]; rfl, HB1.out⟩
        · rw [hfit] at HFI hF
          rw [if_pos rfl] at hF
          obtain ⟨b1, b2⟩ := HBD.out hfit
          obtain ⟨q, hq⟩ : ∃ q, q = facLn gs[k] := ⟨_, rfl⟩
          rw [← hq] at HFL hF b1 b2
          have hwr : IntKind.i64.wrap (m + q) = m + q := IntWalk.i64_in _ (by omega)
          have hwB := (Below.refl wo.heap.size wo).alloc (Nat.le_refl _) (.cells #[.string gs[k].L, .int .i64 gs[k].l, .int .i64 gs[k].r] 92)
          have hX0 := heap_alloc_new wo (.cells #[.string gs[k].L, .int .i64 gs[k].l, .int .i64 gs[k].r] 92)
          have x0 : (wo.alloc (.cells #[.string gs[k].L, .int .i64 gs[k].l, .int .i64 gs[k].r] 92)).cell? ⟨wo.heap.size, 0, none⟩ = some (.string gs[k].L) := by rw [cell_of_row _ _ _ _ _ _ hX0]; rfl
          have x1 : (wo.alloc (.cells #[.string gs[k].L, .int .i64 gs[k].l, .int .i64 gs[k].r] 92)).cell? ⟨wo.heap.size, 1, none⟩ = some (.int .i64 gs[k].l) := by rw [cell_of_row _ _ _ _ _ _ hX0]; rfl
          have x2 : (wo.alloc (.cells #[.string gs[k].L, .int .i64 gs[k].l, .int .i64 gs[k].r] 92)).cell? ⟨wo.heap.size, 2, none⟩ = some (.int .i64 gs[k].r) := by rw [cell_of_row _ _ _ _ _ _ hX0]; rfl
          have HX := Lib.hid (And.intro x0 (And.intro x1 x2))
          have HQ := Lib.hid hq
          clear hfit hq hwB hX0 x0 x1 x2
          go_wp2_with fail
          refine (HFI.out _).mono ?_
          rintro e w1 ⟨rfl, hB1⟩
          have HB1 := Lib.hid ((HB.out.alloc hbs _).trans (hB1.mono (by simp; omega)))
          have c0 := (hB1.cell (p := ⟨wo.heap.size, 0, none⟩) (by simp)).trans HX.out.1
          have c1 := (hB1.cell (p := ⟨wo.heap.size, 1, none⟩) (by simp)).trans HX.out.2.1
          have c2 := (hB1.cell (p := ⟨wo.heap.size, 2, none⟩) (by simp)).trans HX.out.2.2
          clear hB1
          go_wp2_with fail
          refine (HFL.out _).mono ?_
          rintro e w2 ⟨rfl, hB2⟩
          have HB2 := Lib.hid (HB1.out.trans (hB2.mono HB1.out.size))
          clear hB2 c0 c1 c2
          by_cases hbig : 1000000000000000 < m + q
          · rw [if_neg (by omega)] at hF
            obtain ⟨e1, e2⟩ := HNO.out hF.symm
            have HE := Lib.hid (And.intro e1 e2)
            clear hF e1 e2
            go_wp2_with fail
            go_ret2
            exact ⟨by rw [HE.out.1, HE.out.2]; rfl, HB2.out⟩
          · rw [if_pos (by omega)] at hF
            have HST : Hid (FvRel gs w R (.int .i64 (m + q)) (.int .i64 ((k + 1 : Nat) : Int)) w2) := Lib.hid ⟨k + 1, m + q, by omega, rfl, rfl, by omega, by omega, hF, HB2.out⟩
            clear hF
            go_wp2_with fail
            go_roundw
            all_goals first | exact HST.out | ((repeat apply Exists.intro); exact ⟨HST.out, rfl⟩) | (simp [intOf]; done) | (simp [intOf]; omega) | omega
      · have hkn : k = n := by have := HN.out; omega
        rw [facF_end m (by rw [← HN.out]; omega)] at hF
        obtain ⟨e1, e2⟩ := HYES.out m hF.symm
        have HE := Lib.hid (And.intro e1 e2)
        clear hF e1 e2
        go_wp2
        go_ret2
        exact ⟨by rw [HE.out.1, HE.out.2]; rfl, hB⟩
end Go.Proofs.Ytlgpleeanmeenaa
namespace Go.Proofs.Ytlgpleeanmeenaa
open Go.RowKit
open Wd
set_option linter.unusedVariables false

set_option maxRecDepth 100000 in
set_option maxHeartbeats 6400000 in
theorem l06Length_any (v : Value) (gs : List Rl) (w : World) (hf : FewR gs) (hr : Rules w v gs) (hw : WfF gs) :
    Calls Try.prog 83 #[v] w fun e w' => e = .returned (.tuple #[.int .i64 (facN gs), .bool (facOk gs)]) ∧ Below w.heap.size w w' := by
  have hn := hf.len
  have HFW := Lib.hid hf
  obtain ⟨A, c, rfl, hr⟩ := hr
  obtain ⟨n, hng⟩ : ∃ n, n = gs.length := ⟨_, rfl⟩
  rw [← hng] at hn ⊢
  have HN := Lib.hid hng
  have HR := Lib.hid hr
  have HW := Lib.hid hw
  by_cases hlong : 120 < n
  · obtain ⟨e1, e2⟩ := fac_no (facR_long (gs := gs) (by omega))
    rw [e1, e2]
    clear hr hw hng e1 e2
    go_enter Try.func83, Try.ntmps83
    go_wp2
    go_ret2
    exact ⟨rfl, Below.refl _ _⟩
  · obtain ⟨R, hR⟩ : ∃ R, R = facR gs := ⟨_, rfl⟩
    have hR0 : facF (gs.drop 0) 0 = R := by rw [hR, facR_short (by omega)]
    have HNO := Lib.hid (fun (h : R = none) => fac_no (gs := gs) (hR ▸ h))
    have HYES := Lib.hid (fun m (h : R = some m) => fac_yes (gs := gs) (n := m) (hR ▸ h))
    have HR0 := Lib.hid hR0
    generalize facOk gs = ok at *
    generalize facN gs = N at *
    clear hr hw hng hR hR0 hf
    go_enter Try.func83, Try.ntmps83
    go_wp2
    go_loopw [4, 5, 6] (fun nv iv' _ wr => FvRel gs w R nv iv' wr) (fun _ i _ _ => n - (intOf i).toNat)
    case atStart => exact ⟨0, 0, Nat.zero_le _, rfl, rfl, by omega, by omega, HR0.out, Below.refl _ _⟩
    case round =>
      obtain ⟨k, m, hk, rfl, rfl, hm0, hm1, hF, hB⟩ := hrel
      obtain ⟨wo, rfl⟩ : ∃ wo : World, wo = wr := ⟨_, rfl⟩
      by_cases hlt : k < n
      · have hkg : k < gs.length := by rw [← HN.out]; exact hlt
        rcases HR.out with h | ⟨g, rfl, hg, hc⟩
        · rw [h] at hkg; simp at hkg
        obtain ⟨a0, a1, a2⟩ := rules_cells hc hkg
        rw [← hB.cell (p := ⟨g, k * 3, none⟩) hg] at a0
        rw [← hB.cell (p := ⟨g, k * 3 + 1, none⟩) hg] at a1
        rw [← hB.cell (p := ⟨g, k * 3 + 2, none⟩) hg] at a2
        rw [facF_drop m hkg] at hF
        have hszL := HFW.out.at_ k hkg
        have hwl := (HW.out k hkg).1
        have hwB := (Below.refl wo.heap.size wo).alloc (Nat.le_refl _) (.cells #[.string gs[k].L, .int .i64 gs[k].l, .int .i64 gs[k].r] 92)
        have HB := Lib.hid (hB.trans (hwB.mono hB.size))
        have hbs := hB.size
        have t1 : (0 : Int) ≤ (k : Int) := by omega
        have t2 : (k : Int) < (n : Int) := by omega
        have HST := Lib.hid (fun q (hq : 0 ≤ q ∧ q ≤ 1000000000000000) (h : facF (gs.drop (k + 1)) q = R) => show FvRel gs w R (.int .i64 q) (.int .i64 ((k + 1 : Nat) : Int)) (wo.alloc (.cells #[.string gs[k].L, .int .i64 gs[k].l, .int .i64 gs[k].r] 92)) from ⟨k + 1, q, by omega, rfl, rfl, hq.1, hq.2, h, HB.out⟩)
        generalize facF (gs.drop (k + 1)) = FF at *
        unfold facFits facLn at hF
        generalize gs[k].L = L at *
        generalize gs[k].l = l at *
        generalize gs[k].r = r at *
        clear hc hk hB hwB
        by_cases h0 : L.size = 0
        · rw [if_pos h0, if_pos h0] at hF
          obtain rfl := empty_arr h0
          clear h0 hszL
          by_cases hbad : r < 1 ∨ l < 0 ∨ m < l ∨ (0 ≤ l ∧ m - l < r)
          · rw [if_neg (by simp; omega)] at hF
            obtain ⟨e1, e2⟩ := HNO.out hF.symm
            have HE := Lib.hid (And.intro e1 e2)
            clear hF e1 e2
            by_cases g1 : r < 1
            · go_wp2_with fail
              go_ret2
              exact ⟨by rw [HE.out.1, HE.out.2]; rfl, HB.out⟩
            · by_cases g2 : l < 0
              · go_wp2_with fail
                go_ret2
                exact ⟨by rw [HE.out.1, HE.out.2]; rfl, HB.out⟩
              · by_cases g3 : m < l
                · go_wp2_with fail
                  go_ret2
                  exact ⟨by rw [HE.out.1, HE.out.2]; rfl, HB.out⟩
                · have hwr : IntKind.i64.wrap (m - l) = m - l := IntWalk.i64_in _ (by omega)
                  have g4 : m - l < r := by omega
                  go_wp2_with fail
                  go_ret2
                  exact ⟨by rw [HE.out.1, HE.out.2]; rfl, HB.out⟩
          · rw [if_pos (by simp; omega)] at hF
            have g1 : ¬ r < 1 := by omega
            have g2 : ¬ l < 0 := by omega
            have g3 : ¬ m < l := by omega
            have g4 : ¬ m - l < r := by omega
            have hwr : IntKind.i64.wrap (m - l) = m - l := IntWalk.i64_in _ (by omega)
            have hws : IntKind.i64.wrap (m + r) = m + r := IntWalk.i64_in _ (by omega)
            clear hbad
            by_cases hbig : 1000000000000000 < m + r
            · rw [if_neg (by omega)] at hF
              obtain ⟨e1, e2⟩ := HNO.out hF.symm
              have HE := Lib.hid (And.intro e1 e2)
              clear hF e1 e2
              go_wp2_with fail
              go_ret2
              exact ⟨by rw [HE.out.1, HE.out.2]; rfl, HB.out⟩
            · rw [if_pos (by omega)] at hF
              have HS1 := Lib.hid (HST.out (m + r) (by omega) hF)
              clear hF
              go_wp2_with fail
              go_roundw
              all_goals first | exact HS1.out | ((repeat apply Exists.intro); exact ⟨HS1.out, rfl⟩) | (simp [intOf]; done) | (simp [intOf]; omega) | omega
        · rw [if_neg h0, if_neg h0] at hF
          have he := full_list h0
          have HL := Lib.hid (fun W => l05Letter_any L W hszL)
          clear h0 hszL
          cases hL : isL L
          · rw [hL] at HL hF
            rw [if_neg (by simp)] at hF
            obtain ⟨e1, e2⟩ := HNO.out hF.symm
            have HE := Lib.hid (And.intro e1 e2)
            clear hF e1 e2 hL
            go_wp2_with (go_at_call 141; refine (HL.out _).mono ?_; rintro e w' ⟨rfl, rfl⟩)
            go_ret2
            exact ⟨by rw [HE.out.1, HE.out.2]; rfl, HB.out⟩
          · rw [hL] at HL hF
            clear hL
            by_cases hl0 : l = 0
            · by_cases hr0 : r = 0
              · rw [if_pos (by simp [hl0, hr0])] at hF
                subst hl0 hr0
                have hws : IntKind.i64.wrap (m + 1) = m + 1 := IntWalk.i64_in _ (by omega)
                by_cases hbig : 1000000000000000 < m + 1
                · rw [if_neg (by omega)] at hF
                  obtain ⟨e1, e2⟩ := HNO.out hF.symm
                  have HE := Lib.hid (And.intro e1 e2)
                  clear hF e1 e2
                  go_wp2_with (go_at_call 141; refine (HL.out _).mono ?_; rintro e w' ⟨rfl, rfl⟩)
                  go_ret2
                  exact ⟨by rw [HE.out.1, HE.out.2]; rfl, HB.out⟩
                · rw [if_pos (by omega)] at hF
                  have HS1 := Lib.hid (HST.out (m + 1) (by omega) hF)
                  clear hF
                  go_wp2_with (go_at_call 141; refine (HL.out _).mono ?_; rintro e w' ⟨rfl, rfl⟩)
                  go_roundw
                  all_goals first | exact HS1.out | ((repeat apply Exists.intro); exact ⟨HS1.out, rfl⟩) | (simp [intOf]; done) | (simp [intOf]; omega) | omega
              · rw [if_neg (by simp [hr0])] at hF
                have hr1 : (r == 0) = false := by rw [beq_eq_false_iff_ne]; exact hr0
                subst hl0
                obtain ⟨e1, e2⟩ := HNO.out hF.symm
                have HE := Lib.hid (And.intro e1 e2)
                clear hF e1 e2
                go_wp2_with (go_at_call 141; refine (HL.out _).mono ?_; rintro e w' ⟨rfl, rfl⟩)
                go_ret2
                exact ⟨by rw [HE.out.1, HE.out.2]; rfl, HB.out⟩
            · rw [if_neg (by simp [hl0])] at hF
              have hl1 : (l == 0) = false := by rw [beq_eq_false_iff_ne]; exact hl0
              obtain ⟨e1, e2⟩ := HNO.out hF.symm
              have HE := Lib.hid (And.intro e1 e2)
              clear hF e1 e2
              go_wp2_with (go_at_call 141; refine (HL.out _).mono ?_; rintro e w' ⟨rfl, rfl⟩)
              go_ret2
              exact ⟨by rw [HE.out.1, HE.out.2]; rfl, HB.out⟩
      · have hkn : k = n := by have := HN.out; omega
        rw [facF_end m (by rw [← HN.out]; omega)] at hF
        obtain ⟨e1, e2⟩ := HYES.out m hF.symm
        have HE := Lib.hid (And.intro e1 e2)
        clear hF e1 e2
        go_wp2
        go_ret2
        exact ⟨by rw [HE.out.1, HE.out.2]; rfl, hB⟩

theorem specValidFactors (v : Value) (gs : List Rl) (w : World) (hf : FewR gs) (hr : Rules w v gs) (hw : WfF gs) :
    Calls Try.prog 25 #[v] w fun e w' => e = .returned (.bool (facOk gs)) ∧ Below w.heap.size w w' := by
  have HC := Lib.hid (l06Length_any v gs w hf hr hw)
  obtain ⟨A, c, rfl, _⟩ := hr
  go_enter Try.func25, Try.ntmps25
  go_wp2_with fail
  refine HC.out.mono ?_
  rintro e w1 ⟨rfl, hB⟩
  go_wp2_with fail
  go_ret
  exact ⟨rfl, hB⟩
theorem implValidFactors (v : Value) (gs : List Rl) (w : World) (hf : FewR gs) (hr : Rules w v gs) (hw : WfF gs) :
    Calls Try.prog 26 #[v] w fun e w' => e = .returned (.bool (facOk gs)) ∧ Below w.heap.size w w' := by
  have HC := Lib.hid (vfl_any v gs w hf hr hw)
  obtain ⟨A, c, rfl, _⟩ := hr
  go_enter Try.func26, Try.ntmps26
  go_wp2_with fail
  refine HC.out.mono ?_
  rintro e w1 ⟨rfl, hB⟩
  go_wp2_with fail
  go_ret
  exact ⟨rfl, hB⟩
end Go.Proofs.Ytlgpleeanmeenaa
namespace Go.Proofs.Ytlgpleeanmeenaa
open Go.RowKit
open Wd
set_option linter.unusedVariables false
theorem jpF_le (P : Nat → List Rl → List Rl × Int) : ∀ (m k : Nat) (g : List Rl), g.length ≤ 1048576 → (jpF P m k g).1.length ≤ 1048576
  | 0, k, g, h => by unfold jpF; exact h
  | m + 1, k, g, h => by
    unfold jpF
    split
    · split
      · next hj =>
        refine jpF_le P m (k + 1) _ ?_
        have h1 := trimG_le (joinG g (P k g).1)
        have h2 := (gOk_iff.1 hj).1
        omega
      · simp
    · simp
theorem gramFactorsGrammar_len (fs : List Rl) (hf : FewR fs) : (gramFactorsGrammar fs).1.length ≤ 1048576 := by
  unfold gramFactorsGrammar
  split
  · exact jpF_le _ _ _ _ (by simp)
  · simp
theorem specFactorsGrammar (v : Value) (fs : List Rl) (w : World) (hf : FewR fs) (hr : Rules w v fs) (hw : WfF fs) :
    Calls Try.prog 15 #[v] w fun e w' => ∃ y, e = .returned (.tuple #[.agg #[y], .int .i64 (gramFactorsGrammar fs).2]) ∧ OwnsR w' w.heap.size y (gramFactorsGrammar fs).1 ∧ Below w.heap.size w w' :=
  specFactorsGrammar_by v fs w hf hr (fun W hW => specValidFactors v fs W hf hW hw) (fun s W hs => l02Plain_any s W hs)
theorem implFactorsGrammar (v : Value) (fs : List Rl) (w : World) (hf : FewR fs) (hr : Rules w v fs) (hw : WfF fs) :
    Calls Try.prog 17 #[v] w fun e w' => ∃ y, e = .returned (.tuple #[.agg #[y], .int .i64 (gramFactorsGrammar fs).2]) ∧ OwnsR w' w.heap.size y (gramFactorsGrammar fs).1 ∧ Below w.heap.size w w' :=
  implFactorsGrammar_by v fs w hf hr (fun W hW => implValidFactors v fs W hf hW hw) (fun s W hs => implPlainGrammar s W hs)
end Go.Proofs.Ytlgpleeanmeenaa
namespace Go.Proofs.Ytlgpleeanmeenaa
open Go.RowKit
open Wd
set_option linter.unusedVariables false

namespace Wd
/-- the digits of a number, in front of a text -/
def dig : Nat → Nat → ByteArray → ByteArray
  | 0, _, out => out
  | f + 1, k, out => if k = 0 then out else dig f (k / 10) (⟨#[UInt8.ofNat (48 + k % 10)]⟩ ++ out)
theorem dig_done (f : Nat) (out : ByteArray) : dig f 0 out = out := by cases f <;> simp [dig]
theorem dig_step {f k : Nat} (out : ByteArray) (h : 0 < k) (hf : k ≤ f + 1) : dig (f + 1) k out = dig f (k / 10) (⟨#[UInt8.ofNat (48 + k % 10)]⟩ ++ out) := by
  rw [dig, if_neg (by omega)]
/-- the text of a mark -/
def mkT (k : Nat) : ByteArray := if k = 0 then ⟨#[109, 48]⟩ else ⟨#[109]⟩ ++ dig k k ⟨#[]⟩
end Wd

set_option maxRecDepth 100000 in
set_option maxHeartbeats 800000 in
theorem markText_pos (n : Nat) (h0 : 0 < n) (h1 : n ≤ 4000000) (w : World) :
    Calls Try.prog 75 #[.int .i64 n] w fun e w' => e = .returned (.string (mkT n)) ∧ Below w.heap.size w w' := by
  have hmk : mkT n = ⟨#[109]⟩ ++ dig n n ⟨#[]⟩ := by rw [mkT, if_neg (by omega)]
  have HM := Lib.hid hmk
  have hp : (0 : Int) < (n : Int) := by omega
  clear hmk
  go_enter Try.func75, Try.ntmps75
  go_wp2
  go_loopw [3, 0] (fun x i wr => ∃ (k f : Nat) (out : ByteArray), i = .int .i64 k ∧ x = .string out ∧ k ≤ f ∧ k ≤ n ∧ out.size + k ≤ n ∧ dig f k out = dig n n ⟨#[]⟩ ∧ Below w.heap.size w wr)
    (fun _ i _ => (intOf i).toNat)
  case atStart => exact ⟨n, n, ⟨#[]⟩, rfl, rfl, Nat.le_refl _, Nat.le_refl _, by simp [ByteArray.size], rfl, Below.refl _ _⟩
  case round =>
    obtain ⟨k, f, out, rfl, rfl, hf, hkn, hsz, hd, hB⟩ := hrel
    by_cases hk : 0 < k
    · obtain ⟨f', rfl⟩ : ∃ f', f = f' + 1 := ⟨f - 1, by omega⟩
      rw [dig_step out hk hf] at hd
      have hlt : k / 10 < k := Nat.div_lt_self hk (by omega)
      have hmod : k % 10 < 10 := Nat.mod_lt _ (by omega)
      have hu : (UInt8.ofNat (48 + k % 10)).toNat = 48 + k % 10 := by simp; omega
      generalize hcc : UInt8.ofNat (48 + k % 10) = c at hd hu
      have hs2 := hB.size
      have hconv : (convert 69 9 (.slice (some ⟨wr.heap.size, 0, none⟩) 1 1)).run Try.prog (wr.alloc (.cells #[.int .u8 (48 + (k : Int) % 10)] 5)) = .ok (.string ⟨#[c]⟩) (wr.alloc (.cells #[.int .u8 (48 + (k : Int) % 10)] 5)) := run_convert_bytes_back (P := Try.prog) (wr.alloc (.cells #[.int .u8 (48 + (k : Int) % 10)] 5)) 69 9 5 ⟨wr.heap.size, 0, none⟩ 1 [c] Try.underlying69 Try.underlying5 Try.underlying9 (fun j hj => by
        match j, hj with
        | 0, _ => simp [Addr.add, hu])
      have hadd := run_string_add_sum (P := Try.prog) (wr.alloc (.cells #[.int .u8 (48 + (k : Int) % 10)] 5)) ⟨#[c]⟩ out (by have : (⟨#[c]⟩ : ByteArray).size = 1 := rfl; omega)
      have hso : (⟨#[c]⟩ ++ out : ByteArray).size = 1 + out.size := by rw [ByteArray.size_append]; rfl
      have HD := Lib.hid hd
      clear hd hcc hu
      have kp : (0 : Int) < (k : Int) := by omega
      go_wp2
      go_roundw
      case rel => exact ⟨k / 10, f', _, by go_num, rfl, by omega, by omega, by rw [hso]; omega, HD.out, hB.alloc hs2 _⟩
      case measure => simp [intOf]; omega
    · have hk0 : k = 0 := by omega
      subst hk0
      rw [dig_done] at hd
      subst hd
      have hadd := run_string_add_sum (P := Try.prog) wr ⟨#[109]⟩ (dig n n ⟨#[]⟩) (by have : (⟨#[109]⟩ : ByteArray).size = 1 := rfl; omega)
      rw [← HM.out] at hadd
      go_wp2
      go_ret
      exact ⟨rfl, hB⟩

theorem markText (n : Nat) (h1 : n ≤ 4000000) (w : World) :
    Calls Try.prog 75 #[.int .i64 n] w fun e w' => e = .returned (.string (mkT n)) ∧ Below w.heap.size w w' := by
  by_cases h0 : 0 < n
  · exact markText_pos n h0 h1 w
  · have : n = 0 := by omega
    subst this
    go_enter Try.func75, Try.ntmps75
    go_wp2
    go_ret
    exact ⟨rfl, Below.refl _ _⟩
end Go.Proofs.Ytlgpleeanmeenaa
namespace Go.Proofs.Ytlgpleeanmeenaa
open Go.RowKit
open Wd
set_option linter.unusedVariables false

namespace Wd
/-- the marks' rules -/
def mkR (k n : Nat) : List Rl := (List.range n).map fun j => ⟨mkT (k + 3 * j), ((k + 3 * j + 1 : Nat) : Int), ((k + 3 * j + 2 : Nat) : Int)⟩
theorem mkR_len (k n : Nat) : (mkR k n).length = n := by simp [mkR]
theorem mkR_set (k : Nat) (gs : List Rl) (j : Nat) (h : j < gs.length) :
    (mkR k j ++ gs.drop j).set j ⟨mkT (k + 3 * j), ((k + 3 * j + 1 : Nat) : Int), ((k + 3 * j + 2 : Nat) : Int)⟩ = mkR k (j + 1) ++ gs.drop (j + 1) := by
  have e2 : (mkR k j).length = j := mkR_len k j
  rw [List.set_append_right _ _ (by omega), e2, Nat.sub_self, List.drop_eq_getElem_cons h, List.set_cons_zero]
  simp [mkR, List.range_succ]
theorem mkR_all (k : Nat) (gs : List Rl) : mkR k gs.length ++ gs.drop gs.length = mkR k gs.length := by simp
end Wd
theorem rGrownBelow {w w' : World} (h : Below w.heap.size w w') (row : Option Nat) : w.grownBy w' row := ⟨h.os, h.tape, h.output, h.size, fun i hi _ => h.block i hi⟩
theorem rGrownTrans {a b c : World} {row : Option Nat} (h : a.grownBy b row) (h' : b.grownBy c row) : a.grownBy c row :=
  ⟨h'.os.trans h.os, h'.tape.trans h.tape, h'.output.trans h.output, Nat.le_trans h.size h'.size, fun i hi hne => (h'.block i (Nat.lt_of_lt_of_le hi h.size) hne).trans (h.block i hi hne)⟩
theorem own_cells3 {w : World} {B e g c : Nat} {gs : List Rl} (h : w.ownsRow B e 3 (.slice (some ⟨g, 0, none⟩) gs.length c) gs.length (rv gs)) (k : Nat) (hk : k < gs.length) :
    (w.cell? ⟨g, k * 3, none⟩ = some (.string gs[k].L) ∧ w.cell? ⟨g, k * 3 + 1, none⟩ = some (.int .i64 gs[k].l) ∧ w.cell? ⟨g, k * 3 + 2, none⟩ = some (.int .i64 gs[k].r)) ∧
    w.frozen? ⟨g, k * 3, none⟩ = false ∧ w.frozen? ⟨g, k * 3 + 1, none⟩ = false ∧ w.frozen? ⟨g, k * 3 + 2, none⟩ = false := by
  refine ⟨⟨?_, ?_, ?_⟩, h.frozenAt _, h.frozenAt _, h.frozenAt _⟩
  · rw [h.cellAt (k * 3) (by omega)]; exact rv_get gs k hk 0 (by omega)
  · rw [h.cellAt (k * 3 + 1) (by omega)]; exact rv_get gs k hk 1 (by omega)
  · rw [h.cellAt (k * 3 + 2) (by omega)]; exact rv_get gs k hk 2 (by omega)

theorem markR_zero (a : Option Addr) (c : Nat) (k : Int) (w : World) :
    Calls Try.prog 76 #[.slice a 0 c, .int .i64 k] w fun e w' => e = .returned (.int .i64 k) ∧ w = w' := by
  go_enter Try.func76, Try.ntmps76
  go_wp2
  refine wp_loop_rounds 1 ?_
  rw [rounds_succ]
  go_wp2
  go_ret
  exact ⟨rfl, rfl⟩

set_option maxRecDepth 100000 in
set_option maxHeartbeats 1600000 in
theorem markR_some (g c n B : Nat) (gs : List Rl) (hng : gs.length = n) (hn : n ≤ 1048576) (k : Nat) (hk1 : k + 3 * n ≤ 3900000) (w : World) (h : w.ownsRow B 146 3 (.slice (some ⟨g, 0, none⟩) n c) n (rv gs)) :
    Calls Try.prog 76 #[.slice (some ⟨g, 0, none⟩) n c, .int .i64 k] w fun e w' => e = .returned (.int .i64 ((k : Int) + 3 * n)) ∧
      w'.ownsRow B 146 3 (.slice (some ⟨g, 0, none⟩) n c) n (rv (mkR k n)) ∧ w.grownBy w' (some g) := by
  have HN := Lib.hid hng
  clear hng
  go_enter Try.func76, Try.ntmps76
  go_wp2
  go_loopw [1, 5] (fun q i wr => ∃ j : Nat, j ≤ n ∧ i = .int .i64 j ∧ q = .int .i64 ((k + 3 * j : Nat) : Int) ∧ wr.ownsRow B 146 3 (.slice (some ⟨g, 0, none⟩) n c) n (rv (mkR k j ++ gs.drop j)) ∧ w.grownBy wr (some g))
    (fun _ i _ => n - (intOf i).toNat)
  case atStart => exact ⟨0, Nat.zero_le _, rfl, rfl, by simpa [mkR] using h, World.grownBy.refl _ _⟩
  case round =>
    obtain ⟨j, hj, rfl, rfl, hown, hgr⟩ := hrel
    by_cases hlt : j < n
    · have hjz : j < gs.length := by rw [HN.out]; exact hlt
      have hl : (mkR k j ++ gs.drop j).length = n := by rw [List.length_append, mkR_len, List.length_drop, HN.out]; omega
      have HM := Lib.hid (markText (k + 3 * j) (by omega) wr)
      have HST := Lib.hid (mkR_set k gs j hjz)
      generalize hq : k + 3 * j = q at HM HST ⊢
      have HQ := Lib.hid hq
      have hq1 : q ≤ 3900000 := by omega
      have HO := Lib.hid hown
      have HGR := Lib.hid hgr
      clear hq hown hgr
      go_wp2_with fail
      refine HM.out.mono ?_
      rintro e w1 ⟨rfl, hb1⟩
      have hown1 := own_below HO.out hb1 (Nat.le_refl _)
      obtain ⟨⟨c0, c1, c2⟩, f0, f1, f2⟩ := own_cells3 (by rw [hl]; exact hown1) j (by rw [hl]; exact hlt)
      have hst := own_set3 hown1 j (by rw [hl]; exact hlt) ⟨mkT q, ((q + 1 : Nat) : Int), ((q + 2 : Nat) : Int)⟩
      rw [HST.out] at hst
      have hg2 := rGrownTrans HGR.out (rGrownTrans (rGrownBelow hb1 (some g)) (only_setCell (only_setCell (only_setCell (World.grownBy.refl w1 (some g)) (p := ⟨g, j * 3, none⟩) (.inl rfl) (.string (mkT q))) (p := ⟨g, j * 3 + 1, none⟩) (.inl rfl) (.int .i64 ((q + 1 : Nat) : Int))) (p := ⟨g, j * 3 + 2, none⟩) (.inl rfl) (.int .i64 ((q + 2 : Nat) : Int))))
      generalize (mkR k j ++ gs.drop j)[j] = z at c0 c1 c2
      obtain ⟨zL, zl, zr⟩ := z
      simp only at c0 c1 c2
      simp only at hst
      generalize mkT q = t at *
      have HS2 := Lib.hid hst
      have HG2 := Lib.hid hg2
      clear hst hg2 hown1 hb1 HM HST hl hjz
      go_wp2
      go_roundw
      case rel => exact ⟨j + 1, by omega, by go_num, by have := HQ.out; go_num, HS2.out, HG2.out⟩
      case measure => simp [intOf]; omega
    · have hjn : j = n := by omega
      have hown' : wr.ownsRow B 146 3 (.slice (some ⟨g, 0, none⟩) n c) n (rv (mkR k n)) := by
        rw [hjn, ← HN.out, mkR_all, HN.out] at hown; exact hown
      have HJ := Lib.hid hjn
      clear hjn hown
      go_wp2
      go_ret
      exact ⟨ret_int (by have := HJ.out; omega), hown', hgr⟩

theorem markGrammar_any (v : Value) (gs : List Rl) (B : Nat) (k : Nat) (hk1 : k + 3 * gs.length ≤ 3900000) (w : World) (h : OwnsR w B v gs) (hn : gs.length ≤ 1048576) :
    Calls Try.prog 21 #[.agg #[v], .int .i64 k] w fun e w' => e = .returned (.int .i64 ((k : Int) + 3 * gs.length)) ∧ OwnsR w' B v (mkR k gs.length) ∧ w.grownBy w' v.ownBlock := by
  have hb := (Below.refl _ w).alloc (Nat.le_refl _) (.cells #[v] 26)
  have h1 := own_below h hb (Nat.le_refl _)
  rcases h.2 with ⟨rfl, h0⟩ | ⟨g, c, cur, rfl, _⟩
  · have HB := Lib.hid hb
    have hgs : gs = [] := List.eq_nil_of_length_eq_zero h0
    subst hgs
    have HZ := Lib.hid (fun W => markR_zero none 0 k W)
    clear h h1 h0 hb
    go_enter Try.func21, Try.ntmps21
    go_wp2_with fail
    refine (HZ.out _).mono ?_
    rintro e w1 ⟨rfl, rfl⟩
    go_wp2_with fail
    go_ret
    exact ⟨by simp, World.ownsRow_nil _ _ _ _, rGrownBelow HB.out _⟩
  · have HB := Lib.hid hb
    have HM := Lib.hid (markR_some g c gs.length B gs rfl hn k hk1 _ h1)
    clear h h1 hb
    go_enter Try.func21, Try.ntmps21
    go_wp2_with fail
    refine HM.out.mono ?_
    rintro e w1 ⟨rfl, h2, h3⟩
    have H2 := Lib.hid h2
    have H3 := Lib.hid h3
    clear h2 h3
    go_wp2_with fail
    go_ret
    exact ⟨rfl, by unfold OwnsR; rw [mkR_len]; exact H2.out, rGrownTrans (rGrownBelow HB.out _) H3.out⟩
end Go.Proofs.Ytlgpleeanmeenaa
namespace Go.Proofs.Ytlgpleeanmeenaa
open Go.RowKit
open Wd
set_option linter.unusedVariables false

theorem heldR_zero (a : Option Addr) (c : Nat) (k : Int) (w : World) :
    Calls Try.prog 77 #[.slice a 0 c, .int .i64 k] w fun e w' => e = .returned (.int .i64 k) ∧ w = w' := by
  go_enter Try.func77, Try.ntmps77
  go_wp2
  refine wp_loop_rounds 1 ?_
  rw [rounds_succ]
  go_wp2
  go_ret
  exact ⟨rfl, rfl⟩

theorem mkR_at (k n j : Nat) (h : j < n) : (mkR k n)[j]? = some ⟨mkT (k + 3 * j), ((k + 3 * j + 1 : Nat) : Int), ((k + 3 * j + 2 : Nat) : Int)⟩ := by
  simp [mkR, h]

set_option maxRecDepth 100000 in
set_option maxHeartbeats 1600000 in
theorem heldR_some (g c n : Nat) (hn : n ≤ 1048576) (k : Nat) (hk1 : k ≤ 100000) (w : World) (hg : g < w.heap.size) (h : ∀ j u, (rv (mkR k n))[j]? = some u → w.cell? ⟨g, j, none⟩ = some u) :
    Calls Try.prog 77 #[.slice (some ⟨g, 0, none⟩) n c, .int .i64 k] w fun e w' => e = .returned (.int .i64 ((k : Int) + 3 * n)) ∧ Below w.heap.size w w' := by
  have H := Lib.hid h
  clear h
  go_enter Try.func77, Try.ntmps77
  go_wp2
  go_loopw [1, 5] (fun q i wr => ∃ j : Nat, j ≤ n ∧ i = .int .i64 j ∧ q = .int .i64 ((k + 3 * j : Nat) : Int) ∧ Below w.heap.size w wr) (fun _ i _ => n - (intOf i).toNat)
  case atStart => exact ⟨0, Nat.zero_le _, rfl, rfl, Below.refl _ _⟩
  case round =>
    obtain ⟨j, hj, rfl, rfl, hB⟩ := hrel
    by_cases hlt : j < n
    · have hjl : j < (mkR k n).length := by rw [mkR_len]; exact hlt
      obtain ⟨c0, c1, c2⟩ := rules_cells H.out hjl
      have hm : (mkR k n)[j] = ⟨mkT (k + 3 * j), ((k + 3 * j + 1 : Nat) : Int), ((k + 3 * j + 2 : Nat) : Int)⟩ := by
        have := mkR_at k n j hlt
        rw [List.getElem?_eq_getElem hjl] at this
        simpa using this
      rw [hm] at c0 c1 c2
      have HM := Lib.hid (fun W => markText (k + 3 * j) (by omega) W)
      generalize hq : k + 3 * j = q at HM c0 c1 c2 ⊢
      have HQ := Lib.hid hq
      have hq1 : q ≤ 3500000 := by omega
      simp only at c0 c1 c2
      generalize mkT q = t at *
      have hc := (hB.cell (p := ⟨g, j * 3, none⟩) hg).trans c0
      have hc1 := (hB.cell (p := ⟨g, j * 3 + 1, none⟩) hg).trans c1
      have hc2 := (hB.cell (p := ⟨g, j * 3 + 2, none⟩) hg).trans c2
      have gl : g < wr.heap.size := Nat.lt_of_lt_of_le hg hB.size
      have HB := Lib.hid hB
      have HC1 := Lib.hid hc1
      have HC2 := Lib.hid hc2
      clear hq hjl hm c0 c1 c2 hB hc1 hc2
      have j0 : (0 : Int) ≤ (j : Int) := by omega
      have j1 : (j : Int) < (n : Int) := by omega
      go_wp2
      go_region_held3 (fun w' => w'.cell? ⟨g, j * 3, none⟩ = some (.string t)) (first | assumption | go_keep) ((first | (go_at_call 75; refine (HM.out _).mono ?_; rintro e w2 ⟨rfl, hb2⟩; have hq2 := (hb2.cell (p := ⟨g, j * 3, none⟩) (by simpa using gl)).trans hc; have HB2 := Lib.hid hb2; clear hb2)))
      have hd1 := (HB2.out.cell (p := ⟨g, j * 3 + 1, none⟩) (by simpa using gl)).trans HC1.out
      have hd2 := (HB2.out.cell (p := ⟨g, j * 3 + 2, none⟩) (by simpa using gl)).trans HC2.out
      have hb3 : Below w.heap.size w w2 := (HB.out.drew).trans (HB2.out.mono (show w.heap.size ≤ wr.drew.heap.size from HB.out.size))
      clear hc hq2
      go_wp2
      go_roundw
      case rel => exact ⟨j + 1, by omega, by go_num, by have := HQ.out; go_num, hb3⟩
      case measure => simp [intOf]; omega
    · have hjn : j = n := by omega
      have HJ := Lib.hid hjn
      clear hjn
      go_wp2
      go_ret
      exact ⟨ret_int (by have := HJ.out; omega), hB⟩

theorem heldGrammar_any (v : Value) (n B : Nat) (k : Nat) (hk1 : k ≤ 100000) (w : World) (h : OwnsR w B v (mkR k n)) (hn : n ≤ 1048576) :
    Calls Try.prog 22 #[.agg #[v], .int .i64 k] w fun e w' => e = .returned (.int .i64 ((k : Int) + 3 * n)) ∧ Below w.heap.size w w' := by
  have hb := (Below.refl _ w).alloc (Nat.le_refl _) (.cells #[v] 26)
  have h1 := own_below h hb (Nat.le_refl _)
  unfold OwnsR at h1
  rw [mkR_len] at h1
  have hk0 : ¬ ((k : Int) + 3 * n) < 0 := by omega
  rcases h1.2 with ⟨rfl, h0⟩ | ⟨g, c, cur, rfl, _, hh, _⟩
  · have HB := Lib.hid hb
    subst h0
    have HZ := Lib.hid (fun W => heldR_zero none 0 k W)
    clear h h1 hb
    go_enter Try.func22, Try.ntmps22
    go_wp2_with fail
    refine (HZ.out _).mono ?_
    rintro e w1 ⟨rfl, rfl⟩
    go_wp2_with fail
    go_ret
    exact ⟨by simp, HB.out⟩
  · have HB := Lib.hid hb
    have hg := (Array.getElem?_eq_some_iff.1 hh).1
    have HM := Lib.hid (heldR_some g c n hn k hk1 _ hg (fun j u hu => by have := h1.cells (g := g) rfl j u hu; unfold Addr.add at this; split at this <;> simp_all))
    clear h h1 hb hh hg
    go_enter Try.func22, Try.ntmps22
    go_wp2_with fail
    refine HM.out.mono ?_
    rintro e w1 ⟨rfl, hB1⟩
    have HB1 := Lib.hid (HB.out.trans (hB1.mono (by simp)))
    clear hB1
    go_wp2_with fail
    go_ret
    exact ⟨rfl, HB1.out⟩
end Go.Proofs.Ytlgpleeanmeenaa
namespace Go.Proofs.Ytlgpleeanmeenaa
open Go.RowKit
open Wd
set_option linter.unusedVariables false

theorem eqFactor_same (x : Rl) (w : World) : Calls Try.prog 74 #[agg3 x, agg3 x] w fun e w' => e = .returned (.bool true) ∧ Below w.heap.size w w' := by
  obtain ⟨L, l, r⟩ := x
  go_enter Try.func74, Try.ntmps74
  go_wp2
  go_ret
  exact ⟨rfl, ((Below.refl _ _).alloc (Nat.le_refl _) _).alloc (by simp) _⟩

set_option maxRecDepth 100000 in
set_option maxHeartbeats 1600000 in
theorem eqFactorS_same (u v : Value) (gs : List Rl) (w : World) (hn : gs.length ≤ 1048576) (h1 : Rules w u gs) (h2 : Rules w v gs) :
    Calls Try.prog 19 #[u, v] w fun e w' => e = .returned (.bool true) ∧ Below w.heap.size w w' := by
  obtain ⟨A1, c1, rfl, h1⟩ := h1
  obtain ⟨A2, c2, rfl, h2⟩ := h2
  obtain ⟨n, hng⟩ : ∃ n, n = gs.length := ⟨_, rfl⟩
  rw [← hng] at hn ⊢
  have HN := Lib.hid hng
  have H1 := Lib.hid h1
  have H2 := Lib.hid h2
  clear h1 h2 hng
  go_enter Try.func19, Try.ntmps19
  go_wp2
  go_loopw [5] (fun i wr => ∃ k : Nat, k ≤ n ∧ i = .int .i64 k ∧ Below w.heap.size w wr) (fun i _ => n - (intOf i).toNat)
  case atStart => exact ⟨0, Nat.zero_le _, rfl, Below.refl _ _⟩
  case round =>
    obtain ⟨k, hk, rfl, hB⟩ := hrel
    by_cases hlt : k < n
    · have hkg : k < gs.length := by rw [← HN.out]; exact hlt
      rcases H1.out with hn | ⟨g1, rfl, hg1, hc1⟩
      · rw [hn] at hkg; simp at hkg
      rcases H2.out with hn | ⟨g2, rfl, hg2, hc2⟩
      · rw [hn] at hkg; simp at hkg
      obtain ⟨a0, a1, a2⟩ := rules_cells hc1 hkg
      obtain ⟨b0, b1, b2⟩ := rules_cells hc2 hkg
      rw [← hB.cell (p := ⟨g1, k * 3, none⟩) hg1] at a0
      rw [← hB.cell (p := ⟨g1, k * 3 + 1, none⟩) hg1] at a1
      rw [← hB.cell (p := ⟨g1, k * 3 + 2, none⟩) hg1] at a2
      rw [← hB.cell (p := ⟨g2, k * 3, none⟩) hg2] at b0
      rw [← hB.cell (p := ⟨g2, k * 3 + 1, none⟩) hg2] at b1
      rw [← hB.cell (p := ⟨g2, k * 3 + 2, none⟩) hg2] at b2
      have HQ := Lib.hid (fun W => eqFactor_same gs[k] W)
      clear hc1 hc2 hg1 hg2
      have HB := Lib.hid hB
      clear hB
      go_wp2
      go_still_tail 8, (by kernel_rfl)
      change wpList _ _ _ _ _ wr.drew
      have hB2 : Below w.heap.size w wr.drew := HB.out.drew
      generalize wr.drew = w2 at hB2 ⊢
      clear HB a0 a1 a2 b0 b1 b2
      have HB2 := Lib.hid hB2
      clear hB2
      go_wp2_with fail
      refine (HQ.out _).mono ?_; rintro e w' ⟨rfl, hB'⟩
      have hB3 := HB2.out.trans (hB'.mono HB2.out.size)
      clear hB'
      go_wp2
      go_roundw
      case rel => exact ⟨k + 1, by omega, by go_num, hB3⟩
      case measure => simp [intOf]; omega
    · go_wp2
      go_ret
      exact ⟨rfl, hB⟩
end Go.Proofs.Ytlgpleeanmeenaa
namespace Go.Proofs.Ytlgpleeanmeenaa
open Go.RowKit
open Wd
set_option linter.unusedVariables false

theorem markF_zero (a : Option Addr) (c : Nat) (k : Int) (w : World) :
    Calls Try.prog 20 #[.slice a 0 c, .int .i64 k] w fun e w' => e = .returned (.int .i64 k) ∧ w = w' := by
  go_enter Try.func20, Try.ntmps20
  go_wp2
  refine wp_loop_rounds 1 ?_
  rw [rounds_succ]
  go_wp2
  go_ret
  exact ⟨rfl, rfl⟩

set_option maxRecDepth 100000 in
set_option maxHeartbeats 1600000 in
theorem markF_some (g c n B : Nat) (gs : List Rl) (hng : gs.length = n) (hn : n ≤ 1048576) (k : Nat) (hk1 : k + 3 * n ≤ 3900000) (w : World) (h : w.ownsRow B 92 3 (.slice (some ⟨g, 0, none⟩) n c) n (rv gs)) :
    Calls Try.prog 20 #[.slice (some ⟨g, 0, none⟩) n c, .int .i64 k] w fun e w' => e = .returned (.int .i64 ((k : Int) + 3 * n)) ∧
      w'.ownsRow B 92 3 (.slice (some ⟨g, 0, none⟩) n c) n (rv (mkR k n)) ∧ w.grownBy w' (some g) := by
  have HN := Lib.hid hng
  clear hng
  go_enter Try.func20, Try.ntmps20
  go_wp2
  go_loopw [1, 5] (fun q i wr => ∃ j : Nat, j ≤ n ∧ i = .int .i64 j ∧ q = .int .i64 ((k + 3 * j : Nat) : Int) ∧ wr.ownsRow B 92 3 (.slice (some ⟨g, 0, none⟩) n c) n (rv (mkR k j ++ gs.drop j)) ∧ w.grownBy wr (some g))
    (fun _ i _ => n - (intOf i).toNat)
  case atStart => exact ⟨0, Nat.zero_le _, rfl, rfl, by simpa [mkR] using h, World.grownBy.refl _ _⟩
  case round =>
    obtain ⟨j, hj, rfl, rfl, hown, hgr⟩ := hrel
    by_cases hlt : j < n
    · have hjz : j < gs.length := by rw [HN.out]; exact hlt
      have hl : (mkR k j ++ gs.drop j).length = n := by rw [List.length_append, mkR_len, List.length_drop, HN.out]; omega
      have HM := Lib.hid (markText (k + 3 * j) (by omega) wr)
      have HST := Lib.hid (mkR_set k gs j hjz)
      generalize hq : k + 3 * j = q at HM HST ⊢
      have HQ := Lib.hid hq
      have hq1 : q ≤ 3900000 := by omega
      have HO := Lib.hid hown
      have HGR := Lib.hid hgr
      clear hq hown hgr
      go_wp2_with fail
      refine HM.out.mono ?_
      rintro e w1 ⟨rfl, hb1⟩
      have hown1 := own_below HO.out hb1 (Nat.le_refl _)
      obtain ⟨⟨c0, c1, c2⟩, f0, f1, f2⟩ := own_cells3 (by rw [hl]; exact hown1) j (by rw [hl]; exact hlt)
      have hst := own_set3 hown1 j (by rw [hl]; exact hlt) ⟨mkT q, ((q + 1 : Nat) : Int), ((q + 2 : Nat) : Int)⟩
      rw [HST.out] at hst
      have hg2 := rGrownTrans HGR.out (rGrownTrans (rGrownBelow hb1 (some g)) (only_setCell (only_setCell (only_setCell (World.grownBy.refl w1 (some g)) (p := ⟨g, j * 3, none⟩) (.inl rfl) (.string (mkT q))) (p := ⟨g, j * 3 + 1, none⟩) (.inl rfl) (.int .i64 ((q + 1 : Nat) : Int))) (p := ⟨g, j * 3 + 2, none⟩) (.inl rfl) (.int .i64 ((q + 2 : Nat) : Int))))
      generalize (mkR k j ++ gs.drop j)[j] = z at c0 c1 c2
      obtain ⟨zL, zl, zr⟩ := z
      simp only at c0 c1 c2
      simp only at hst
      generalize mkT q = t at *
      have HS2 := Lib.hid hst
      have HG2 := Lib.hid hg2
      clear hst hg2 hown1 hb1 HM HST hl hjz
      go_wp2
      go_roundw
      case rel => exact ⟨j + 1, by omega, by go_num, by have := HQ.out; go_num, HS2.out, HG2.out⟩
      case measure => simp [intOf]; omega
    · have hjn : j = n := by omega
      have hown' : wr.ownsRow B 92 3 (.slice (some ⟨g, 0, none⟩) n c) n (rv (mkR k n)) := by
        rw [hjn, ← HN.out, mkR_all, HN.out] at hown; exact hown
      have HJ := Lib.hid hjn
      clear hjn hown
      go_wp2
      go_ret
      exact ⟨ret_int (by have := HJ.out; omega), hown', hgr⟩

theorem markFactorS_any (v : Value) (gs : List Rl) (B : Nat) (k : Nat) (hk1 : k + 3 * gs.length ≤ 3900000) (w : World) (h : OwnsF w B v gs) (hn : gs.length ≤ 1048576) :
    Calls Try.prog 20 #[v, .int .i64 k] w fun e w' => e = .returned (.int .i64 ((k : Int) + 3 * gs.length)) ∧ OwnsF w' B v (mkR k gs.length) ∧ w.grownBy w' v.ownBlock := by
  rcases h.2 with ⟨rfl, h0⟩ | ⟨g, c, cur, rfl, _⟩
  · have hgs : gs = [] := List.eq_nil_of_length_eq_zero h0
    subst hgs
    refine (markF_zero none 0 k w).mono ?_
    rintro e w1 ⟨rfl, rfl⟩
    exact ⟨by simp, World.ownsRow_nil _ _ _ _, World.grownBy.refl _ _⟩
  · refine (markF_some g c gs.length B gs rfl hn k hk1 w h).mono ?_
    rintro e w1 ⟨rfl, h2, h3⟩
    exact ⟨rfl, by unfold OwnsF; rw [mkR_len]; exact h2, h3⟩
end Go.Proofs.Ytlgpleeanmeenaa
