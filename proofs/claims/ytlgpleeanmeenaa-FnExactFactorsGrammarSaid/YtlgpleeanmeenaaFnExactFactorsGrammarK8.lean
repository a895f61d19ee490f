/-
  Prt, PartS, GJoinL, FgS, PlainC, in one text.
-/
import Derived.Test.YtlgpleeanmeenaaFnExactFactorsGrammarK7
import Derived.Test.YtlgpleeanmeenaaFnExactFactorsGrammarK1
import Derived.Test.YtlgpleeanmeenaaFnExactFactorsGrammarK6
import Derived.Test.YtlgpleeanmeenaaFnExactFactorsGrammarK4
import Derived.Test.YtlgpleeanmeenaaFnExactFactorsGrammarK3
import Derived.Deep.RegionHeld3
import Derived.Deep.RegionLaw
import Derived.Deep.AppendLies
namespace Go.Proofs.Ytlgpleeanmeenaa
open Go.RowKit
open Wd
set_option linter.unusedVariables false
namespace Wd
def inPartS (i j n : Int) : Bool := decide (0 ≤ i) && (decide (i ≤ j) && decide (j ≤ n))
def partC (gs : List Rl) (i j : Int) : Int := if gOk gs then (if inPartS i j (wordLen gs) then 0 else 2) else 1
end Wd
set_option maxRecDepth 100000 in
set_option maxHeartbeats 1600000 in
theorem l02Part_any (p : Nat) (gs : List Rl) (i j : Int) (w : World) (hf : FewR gs) (hg : GP w p gs) :
    Calls Try.prog 128 #[.pointer (some ⟨p, 0, none⟩), .int .i64 i, .int .i64 j] w fun e w' => e = .returned (.int .i64 (partC gs i j)) ∧ Below w.heap.size w w' := by
  have h1 := l02Ok_any p gs w hf hg
  have H2 := Lib.hid (fun W (hW : GP W p gs) hok => l02Length_any p gs W hf hW hok)
  have HG := Lib.hid hg
  have hfs := gOk_fs (gs := gs)
  unfold partC
  cases hok : gOk gs
  · rw [hok] at h1
    have H1 := Lib.hid h1
    clear h1 hok hg hfs
    go_enter Try.func128, Try.ntmps128
    go_wp2_with fail
    refine H1.out.mono ?_
    rintro e w1 ⟨rfl, hB1⟩
    have HB1 := Lib.hid hB1
    clear hB1
    go_wp2_with fail
    go_ret
    exact ⟨rfl, HB1.out⟩
  · rw [hok] at h1
    have H1 := Lib.hid h1
    have HFS := Lib.hid (hfs hok)
    clear h1 hok hg hfs
    by_cases a1 : i < 0
    · have hd : inPartS i j (wordLen gs) = false := by simp [inPartS]; omega
      rw [hd]
      clear hd
      go_enter Try.func128, Try.ntmps128
      go_wp2_with fail
      refine H1.out.mono ?_
      rintro e w1 ⟨rfl, hB1⟩
      have HB1 := Lib.hid hB1
      clear hB1
      go_wp2_with fail
      go_ret
      exact ⟨rfl, HB1.out⟩
    · have a1d : decide (i < 0) = false := decide_eq_false a1
      by_cases a2 : j < i
      · have hd : inPartS i j (wordLen gs) = false := by simp [inPartS]; omega
        rw [hd]
        clear hd
        go_enter Try.func128, Try.ntmps128
        go_wp2_with fail
        refine H1.out.mono ?_
        rintro e w1 ⟨rfl, hB1⟩
        have HB1 := Lib.hid hB1
        clear hB1
        go_wp2_with fail
        go_ret
        exact ⟨rfl, HB1.out⟩
      · have a2d : decide (j < i) = false := decide_eq_false a2
        have hdd : inPartS i j (wordLen gs) = decide (j ≤ wordLen gs) := by
          have e1 : decide (0 ≤ i) = true := decide_eq_true (by omega)
          have e2 : decide (i ≤ j) = true := decide_eq_true (by omega)
          simp [inPartS, e1, e2]
        rw [hdd]
        generalize wordLen gs = wl at *
        by_cases a3 : wl < j
        · have hd : decide (j ≤ wl) = false := decide_eq_false (by omega)
          rw [hd]
          clear hd hdd
          go_enter Try.func128, Try.ntmps128
          go_wp2_with fail
          refine H1.out.mono ?_
          rintro e w1 ⟨rfl, hB1⟩
          have HB1 := Lib.hid hB1
          clear hB1
          go_wp2_with fail
          refine (H2.out _ (HG.out.kept HB1.out) HFS.out).mono ?_
          rintro e w2 ⟨rfl, hB2⟩
          have HB2 := Lib.hid (HB1.out.trans (hB2.mono HB1.out.size))
          clear hB2
          go_wp2_with fail
          go_ret
          exact ⟨rfl, HB2.out⟩
        · have hd : decide (j ≤ wl) = true := decide_eq_true (by omega)
          rw [hd]
          have a3d : decide (wl < j) = false := decide_eq_false a3
          clear hd hdd
          go_enter Try.func128, Try.ntmps128
          go_wp2_with fail
          refine H1.out.mono ?_
          rintro e w1 ⟨rfl, hB1⟩
          have HB1 := Lib.hid hB1
          clear hB1
          go_wp2_with fail
          refine (H2.out _ (HG.out.kept HB1.out) HFS.out).mono ?_
          rintro e w2 ⟨rfl, hB2⟩
          have HB2 := Lib.hid (HB1.out.trans (hB2.mono HB1.out.size))
          clear hB2
          go_wp2_with fail
          go_ret
          exact ⟨rfl, HB2.out⟩

end Go.Proofs.Ytlgpleeanmeenaa
namespace Go.Proofs.Ytlgpleeanmeenaa
open Go.RowKit
open Wd
set_option linter.unusedVariables false
set_option maxRecDepth 100000 in
set_option maxHeartbeats 6400000 in
theorem specPartGrammar (v : Value) (gs : List Rl) (i j : Int) (w : World) (hf : FewR gs) (hrc : RulesC w v gs) (b1 : -9223372036854775808 ≤ i ∧ i ≤ 9223372036854775807) (b2 : -9223372036854775808 ≤ j ∧ j ≤ 9223372036854775807) :
    Calls Try.prog 66 #[.agg #[v], .int .i64 i, .int .i64 j] w fun e w' => ∃ y, e = .returned (.tuple #[.agg #[y], .int .i64 (gramPartGrammar gs i j).2]) ∧ OwnsR w' w.heap.size y (gramPartGrammar gs i j).1 ∧ Below w.heap.size w w' := by
  have hb : Below w.heap.size w ((w.alloc (.cells #[v] 26)).alloc (.cells #[.slice none 0 0] 26)) := ((Below.refl _ w).alloc (Nat.le_refl _) _).alloc (by simp) _
  have hv0 : Var ((w.alloc (.cells #[v] 26)).alloc (.cells #[.slice none 0 0] 26)) w.heap.size v 26 := (Var.new w v 26).kept ((Below.refl _ _).alloc (Nat.le_refl _) _)
  have hv : Var ((w.alloc (.cells #[v] 26)).alloc (.cells #[.slice none 0 0] 26)) (w.heap.size + 1) (.slice none 0 0) 26 := by
    have := Var.new (w.alloc (.cells #[v] 26)) (.slice none 0 0) 26
    rwa [show (w.alloc (.cells #[v] 26)).heap.size = w.heap.size + 1 from by simp] at this
  have hg : GP ((w.alloc (.cells #[v] 26)).alloc (.cells #[.slice none 0 0] 26)) w.heap.size gs := ⟨v, hv0.cell.1, hrc.1.kept hb⟩
  have HPT := Lib.hid (l02Part_any w.heap.size gs i j _ hf hg)
  have HRC := Lib.hid (hrc.kept hb)
  have HB := Lib.hid hb
  have HV := Lib.hid hv
  have HV0 := Lib.hid hv0
  have hn := hf.len
  have HCUT := Lib.hid (fun W (h1 : W.cell? ⟨w.heap.size, 0, none⟩ = some v) (h2 : RulesC W v gs) h3 h4 => l02Cut_any w.heap.size v gs i j W hf h1 h2 h3 h4 b1 b2)
  obtain ⟨A, c, rfl, _⟩ := hrc.1
  have hpp : inPartS i j (wordLen gs) = inPart i j (wordLen gs) := rfl
  unfold gramPartGrammar
  unfold partC at HPT
  rw [hpp] at HPT
  cases hok : gOk gs
  · rw [hok, if_neg (by decide)] at HPT
    rw [if_neg (by decide)]
    clear hb hv hv0 hg hrc hok
    go_enter Try.func66, Try.ntmps66
    go_wp2_with fail
    refine HPT.out.mono ?_
    rintro e w1 ⟨rfl, hB1⟩
    have HB1 := Lib.hid (HB.out.trans (hB1.mono (by simp; omega)))
    obtain ⟨vc, vf⟩ := (HV.out.kept hB1).cell
    clear hB1
    go_wp2_with fail
    refine bodyPost_ret (v := .tuple #[.agg #[.slice none 0 0], .int .i64 1]) (by simp [results, Try.results66, go_sem, vc]) rfl ⟨_, rfl, World.ownsRow_nil _ _ _ _, HB1.out.setCell (by simp) _⟩
  · rw [hok, if_pos rfl] at HPT
    rw [if_pos rfl]
    cases hp : inPart i j (wordLen gs)
    · rw [hp, if_neg (by decide)] at HPT
      rw [if_neg (by decide)]
      clear hb hv hv0 hg hrc hok hp
      go_enter Try.func66, Try.ntmps66
      go_wp2_with fail
      refine HPT.out.mono ?_
      rintro e w1 ⟨rfl, hB1⟩
      have HB1 := Lib.hid (HB.out.trans (hB1.mono (by simp; omega)))
      obtain ⟨vc, vf⟩ := (HV.out.kept hB1).cell
      clear hB1
      go_wp2_with fail
      refine bodyPost_ret (v := .tuple #[.agg #[.slice none 0 0], .int .i64 2]) (by simp [results, Try.results66, go_sem, vc]) rfl ⟨_, rfl, World.ownsRow_nil _ _ _ _, HB1.out.setCell (by simp) _⟩
    · rw [hp, if_pos rfl] at HPT
      rw [if_pos rfl]
      have HKEY : Hid (fits (cutG gs i j) = true ∧ FewR (trimG (cutG gs i j)) ∧ (cutG gs i j).length ≤ 1300) := Lib.hid (by
        rcases Nat.eq_zero_or_pos gs.length with h0 | h0
        · have h3 := (inPart_iff.1 hp)
          rw [wordLen_zero h0] at h3
          have : cutG gs i j = [] := by unfold cutG; rw [if_pos (by omega)]
          rw [this]
          exact ⟨fits_nil, by rw [trim_nil]; unfold FewR sumL; simp, by simp⟩
        · exact ⟨cut_fits hok h0 i j, few_cut hok h0 i j, cut_len hok h0 i j⟩)
      have HC2 := Lib.hid (fun W h1 h2 => HCUT.out W h1 h2 hok hp)
      clear hb hv hv0 hg hrc hok hp HCUT
      generalize cutG gs i j = cs at *
      obtain ⟨ts, hts⟩ : ∃ ts, ts = trimG cs := ⟨_, rfl⟩
      have HTR := Lib.hid (fun p W (h : GP W p cs) => l02Trim_any p cs W (by have := HKEY.out.2.2; omega) HKEY.out.1 h)
      have HFT := Lib.hid HKEY.out.2.1
      rw [← hts] at HTR HFT ⊢
      clear hts
      go_enter Try.func66, Try.ntmps66
      go_wp2_with fail
      refine HPT.out.mono ?_
      rintro e w1 ⟨rfl, hB1⟩
      have HRC1 := Lib.hid (HRC.out.kept hB1)
      have HV1 := Lib.hid (HV.out.kept hB1)
      have HV01 := Lib.hid (HV0.out.kept hB1)
      have HB1 := Lib.hid (HB.out.trans (hB1.mono (by simp; omega)))
      have hs1 : w.heap.size + 1 < w1.heap.size := HV1.out.lt
      clear hB1
      go_wp2_with fail
      refine (HC2.out _ HV01.out.cell.1 HRC1.out).mono ?_
      rintro e w2 ⟨y2, rfl, ho2, hB2⟩
      obtain ⟨A2, c2, rfl⟩ := own_slice ho2
      have hs2 : w.heap.size + 1 < w2.heap.size := Nat.lt_of_lt_of_le hs1 hB2.size
      have HV2 := Lib.hid (HV1.out.kept hB2)
      have HB2 := Lib.hid (HB1.out.trans (hB2.mono HB1.out.size))
      have HG3 := Lib.hid (rules_gpT (Rules.of_own ho2) 26)
      have hb3 := (Below.refl _ w2).alloc (Nat.le_refl _) (.cells #[.slice A2 cs.length c2] 26)
      have HV3 := Lib.hid (HV2.out.kept hb3)
      have HB3 := Lib.hid (HB2.out.trans (hb3.mono HB2.out.size))
      have HT3 := Lib.hid (HTR.out _ _ HG3.out)
      clear hB2 ho2 hb3
      go_wp2_with fail
      refine HT3.out.mono ?_
      rintro e w4 ⟨y4, rfl, ho4, hB4⟩
      have HO4 := Lib.hid ho4
      have HV4 := Lib.hid (HV3.out.kept hB4)
      have HB4 := Lib.hid (HB3.out.trans (hB4.mono HB3.out.size))
      clear hB4 ho4
      go_wp2_with fail
      refine (told_any _ ts _ HFT.out (Rules.of_own HO4.out)).mono ?_
      rintro e w5 ⟨rfl, hB5⟩
      have HLO := Lib.hid (lim_own (own_below HO4.out hB5 (Nat.le_refl _)))
      obtain ⟨Al, cl, hl⟩ := own_slice HLO.out
      rw [hl] at HLO ⊢
      obtain ⟨x0, x1⟩ := (HV4.out.kept hB5).cell
      have HB5 := Lib.hid (HB4.out.trans (hB5.mono HB4.out.size))
      have HNE : Hid ((Value.slice Al (limG ts).length cl).ownBlock ≠ some (w.heap.size + 1)) := Lib.hid (fun e => by have h7 := (HLO.out.lt _ e).1; simp at h7; omega)
      have HLO2 := Lib.hid (own_lower HLO.out (show w.heap.size ≤ _ by simp; omega))
      clear hB5 hl
      go_wp2_with fail
      refine bodyPost_ret (v := .tuple #[.agg #[.slice Al (limG ts).length cl], .int .i64 (limC ts)]) (by simp [results, Try.results66, go_sem, x0]) rfl ⟨_, rfl, ?_, HB5.out.setCell (by simp) _⟩
      exact World.ownsRow.kept HLO2.out (only_setCell (World.grownBy.refl w5 (some (w.heap.size + 1))) (p := ⟨w.heap.size + 1, 0, none⟩) (.inl rfl) _) (.inr HNE.out)
end Go.Proofs.Ytlgpleeanmeenaa
namespace Go.Proofs.Ytlgpleeanmeenaa
open Go.RowKit
open Wd
set_option linter.unusedVariables false
theorem news_rc (w : World) (x : Rl) (t : TypeId) : ∀ j u, (rc x)[j]? = some u → (w.alloc (.cells #[.string x.L, .int .i64 x.l, .int .i64 x.r] t)).cell? ((⟨w.heap.size, 0, none⟩ : Addr).add j) = some u := news3 w x t
/-- what holds between two rules -/
def JRel (gs hs : List Rl) (w : World) (V r : Nat) (i : Value) (wr : World) : Prop :=
  ∃ (k : Nat) (yv : Value), k ≤ hs.length ∧ i = .int .i64 k ∧ JSt w (w.heap.size + 1) V r (gs ++ (hs.take k).map (raiseR gs.length)) yv wr

set_option maxRecDepth 100000 in
set_option maxHeartbeats 12800000 in
theorem join_any (p q : Nat) (gs hs : List Rl) (w : World) (hf : gs.length ≤ 400) (hf2 : hs.length ≤ 400) (hok : fits hs = true) (hg : GP w p gs) (hh : GP w q hs) :
    Calls Try.prog 67 #[.pointer (some ⟨p, 0, none⟩), .pointer (some ⟨q, 0, none⟩)] w fun e w' => ∃ y, e = .returned (.agg #[y]) ∧ OwnsR w' w.heap.size y (joinG gs hs) ∧ Below w.heap.size w w' := by
  obtain ⟨i0, hi, hz0, hz1, hz2⟩ := info_parts Try.info_rule
  have hb : Below w.heap.size w (w.alloc (.cells #[.slice none 0 0] 26)) := (Below.refl _ w).alloc (Nat.le_refl _) _
  have hvr : Var (w.alloc (.cells #[.slice none 0 0] 26)) w.heap.size (.slice none 0 0) 26 := Var.new w _ _
  have HB := Lib.hid hb
  have HVR := Lib.hid hvr
  have HG := Lib.hid (hg.kept hb)
  have HH := Lib.hid (hh.kept hb)
  obtain ⟨v, hv, A, c, rfl, hr⟩ := hg
  obtain ⟨u, hu, A', c', rfl, hr'⟩ := hh
  have HV := Lib.hid hv
  have HU := Lib.hid hu
  have cv := (hb.cell (p := ⟨p, 0, none⟩) (lt_of_cell hv)).trans hv
  have cu := (hb.cell (p := ⟨q, 0, none⟩) (lt_of_cell hu)).trans hu
  have HRH := Lib.hid hr'
  clear hv hu hr hr' hb hvr
  by_cases h0 : gs.length = 0
  · have hj : joinG gs hs = hs := by unfold joinG; rw [if_pos h0]
    rw [hj]
    rw [h0] at cv
    clear hj h0
    go_enter Try.func67, Try.ntmps67
    go_wp2_with fail
    refine (own_any q hs _ (by omega) HH.out).mono ?_
    rintro e w1 ⟨y, rfl, ho, hB1⟩
    obtain ⟨Ay, cy, rfl⟩ := own_slice ho
    obtain ⟨x0, x1⟩ := (HVR.out.kept hB1).cell
    have HO := Lib.hid ho
    have HB1 := Lib.hid (HB.out.trans (hB1.mono (by simp)))
    clear hB1 ho
    go_wp2_with fail
    refine bodyPost_ret (v := .agg #[.slice Ay hs.length cy]) (by simp [results, Try.results67, go_sem, x0]) rfl ⟨_, rfl, ?_, HB1.out.setCell (by simp) _⟩
    exact own_lower (own_setLow HO.out _ _ (by simp)) (by simp)
  · by_cases h1 : hs.length = 0
    · have hj : joinG gs hs = gs := by unfold joinG; rw [if_neg h0, if_pos h1]
      rw [hj]
      rw [h1] at cu
      have h0' : ((gs.length : Int) == 0) = false := by rw [beq_eq_false_iff_ne]; omega
      clear hj h0 h1
      go_enter Try.func67, Try.ntmps67
      go_wp2_with fail
      refine (own_any p gs _ (by omega) HG.out).mono ?_
      rintro e w1 ⟨y, rfl, ho, hB1⟩
      obtain ⟨Ay, cy, rfl⟩ := own_slice ho
      have HO := Lib.hid ho
      have HB1 := Lib.hid (HB.out.trans (hB1.mono (by simp)))
      have hb2 := (Below.refl _ w1).alloc (Nat.le_refl _) (.cells #[.slice Ay gs.length cy] 26)
      obtain ⟨x0, x1⟩ := ((HVR.out.kept hB1).kept hb2).cell
      have cu1 := (hb2.cell (p := ⟨q, 0, none⟩) (Nat.lt_of_lt_of_le (lt_of_cell cu) hB1.size)).trans ((hB1.cell (p := ⟨q, 0, none⟩) (lt_of_cell cu)).trans cu)
      have HB2 := Lib.hid (HB1.out.trans (hb2.mono HB1.out.size))
      have HO2 := Lib.hid (own_below ho hb2 (Nat.le_refl _))
      clear hB1 ho hb2
      go_wp2_with fail
      refine bodyPost_ret (v := .agg #[.slice Ay gs.length cy]) (by simp [results, Try.results67, go_sem, x0]) rfl ⟨_, rfl, ?_, HB2.out.setCell (by simp) _⟩
      exact own_lower (own_setLow HO2.out _ _ (by simp)) (by simp)
    · have h0' : ((gs.length : Int) == 0) = false := by rw [beq_eq_false_iff_ne]; omega
      have h1' : ((hs.length : Int) == 0) = false := by rw [beq_eq_false_iff_ne]; omega
      have hj : joinG gs hs = gs ++ hs.map (raiseR gs.length) ++ [pairR (gs.length - 1) (gs.length + hs.length - 1)] := by unfold joinG; rw [if_neg h0, if_neg h1]
      rw [hj]
      have HP := Lib.hid (lt_of_cell HV.out)
      have HQ := Lib.hid (lt_of_cell HU.out)
      have HOK := Lib.hid hok
      clear hj hok
      go_enter Try.func67, Try.ntmps67
      go_wp2_with fail
      refine (own_any p gs _ (by omega) HG.out).mono ?_
      rintro e w1 ⟨y, rfl, ho, hB1⟩
      obtain ⟨Ay, cy, rfl⟩ := own_slice ho
      have HB1 := Lib.hid (HB.out.trans (hB1.mono (by simp)))
      have hb2 := (Below.refl _ w1).alloc (Nat.le_refl _) (.cells #[.slice Ay gs.length cy] 26)
      have hs1 : w.heap.size + 1 ≤ w1.heap.size := by have := hB1.size; simp at this; omega
      have HST : Hid (JRel gs hs w w1.heap.size w.heap.size (.int .i64 0) (w1.alloc (.cells #[.slice Ay gs.length cy] 26))) := Lib.hid
        ⟨0, .slice Ay gs.length cy, Nat.zero_le _, rfl, by
          rw [List.take_zero, List.map_nil, List.append_nil]
          exact ⟨own_lower (own_below ho hb2 (Nat.le_refl _)) (by simp), Var.new _ _ _, (HVR.out.kept hB1).kept hb2, HB1.out.trans (hb2.mono HB1.out.size), by simp; omega⟩⟩
      have HB2 := Lib.hid (HB1.out.trans (hb2.mono HB1.out.size))
      have cp2 := (HB2.out.cell (p := ⟨p, 0, none⟩) HP.out).trans HV.out
      have cq2 := (HB2.out.cell (p := ⟨q, 0, none⟩) HQ.out).trans HU.out
      clear hB1 ho hb2
      go_wp2_with fail
      obtain ⟨V, hV⟩ : ∃ V, V = w1.heap.size := ⟨_, rfl⟩
      rw [← hV] at HST ⊢
      have hVw : w.heap.size + 1 ≤ V := by omega
      generalize w1.alloc (.cells #[.slice Ay gs.length cy] 26) = w4 at *
      clear hV hs1 cp2 cq2 cv cu
      go_loopw [7] (fun i wr => JRel gs hs w V w.heap.size i wr) (fun i _ => hs.length - (intOf i).toNat)
      case atStart => exact HST.out
      case round =>
        obtain ⟨k, yv, hk, rfl, hps⟩ := hrel
        obtain ⟨wo, rfl⟩ : ∃ wo : World, wo = wr := ⟨_, rfl⟩
        have HPS := Lib.hid hps
        have cq3 := (hps.2.2.2.1.cell (p := ⟨q, 0, none⟩) HQ.out).trans HU.out
        have cp3 := (hps.2.2.2.1.cell (p := ⟨p, 0, none⟩) HP.out).trans HV.out
        obtain ⟨A2, c2, hyv⟩ := own_slice hps.1
        obtain ⟨N, hN⟩ : ∃ N, N = (gs ++ (hs.take k).map (raiseR gs.length)).length := ⟨_, rfl⟩
        have hNk : N = gs.length + k := by rw [hN, List.length_append, List.length_map, List.length_take]; omega
        rw [← hN] at hyv
        subst hyv
        have HNK := Lib.hid hNk
        have hN2 : N ≤ 800 := by omega
        obtain ⟨vc1, vc2⟩ := hps.2.1.cell
        by_cases hlt : k < hs.length
        · rcases HRH.out with hn | ⟨g, rfl, hg, hc⟩
          · rw [hn] at hlt; simp at hlt
          have hrc := rules_cells hc hlt
          have hSA : ∀ w' : World, Below w.heap.size w w' → (w'.cell? ⟨q, 0, none⟩ = some (.slice (some ⟨g, 0, none⟩) hs.length c') ∧ w'.cell? ⟨g, k * 3, none⟩ = some (.string hs[k].L) ∧ w'.cell? ⟨g, k * 3 + 1, none⟩ = some (.int .i64 hs[k].l) ∧ w'.cell? ⟨g, k * 3 + 2, none⟩ = some (.int .i64 hs[k].r)) := by
            obtain ⟨a0, a1, a2⟩ := hrc
            intro w' hb
            exact ⟨(hb.cell (p := ⟨q, 0, none⟩) HQ.out).trans HU.out, (hb.cell (p := ⟨g, k * 3, none⟩) hg).trans a0, (hb.cell (p := ⟨g, k * 3 + 1, none⟩) hg).trans a1, (hb.cell (p := ⟨g, k * 3 + 2, none⟩) hg).trans a2⟩
          have hft := fits_at HOK.out k hlt
          have hbd : (0 ≤ hs[k].l ∧ hs[k].l ≤ 1048576) ∧ (0 ≤ hs[k].r ∧ hs[k].r ≤ 1048576) ∧ hs[k].L.size ≤ maxLen := by
            unfold maxLen
            by_cases hz : hs[k].L.size = 0
            · have := (ok_pair hz).1 hft; omega
            · have := (ok_letter hz).1 hft; omega
          have HSA := Lib.hid hSA
          have HRS := Lib.hid (fun W => specRaised hs[k] gs.length W hbd.1 hbd.2.1 (by omega) hbd.2.2)
          have htk : (hs.take (k + 1)).map (raiseR gs.length) = (hs.take k).map (raiseR gs.length) ++ [raiseR gs.length hs[k]] := by
            rw [List.take_succ_eq_append_getElem hlt, List.map_append]; rfl
          have HTK := Lib.hid htk
          have HP6 := Lib.hid (jst_kept hps (Below.refl _ wo).drew)
          obtain ⟨s0, s1, s2, s3⟩ := hSA wo.drew HP6.out.2.2.2.1
          obtain ⟨z0, z1⟩ := HP6.out.2.1.cell
          generalize hs[k] = R at *
          obtain ⟨X, hX⟩ : ∃ X, X = raiseR gs.length R := ⟨_, rfl⟩
          rw [← hX] at HRS HTK
          have j0 : (0 : Int) ≤ (k : Int) := by omega
          have j1 : (k : Int) < (hs.length : Int) := by omega
          have HN := Lib.hid hN
          clear hps hrc hc hg hft hbd hSA htk hX hN hNk
          go_wp2_with fail
          go_region_law ((first
            | (go_simp
               go_at_call 113
               refine (HRS.out _).mono ?_
               rintro e w7 ⟨rfl, hB7⟩
               have HP7 := Lib.hid (jst_kept HP6.out hB7)
               have HA7 := Lib.hid (fun o => (jst_kept HP7.out ((Below.refl _ _).alloc (Nat.le_refl _) o)).2.2.2.1)
               have z7 := HP7.out.2.1.cell.1
               have za7 := fun o => (jst_kept HP7.out ((Below.refl _ _).alloc (Nat.le_refl _) o)).2.1.cell.1
               have HNW := Lib.hid (news3 w7 X 146)
               have hbs7 : w.heap.size + 1 ≤ w7.heap.size := HP7.out.2.2.2.2
               have hO7 := HP7.out.1
               rw [← HN.out] at hO7
               have HO7 := Lib.hid hO7
               clear hO7 hB7)
            | (refine step_append_lies _ (by rfl) _ _ 24 (by rfl) (w.heap.size + 1) 146 i0 (.agg #[.string ⟨#[]⟩, .int .i64 0, .int .i64 0]) 3 32 Try.underlying24 hi hz0 hz1 hz2 (by rfl) (by decide) (.slice A2 N c2) N (rv (gs ++ (hs.take k).map (raiseR gs.length))) (by rfl) (World.ownsRow.alloc HO7.out _) ⟨w7.heap.size, 0, none⟩ 1 1 (rc X) (by rfl) (by rfl) HNW.out (rc_cell _) (by decide) (by unfold maxLen; omega) (by omega) (by simp; omega) (w7.heap.size + 1) (by simp) ?_
               intro g8 c8 w8 hown' hgrow _ _
               obtain ⟨hk8, hp9⟩ := jst_grown (x := X) (show w.heap.size ≤ w.heap.size + 1 by omega) (show w.heap.size ≤ V by omega) (show w.heap.size ≠ V by omega) HP7.out (by rw [← HN.out]; exact hown') hgrow
               obtain ⟨x8, y8⟩ := hk8.cell
               have HP9 := Lib.hid hp9
               have HB8 := Lib.hid ((HP7.out.2.2.2.1.alloc HP7.out.2.2.2.1.size _).grown hgrow (by have := HP7.out.2.2.2.1.size; simp; omega) (fun q hq => by have := (HP7.out.1.lt q (by rw [← HN.out] at *; exact hq)).1; omega))
               clear hown' hgrow hk8 hp9)))
          all_goals
            go_wp2_with fail
            go_roundw
            case rel =>
              refine ⟨k + 1, .slice (some ⟨g8, 0, none⟩) (N + 1) c8, by omega, by go_num, ?_⟩
              rw [HTK.out, ← List.append_assoc]
              exact HP9.out
            case measure => (first | (simp [intOf]; done) | (simp [intOf]; omega))
        · obtain rfl : k = hs.length := by omega
          rw [List.take_of_length_le (Nat.le_refl _)] at hps hN
          have HSA := Lib.hid (fun (w' : World) (hb : Below w.heap.size w w') => (hb.cell (p := ⟨q, 0, none⟩) HQ.out).trans HU.out)
          have HP6 := Lib.hid (jst_kept hps (Below.refl _ wo).drew)
          have s0 := HSA.out wo.drew HP6.out.2.2.2.1
          obtain ⟨z0, z1⟩ := HP6.out.2.1.cell
          obtain ⟨X, hX⟩ : ∃ X : Rl, X = ⟨⟨#[]⟩, (gs.length : Int) - 1, (gs.length : Int) + hs.length - 1⟩ := ⟨_, rfl⟩
          have HXP := Lib.hid (show X = pairR (gs.length - 1) (gs.length + hs.length - 1) from by rw [hX]; unfold pairR; congr 1 <;> omega)
          have HXC := Lib.hid (show rc X = [.string ⟨#[]⟩, .int .i64 ((gs.length : Int) - 1), .int .i64 ((gs.length : Int) + hs.length - 1)] from by rw [hX]; rfl)
          have hnw := news3 wo.drew X 146
          rw [hX] at hnw
          have HNW := Lib.hid hnw
          have HN := Lib.hid hN
          have hbs : w.heap.size + 1 ≤ wo.heap.size := hps.2.2.2.2
          have hO6 := HP6.out.1
          rw [← HN.out] at hO6
          have HO6 := Lib.hid hO6
          have hw1 : IntKind.i64.wrap ((gs.length : Int) - 1) = (gs.length : Int) - 1 := by rw [IntKind.wrap_i64]; omega
          have hw2 : IntKind.i64.wrap ((gs.length : Int) + hs.length) = (gs.length : Int) + hs.length := by rw [IntKind.wrap_i64]; omega
          have hw3 : IntKind.i64.wrap ((gs.length : Int) + hs.length - 1) = (gs.length : Int) + hs.length - 1 := by rw [IntKind.wrap_i64]; omega
          have HA6 := Lib.hid (fun o => (jst_kept HP6.out ((Below.refl _ _).alloc (Nat.le_refl _) o)).2.2.2.1)
          have za6 := fun o => (jst_kept HP6.out ((Below.refl _ _).alloc (Nat.le_refl _) o)).2.1.cell.1
          have za6d : ∀ o, (wo.alloc o).drew.cell? ⟨V, 0, none⟩ = some (.slice A2 N c2) := fun o => za6 o
          clear hps hX hnw hN hNk hO6 hlt
          go_wp2_with fail
          go_region_law ((first
            | (refine step_append_lies _ (by rfl) _ _ 24 (by rfl) (w.heap.size + 1) 146 i0 (.agg #[.string ⟨#[]⟩, .int .i64 0, .int .i64 0]) 3 32 Try.underlying24 hi hz0 hz1 hz2 (by rfl) (by decide) (.slice A2 N c2) N (rv (gs ++ hs.map (raiseR gs.length))) (by rfl) (World.ownsRow.alloc HO6.out _) ⟨wo.heap.size, 0, none⟩ 1 1 (rc X) (by rfl) (by rfl) (by rw [HXC.out]; exact HNW.out) (rc_cell _) (by decide) (by unfold maxLen; omega) (by omega) (by simp; omega) (wo.heap.size + 1) (by simp) ?_
               intro g8 c8 w8 hown' hgrow _ _
               obtain ⟨hk8, hp9⟩ := jst_grown (x := X) (show w.heap.size ≤ w.heap.size + 1 by omega) (show w.heap.size ≤ V by omega) (show w.heap.size ≠ V by omega) HP6.out (by rw [← HN.out]; exact hown') hgrow
               obtain ⟨x8, y8⟩ := hk8.cell
               have HP9 := Lib.hid hp9
               have HB8 := Lib.hid ((HP6.out.2.2.2.1.alloc HP6.out.2.2.2.1.size _).grown hgrow (by have := HP6.out.2.2.2.1.size; simp; omega) (fun q hq => by have := (HO6.out.lt q hq).1; omega))
               clear hown' hgrow hk8 hp9)))
          all_goals
            obtain ⟨x9, y9⟩ := HP9.out.2.1.cell
            obtain ⟨r9, t9⟩ := HP9.out.2.2.1.cell
            go_wp2_with fail
            refine bodyPost_ret (v := .agg #[.slice (some ⟨g8, 0, none⟩) (N + 1) c8]) (by simp [results, Try.results67, go_sem, r9]) rfl ⟨_, rfl, ?_, HP9.out.2.2.2.1.setCell (by simp) _⟩
            have hfin := HP9.out.1
            rw [HXP.out] at hfin
            exact own_lower (own_setLow hfin _ _ (by simp)) (by omega)
end Go.Proofs.Ytlgpleeanmeenaa
namespace Go.Proofs.Ytlgpleeanmeenaa
open Go.RowKit
open Wd
set_option linter.unusedVariables false
namespace Wd
theorem gOk_one {L : ByteArray} (h1 : L.size = 1) (h2 : okL L.data.toList = true) : gOk [⟨L, 0, 0⟩] = true := by
  have h0 : L.size ≠ 0 := by omega
  refine gOk_iff.2 ⟨by simp, fits_of fun k x hk => ?_, decide_eq_true fun k hk => ?_⟩
  · obtain rfl : k = 0 := by have := (List.getElem?_eq_some_iff.1 hk).1; simp at this; omega
    injection hk with hk
    subst hk
    exact (ok_letter h0).2 ⟨⟨h1, h2⟩, rfl, rfl⟩
  · obtain rfl : k = 0 := by simp at hk; omega
    have : (lens [(⟨L, 0, 0⟩ : Rl)]).getD 0 0 = 1 := vals_letter (fun a b => a + b) [(⟨L, 0, 0⟩ : Rl)] 0 (by simp) h0
    omega
theorem fg_letter {fs : List Rl} {k : Nat} {g : List Rl} (hk : k < fs.length) (hin : fgInv fs k g) (h0 : fs[k].L.size ≠ 0) : fgPc fs k g = (plainG fs[k].L.data.toList, 0) := by
  obtain ⟨l1, l2⟩ := fg_let hk hin h0
  unfold fgPc
  rw [List.getElem?_eq_getElem hk]
  simp only
  rw [if_neg h0]
  unfold gramPlainGrammar limG limC
  rw [if_pos l2, plain_one l1 l2, if_pos (gOk_one l1 l2), if_pos (gOk_one l1 l2)]
end Wd
theorem var_setS {w : World} {V : Nat} {a b : Value} {t : TypeId} (h : Var w V a t) : Var (w.setCell ⟨V, 0, none⟩ b) V b t := by
  unfold Var at h ⊢
  simp [World.setCell, Array.getElem?_modify, h]
/-- between two factors -/
def FgRel (fs : List Rl) (w : World) (V : Nat) (ans : List Rl × Int) (i : Value) (wr : World) : Prop :=
  ∃ (k : Nat) (g : List Rl) (yv : Value), k ≤ fs.length ∧ i = .int .i64 k ∧ gOk g = true ∧ fgInv fs k g ∧ jpF (fgPc fs) (fs.length - k) k g = ans ∧ JSt w (V + 1) V w.heap.size g yv wr
set_option maxRecDepth 100000 in
set_option maxHeartbeats 12800000 in
theorem specFactorsGrammar_by (v : Value) (fs : List Rl) (w : World) (hf : FewR fs) (hr : Rules w v fs)
    (hvf : ∀ W, Rules W v fs → Calls Try.prog 25 #[v] W fun e w' => e = .returned (.bool (facOk fs)) ∧ Below W.heap.size W w')
    (hpl : ∀ (s : ByteArray) W, okL s.data.toList = true → Calls Try.prog 65 #[.string s] W fun e w' => ∃ y, e = .returned (.agg #[y]) ∧ OwnsR w' W.heap.size y (plainG s.data.toList) ∧ Below W.heap.size W w') :
    Calls Try.prog 15 #[v] w fun e w' => ∃ y, e = .returned (.tuple #[.agg #[y], .int .i64 (gramFactorsGrammar fs).2]) ∧ OwnsR w' w.heap.size y (gramFactorsGrammar fs).1 ∧ Below w.heap.size w w' := by
  have hn := hf.len
  have HVF := Lib.hid hvf
  have HRU := Lib.hid hr
  obtain ⟨A, c, rfl, hrr⟩ := hr
  have hb2 : Below w.heap.size w (w.alloc (.cells #[.slice none 0 0] 26)) := (Below.refl _ w).alloc (Nat.le_refl _) _
  have hv := Var.new w (.slice none 0 0) 26
  have HB := Lib.hid hb2
  have HV := Lib.hid hv
  have HV1 := Lib.hid (HVF.out _ (HRU.out.kept hb2))
  unfold gramFactorsGrammar
  cases hok : facOk fs
  · rw [hok] at HV1
    rw [if_neg (by decide)]
    clear hb2 hv hok hvf hpl
    go_enter Try.func15, Try.ntmps15
    go_wp2_with fail
    refine HV1.out.mono ?_
    rintro e w1 ⟨rfl, hB1⟩
    obtain ⟨x0, x1⟩ := (HV.out.kept hB1).cell
    have HB1 := Lib.hid (HB.out.trans (hB1.mono HB.out.size))
    clear hB1
    go_wp2_with fail
    refine bodyPost_ret (v := .tuple #[.agg #[.slice none 0 0], .int .i64 1]) (by simp [results, Try.results15, go_sem, x0]) rfl ⟨_, rfl, World.ownsRow_nil _ _ _ _, HB1.out.setCell (by simp) _⟩
  · rw [hok] at HV1
    rw [if_pos rfl]
    obtain ⟨ans, hans⟩ : ∃ ans, ans = jpF (fgPc fs) fs.length 0 [] := ⟨_, rfl⟩
    rw [← hans]
    have HAN := Lib.hid hans.symm
    have HOK := Lib.hid hok
    have HPL := Lib.hid hpl
    have HRR := Lib.hid hrr
    clear hb2 hv hok hvf hpl hrr hans
    go_enter Try.func15, Try.ntmps15
    go_wp2_with fail
    refine HV1.out.mono ?_
    rintro e w1 ⟨rfl, hB1⟩
    have HVa := Lib.hid (HV.out.kept hB1)
    have HB1 := Lib.hid (HB.out.trans (hB1.mono HB.out.size))
    have hs1 : w.heap.size < w1.heap.size := HVa.out.lt
    have hb3 := (Below.refl _ w1).alloc (Nat.le_refl _) (.cells #[.slice none 0 0] 26)
    have HST : Hid (FgRel fs w w1.heap.size ans (.int .i64 0) (w1.alloc (.cells #[.slice none 0 0] 26))) := Lib.hid
      ⟨0, [], .slice none 0 0, Nat.zero_le _, rfl, gOk_nil, fg_start HOK.out, HAN.out, World.ownsRow_nil _ _ _ _, Var.new _ _ _, HVa.out.kept hb3, HB1.out.trans (hb3.mono HB1.out.size), by simp⟩
    clear hB1 hb3
    go_wp2_with fail
    obtain ⟨V, hV⟩ : ∃ V, V = w1.heap.size := ⟨_, rfl⟩
    rw [← hV] at HST ⊢
    have hVw : w.heap.size < V := by omega
    generalize w1.alloc (.cells #[.slice none 0 0] 26) = wz at *
    clear hV hs1
    go_loopw [5, 6, 7, 8] (fun i _ _ _ wr => FgRel fs w V ans i wr) (fun i _ _ _ _ => fs.length - (intOf i).toNat)
    case atStart => exact HST.out
    case round =>
      obtain ⟨k, g, yv, hk, rfl, hok, hin, hans, hjs⟩ := hrel
      obtain ⟨wo, rfl⟩ : ∃ wo : World, wo = wr := ⟨_, rfl⟩
      obtain ⟨Ag, cg, rfl⟩ := own_slice hjs.1
      obtain ⟨g0, g1⟩ := hjs.2.1.cell
      obtain ⟨r0, r1⟩ := hjs.2.2.1.cell
      have HJ := Lib.hid hjs
      have hsz : V + 1 ≤ wo.heap.size := hjs.2.2.2.2
      by_cases hlt : k < fs.length
      · rcases HRR.out with h | ⟨gf, rfl, hgl, hcc⟩
        · rw [h] at hlt; simp at hlt
        obtain ⟨a0, a1, a2⟩ := rules_cells hcc hlt
        have b0 := (hjs.2.2.2.1.cell (p := ⟨gf, k * 3, none⟩) hgl).trans a0
        have b1 := (hjs.2.2.2.1.cell (p := ⟨gf, k * 3 + 1, none⟩) hgl).trans a1
        have b2 := (hjs.2.2.2.1.cell (p := ⟨gf, k * 3 + 2, none⟩) hgl).trans a2
        obtain ⟨m, hm⟩ : ∃ m, fs.length - k = m + 1 := ⟨fs.length - k - 1, by omega⟩
        rw [hm, jpF] at hans
        have k0 : (0 : Int) ≤ (k : Int) := by omega
        have k1 : (k : Int) < (fs.length : Int) := by omega
        by_cases h0 : fs[k].L.size = 0
        · have hx0 := fg_pair hlt hin h0
          have he : fgPc fs k g = gramPartGrammar g fs[k].l (fs[k].l + fs[k].r) := by
            unfold fgPc
            rw [List.getElem?_eq_getElem hlt]
            simp only
            rw [if_pos h0]
          have hwl := wordLen_bd' hok
          have HPA := Lib.hid (fun v W (h : RulesC W v g) => specPartGrammar v g fs[k].l (fs[k].l + fs[k].r) W (few_ok hok) h (by omega) (by omega))
          rw [← he] at HPA
          have hw1 : IntKind.i64.wrap (fs[k].l + fs[k].r) = fs[k].l + fs[k].r := by rw [IntWalk.i64_in _ (by omega)]
          rw [empty_arr h0] at b0
          have hP := HPL.out ⟨#[]⟩ wo (by decide)
          have HP := Lib.hid hP
          have HGC := Lib.hid (fun hc => And.intro (fg_gOk hlt hok hin hc).1 (And.intro (fg_join hlt hok hin hc) (fg_next hlt hok hin hc)))
          generalize (fgPc fs k g).1 = nx at *
          generalize (fgPc fs k g).2 = cc at *
          generalize fs[k].l = xl at *
          generalize fs[k].r = xr at *
          have HB0 := Lib.hid (fun W (h : Below wo.heap.size wo W) => And.intro ((h.cell (p := ⟨gf, k * 3, none⟩) (lt_of_cell b0)).trans b0) (And.intro ((h.cell (p := ⟨gf, k * 3 + 1, none⟩) (lt_of_cell b1)).trans b1) ((h.cell (p := ⟨gf, k * 3 + 2, none⟩) (lt_of_cell b2)).trans b2)))
          generalize plainG (⟨#[]⟩ : ByteArray).data.toList = n0 at *
          clear hjs a0 a1 a2 hcc hP h0 hx0 he hwl b1 b2
          go_wp2_with fail
          refine HP.out.mono ?_
          rintro e w2 ⟨y2, rfl, ho2, hB2⟩
          obtain ⟨A2, c2, rfl⟩ := own_slice ho2
          have hb3 := (Below.refl _ w2).alloc (Nat.le_refl _) (.cells #[.slice A2 n0.length c2] 26)
          have HJ3 := Lib.hid (jst_kept (jst_kept HJ.out hB2) hb3)
          have HQ3 := Lib.hid (Var.new w2 (.slice A2 n0.length c2) 26)
          obtain ⟨f3, f31, f32⟩ := HB0.out _ (hB2.trans (hb3.mono hB2.size))
          have g3 := HJ3.out.2.1.cell.1
          have hVQ : V < w2.heap.size := by have := hB2.size; omega
          clear hB2 ho2 hb3 b0
          go_wp2_with fail
          obtain ⟨Qb, hQb⟩ : ∃ Qb, Qb = w2.heap.size := ⟨_, rfl⟩
          rw [← hQb] at HQ3 hVQ ⊢
          generalize w2.alloc (.cells #[.slice A2 n0.length c2] 26) = w3 at *
          clear hQb
          have hbA := ((Below.refl _ w3).alloc (Nat.le_refl _) (.cells #[.slice none 0 0] 26)).drew
          have HBA := Lib.hid hbA
          have HPA3 := Lib.hid (HPA.out (.slice Ag g.length cg) ((w3.alloc (.cells #[.slice none 0 0] 26)).drew) (RulesC.of_own (own_below HJ3.out.1 hbA (Nat.le_refl _))))
          have HVA : Hid (Var ((w3.alloc (.cells #[.slice none 0 0] 26)).drew) w3.heap.size (.slice none 0 0) 26) := Lib.hid (Var.new w3 (.slice none 0 0) 26)
          have HPA4 := Lib.hid (HPA.out (.slice Ag g.length cg) w3.drew (RulesC.of_own (own_below HJ3.out.1 (Below.refl _ w3).drew (Nat.le_refl _))))
          clear hbA
          have HX3 := Lib.hid (fun W (h : Below w3.heap.size w3 W) => And.intro ((h.cell (p := ⟨V, 0, none⟩) (lt_of_cell g3)).trans g3) (And.intro ((h.cell (p := ⟨gf, k * 3 + 1, none⟩) (lt_of_cell f31)).trans f31) ((h.cell (p := ⟨gf, k * 3 + 2, none⟩) (lt_of_cell f32)).trans f32)))
          go_region_held3 (fun w' => w'.cell? ⟨V, 0, none⟩ = some (.slice Ag g.length cg) ∧ w'.cell? ⟨gf, k * 3 + 1, none⟩ = some (.int .i64 xl) ∧ w'.cell? ⟨gf, k * 3 + 2, none⟩ = some (.int .i64 xr))
            (first | exact HX3.out _ (HB4.out.setCell (Nat.le_refl _) _) | exact HX3.out _ (HB4.out.trans ((((Below.refl _ w4).alloc (Nat.le_refl _) _).setCell (Nat.le_refl _) _).mono HB4.out.size)) | exact HX3.out _ (HB4.out.trans (((Below.refl _ w4).alloc (Nat.le_refl _) _).mono HB4.out.size)) | exact HX3.out _ HB4.out | exact HX3.out _ HBA.out | go_keep)
            (first
              | (go_at_call 66; refine (HPA3.out).mono ?_; rintro e w4 ⟨y4, rfl, ho4, hB4⟩; obtain ⟨A4, c4, rfl⟩ := own_slice ho4; have HV4 := Lib.hid (HVA.out.kept hB4); have HB4 := Lib.hid (HBA.out.trans (hB4.mono HBA.out.size)); have HO4 := Lib.hid ho4; obtain ⟨n0', n1'⟩ := HV4.out.cell; clear ho4 hB4)
              | (go_at_call 66; refine (HPA4.out).mono ?_; rintro e w4 ⟨y4, rfl, ho4, hB4⟩; obtain ⟨A4, c4, rfl⟩ := own_slice ho4; have HB4 : Hid (Below w3.heap.size w3 w4) := Lib.hid ((Below.refl _ w3).drew.trans hB4); have HO4 := Lib.hid ho4; obtain ⟨n0', n1'⟩ := (Var.new w4 (.slice none 0 0) 26).cell; clear ho4 hB4))
          all_goals
            first
            | (have HV5 : Hid (Var (w4.setCell ⟨w3.heap.size, 0, none⟩ (.slice A4 nx.length c4)) w3.heap.size (.slice A4 nx.length c4) 26) := Lib.hid (var_setS HV4.out)
               have hb5 := HB4.out.setCell (p := ⟨w3.heap.size, 0, none⟩) (Nat.le_refl _) (.slice A4 nx.length c4)
               have HQ5 := Lib.hid (HQ3.out.kept hb5)
               have HJ5 := Lib.hid (jst_kept HJ3.out hb5)
               have HO5 := Lib.hid (own_setLow HO4.out ⟨w3.heap.size, 0, none⟩ (.slice A4 nx.length c4) (by show w3.heap.size < (w3.alloc _).heap.size; simp))
               clear hb5
               generalize w4.setCell ⟨w3.heap.size, 0, none⟩ (.slice A4 nx.length c4) = w5 at *)
            | (have HV5 : Hid (Var (w4.alloc (.cells #[.slice A4 nx.length c4] 26)) w4.heap.size (.slice A4 nx.length c4) 26) := Lib.hid (Var.new w4 (.slice A4 nx.length c4) 26)
               have hb4 := (Below.refl _ w4).alloc (Nat.le_refl _) (.cells #[.slice A4 nx.length c4] 26)
               have hb5 := HB4.out.trans (hb4.mono HB4.out.size)
               have HQ5 := Lib.hid (HQ3.out.kept hb5)
               have HJ5 := Lib.hid (jst_kept HJ3.out hb5)
               have HO5 := Lib.hid (own_below HO4.out hb4 (Nat.le_refl _))
               clear hb5 hb4
               generalize w4.alloc (.cells #[.slice A4 nx.length c4] 26) = w5 at *)
            by_cases hc : cc = 0
            · subst hc
              rw [if_pos rfl] at hans
              obtain ⟨hgo, hjo', hnx'⟩ := HGC.out rfl
              have HJO := Lib.hid hjo'
              have HNX := Lib.hid hnx'
              have HNL := Lib.hid (gOk_len hgo)
              have HNF := Lib.hid (gOk_iff.1 hgo).2.1
              have z5 := HV5.out.cell.1
              obtain ⟨q50, q51⟩ := HQ5.out.cell
              have hv7 := var_setS (b := .slice A4 nx.length c4) HQ5.out
              have q3 := hv7.cell.1
              have HR7 : Hid (Rules (w5.setCell ⟨Qb, 0, none⟩ (.slice A4 nx.length c4)) (.slice A4 nx.length c4) nx) := Lib.hid (Rules.of_own (World.ownsRow.kept HO5.out (only_setCell (World.grownBy.refl w5 (some Qb)) (p := ⟨Qb, 0, none⟩) (.inl rfl) _) (.inr (own_var_ne HO5.out HQ5.out (by decide)))))
              have HJ7 : Hid (JSt w (V + 1) V w.heap.size g (.slice Ag g.length cg) (w5.setCell ⟨Qb, 0, none⟩ (.slice A4 nx.length c4))) := Lib.hid (by
                obtain ⟨j1, j2, j3, j4, j5⟩ := HJ5.out
                exact ⟨World.ownsRow.kept j1 (only_setCell (World.grownBy.refl w5 (some Qb)) (p := ⟨Qb, 0, none⟩) (.inl rfl) _) (.inr (own_var_ne j1 HQ5.out (by decide))), j2.far _ _ (by simp only; omega), j3.far _ _ (by simp only; omega), j4.setCell (by simp only; omega) _, by simp [World.setCell]; exact j5⟩)
              clear hgo hjo' hnx' hv7
              go_wp2_with fail
              generalize w5.setCell ⟨Qb, 0, none⟩ (.slice A4 nx.length c4) = w7 at *
              have g3 := HJ7.out.2.1.cell.1
              have HJN := Lib.hid (join_any V Qb g nx w7 (gOk_len hok) HNL.out HNF.out ⟨_, g3, Rules.of_own HJ7.out.1⟩ ⟨_, q3, HR7.out⟩)
              by_cases hbig : (joinG g nx).length ≤ 400
              · have hjo : gOk (joinG g nx) = true := by rw [HJO.out]; exact decide_eq_true hbig
                rw [if_pos hjo] at hans
                have htk := (trim_ok hjo).1
                have hI := HNX.out hjo
                have HANS : Hid (jpF (fgPc fs) (fs.length - (k + 1)) (k + 1) (trimG (joinG g nx)) = ans) := Lib.hid (by rw [show fs.length - (k + 1) = m from by omega]; exact hans)
                have HTR := Lib.hid (fun W (h : GP W V (joinG g nx)) => l02Trim_any V (joinG g nx) W (by omega) (gOk_iff.1 hjo).2.1 h)
                have HK := Lib.hid (And.intro htk hI)
                have hbd : ¬ (400 : Int) < ((joinG g nx).length : Int) := by omega
                generalize trimG (joinG g nx) = tr at *
                generalize joinG g nx = jn at *
                clear hans hjo htk hI hbig
                refine HJN.out.mono ?_
                rintro e w8 ⟨y8, rfl, ho8, hB8⟩
                obtain ⟨A8, c8, rfl⟩ := own_slice ho8
                have hj8 := jst_kept HJ7.out hB8
                obtain ⟨v0, v1⟩ := hj8.2.1.cell
                obtain ⟨j1, j2, j3, j4, j5⟩ := hj8
                have hv5 := var_setS (b := .slice A8 jn.length c8) j2
                have HG9 : Hid (GP (w8.setCell ⟨V, 0, none⟩ (.slice A8 jn.length c8)) V jn) := Lib.hid ⟨_, hv5.cell.1, Rules.of_own (World.ownsRow.kept ho8 (only_setCell (World.grownBy.refl w8 (some V)) (p := ⟨V, 0, none⟩) (.inl rfl) _) (.inr (own_var_ne ho8 j2 (by decide))))⟩
                have HV9 := Lib.hid hv5
                have u5 := hv5.cell.1
                have HR9 := Lib.hid (j3.far ⟨V, 0, none⟩ (.slice A8 jn.length c8) (by simp only; omega))
                have HB9 := Lib.hid (j4.setCell (p := ⟨V, 0, none⟩) (by simp only; omega) (.slice A8 jn.length c8))
                have hs5 : V + 1 ≤ (w8.setCell ⟨V, 0, none⟩ (.slice A8 jn.length c8)).heap.size := by simp [World.setCell]; exact j5
                clear ho8 hB8 j1 j2 j3 j4 j5 hv5
                go_wp2_with fail
                generalize w8.setCell ⟨V, 0, none⟩ (.slice A8 jn.length c8) = w9 at *
                refine (HTR.out _ HG9.out).mono ?_
                rintro e w6 ⟨y6, rfl, ho6, hB6⟩
                obtain ⟨A6, c6, rfl⟩ := own_slice ho6
                have hv6 := HV9.out.kept hB6
                obtain ⟨x0, x1⟩ := hv6.cell
                have HST2 : Hid (FgRel fs w V ans (.int .i64 ((k + 1 : Nat) : Int)) (w6.setCell ⟨V, 0, none⟩ (.slice A6 tr.length c6))) := Lib.hid
                  ⟨k + 1, tr, .slice A6 tr.length c6, by omega, rfl, HK.out.1, HK.out.2, HANS.out, own_setLow (own_lower ho6 (by omega)) _ _ (by simp only; omega), var_setS hv6, (HR9.out.kept hB6).far _ _ (by simp only; omega), (HB9.out.trans (hB6.mono (by omega))).setCell (by simp only; omega) _, by have := hB6.size; simp [World.setCell]; omega⟩
                clear hv6 ho6 hB6
                go_wp2_with fail
                go_roundw
                all_goals first | exact HST2.out | ((repeat apply Exists.intro); exact ⟨HST2.out, rfl⟩) | (simp [intOf]; done) | (simp [intOf]; omega) | omega
              · have hjo : ¬ gOk (joinG g nx) = true := by rw [HJO.out]; simp; omega
                rw [if_neg hjo] at hans
                subst hans
                have hbd : (400 : Int) < ((joinG g nx).length : Int) := by omega
                generalize joinG g nx = jn at *
                clear hjo hbig
                refine HJN.out.mono ?_
                rintro e w8 ⟨y8, rfl, ho8, hB8⟩
                obtain ⟨A8, c8, rfl⟩ := own_slice ho8
                have hj8 := jst_kept HJ7.out hB8
                obtain ⟨v0, v1⟩ := hj8.2.1.cell
                obtain ⟨j1, j2, j3, j4, j5⟩ := hj8
                have u5 := (var_setS (b := .slice A8 jn.length c8) j2).cell.1
                obtain ⟨x0, x1⟩ := (j3.far ⟨V, 0, none⟩ (.slice A8 jn.length c8) (by simp only; omega)).cell
                have HB9 := Lib.hid (j4.setCell (p := ⟨V, 0, none⟩) (by simp only; omega) (.slice A8 jn.length c8))
                clear ho8 hB8 j1 j2 j3 j4 j5
                go_wp2_with fail
                refine bodyPost_ret (v := .tuple #[.agg #[.slice none 0 0], .int .i64 3]) (by simp [results, Try.results15, go_sem, x0]) rfl ⟨_, rfl, World.ownsRow_nil _ _ _ _, HB9.out.setCell (by simp) _⟩
            · rw [if_neg hc] at hans
              subst hans
              have hcb : (cc == 0) = false := by rw [beq_eq_false_iff_ne]; exact hc
              obtain ⟨x0, x1⟩ := HJ5.out.2.2.1.cell
              go_wp2_with fail
              refine bodyPost_ret (v := .tuple #[.agg #[.slice none 0 0], .int .i64 cc]) (by simp [results, Try.results15, go_sem, x0]) rfl ⟨_, rfl, World.ownsRow_nil _ _ _ _, HJ5.out.2.2.2.1.setCell (by simp) _⟩
        · have he := fg_letter hlt hin h0
          have hl := fg_let hlt hin h0
          have hgo := fg_gOk hlt hok hin (by rw [he])
          have HJO := Lib.hid (fg_join hlt hok hin (by rw [he]))
          have HNX := Lib.hid (fg_next hlt hok hin (by rw [he]))
          rw [he] at hans hgo HJO HNX
          simp only at hans hgo HJO HNX
          rw [if_pos trivial] at hans
          have hP := HPL.out fs[k].L wo hl.2
          have hfl := full_list h0
          have HNL := Lib.hid (gOk_len hgo.1)
          have HNF := Lib.hid (gOk_iff.1 hgo.1).2.1
          generalize plainG fs[k].L.data.toList = nx at *
          generalize fs[k].L = L at *
          have HP := Lib.hid hP
          have HB0 := Lib.hid (fun W (h : Below wo.heap.size wo W) => (h.cell (p := ⟨gf, k * 3, none⟩) (lt_of_cell b0)).trans b0)
          clear hjs a0 a1 a2 b1 b2 hcc hl hgo he hP h0
          go_wp2_with fail
          refine HP.out.mono ?_
          rintro e w2 ⟨y2, rfl, ho2, hB2⟩
          obtain ⟨A2, c2, rfl⟩ := own_slice ho2
          have hb3 := (Below.refl _ w2).alloc (Nat.le_refl _) (.cells #[.slice A2 nx.length c2] 26)
          have HJ3 := Lib.hid (jst_kept (jst_kept HJ.out hB2) hb3)
          have HR3 := Lib.hid ((Rules.of_own ho2).kept hb3)
          have q3 := (Var.new w2 (.slice A2 nx.length c2) 26).cell.1
          have f3 := HB0.out _ (hB2.trans (hb3.mono hB2.size))
          clear hB2 ho2 hb3 b0
          go_wp2_with fail
          obtain ⟨Qb, hQb⟩ : ∃ Qb, Qb = w2.heap.size := ⟨_, rfl⟩
          rw [← hQb] at q3 ⊢
          generalize w2.alloc (.cells #[.slice A2 nx.length c2] 26) = w3 at *
          clear hQb
          have g3 := HJ3.out.2.1.cell.1
          have HJN := Lib.hid (join_any V Qb g nx w3 (gOk_len hok) HNL.out HNF.out ⟨_, g3, Rules.of_own HJ3.out.1⟩ ⟨_, q3, HR3.out⟩)
          by_cases hbig : (joinG g nx).length ≤ 400
          · have hjo : gOk (joinG g nx) = true := by rw [HJO.out]; exact decide_eq_true hbig
            rw [if_pos hjo] at hans
            have htk := (trim_ok hjo).1
            have hI := HNX.out hjo
            have HANS : Hid (jpF (fgPc fs) (fs.length - (k + 1)) (k + 1) (trimG (joinG g nx)) = ans) := Lib.hid (by rw [show fs.length - (k + 1) = m from by omega]; exact hans)
            have HTR := Lib.hid (fun W (h : GP W V (joinG g nx)) => l02Trim_any V (joinG g nx) W (by omega) (gOk_iff.1 hjo).2.1 h)
            have HK := Lib.hid (And.intro htk hI)
            have hbd : ¬ (400 : Int) < ((joinG g nx).length : Int) := by omega
            generalize trimG (joinG g nx) = tr at *
            generalize joinG g nx = jn at *
            clear hans hjo htk hI hbig
            refine HJN.out.mono ?_
            rintro e w4 ⟨y4, rfl, ho4, hB4⟩
            obtain ⟨A4, c4, rfl⟩ := own_slice ho4
            have hj4 := jst_kept HJ3.out hB4
            obtain ⟨v0, v1⟩ := hj4.2.1.cell
            obtain ⟨j1, j2, j3, j4, j5⟩ := hj4
            have hv5 := var_setS (b := .slice A4 jn.length c4) j2
            have HG5 : Hid (GP (w4.setCell ⟨V, 0, none⟩ (.slice A4 jn.length c4)) V jn) := Lib.hid ⟨_, hv5.cell.1, Rules.of_own (World.ownsRow.kept ho4 (only_setCell (World.grownBy.refl w4 (some V)) (p := ⟨V, 0, none⟩) (.inl rfl) _) (.inr (own_var_ne ho4 j2 (by decide))))⟩
            have HV5 := Lib.hid hv5
            have u5 := hv5.cell.1
            have HR5 := Lib.hid (j3.far ⟨V, 0, none⟩ (.slice A4 jn.length c4) (by simp only; omega))
            have HB5 := Lib.hid (j4.setCell (p := ⟨V, 0, none⟩) (by simp only; omega) (.slice A4 jn.length c4))
            have hs5 : V + 1 ≤ (w4.setCell ⟨V, 0, none⟩ (.slice A4 jn.length c4)).heap.size := by simp [World.setCell]; exact j5
            clear ho4 hB4 j1 j2 j3 j4 j5 hv5
            go_wp2_with fail
            generalize w4.setCell ⟨V, 0, none⟩ (.slice A4 jn.length c4) = w5 at *
            refine (HTR.out _ HG5.out).mono ?_
            rintro e w6 ⟨y6, rfl, ho6, hB6⟩
            obtain ⟨A6, c6, rfl⟩ := own_slice ho6
            have hv6 := HV5.out.kept hB6
            obtain ⟨x0, x1⟩ := hv6.cell
            have HST2 : Hid (FgRel fs w V ans (.int .i64 ((k + 1 : Nat) : Int)) (w6.setCell ⟨V, 0, none⟩ (.slice A6 tr.length c6))) := Lib.hid
              ⟨k + 1, tr, .slice A6 tr.length c6, by omega, rfl, HK.out.1, HK.out.2, HANS.out, own_setLow (own_lower ho6 (by omega)) _ _ (by simp only; omega), var_setS hv6, (HR5.out.kept hB6).far _ _ (by simp only; omega), (HB5.out.trans (hB6.mono (by omega))).setCell (by simp only; omega) _, by have := hB6.size; simp [World.setCell]; omega⟩
            clear hv6 ho6 hB6
            go_wp2_with fail
            go_roundw
            all_goals first | exact HST2.out | ((repeat apply Exists.intro); exact ⟨HST2.out, rfl⟩) | (simp [intOf]; done) | (simp [intOf]; omega) | omega
          · have hjo : ¬ gOk (joinG g nx) = true := by rw [HJO.out]; simp; omega
            rw [if_neg hjo] at hans
            subst hans
            have hbd : (400 : Int) < ((joinG g nx).length : Int) := by omega
            generalize joinG g nx = jn at *
            clear hjo hbig
            refine HJN.out.mono ?_
            rintro e w4 ⟨y4, rfl, ho4, hB4⟩
            obtain ⟨A4, c4, rfl⟩ := own_slice ho4
            have hj4 := jst_kept HJ3.out hB4
            obtain ⟨v0, v1⟩ := hj4.2.1.cell
            obtain ⟨j1, j2, j3, j4, j5⟩ := hj4
            have u5 := (var_setS (b := .slice A4 jn.length c4) j2).cell.1
            obtain ⟨x0, x1⟩ := (j3.far ⟨V, 0, none⟩ (.slice A4 jn.length c4) (by simp only; omega)).cell
            have HB5 := Lib.hid (j4.setCell (p := ⟨V, 0, none⟩) (by simp only; omega) (.slice A4 jn.length c4))
            clear ho4 hB4 j1 j2 j3 j4 j5
            go_wp2_with fail
            refine bodyPost_ret (v := .tuple #[.agg #[.slice none 0 0], .int .i64 3]) (by simp [results, Try.results15, go_sem, x0]) rfl ⟨_, rfl, World.ownsRow_nil _ _ _ _, HB5.out.setCell (by simp) _⟩
      · obtain rfl : k = fs.length := by omega
        rw [Nat.sub_self, jpF] at hans
        subst hans
        clear hjs
        go_wp2_with fail
        refine bodyPost_ret (v := .tuple #[.agg #[.slice Ag g.length cg], .int .i64 0]) (by simp [results, Try.results15, go_sem, r0]) rfl ⟨_, rfl, ?_, HJ.out.2.2.2.1.setCell (by simp) _⟩
        exact own_lower (own_setLow HJ.out.1 _ _ (by simp only; omega)) (by omega)
end Go.Proofs.Ytlgpleeanmeenaa
namespace Go.Proofs.Ytlgpleeanmeenaa
open Go.RowKit
open Wd
set_option linter.unusedVariables false

namespace Wd
/-- the numbers of the letters' rules, letter by letter -/
def nsC (l : List UInt8) : List Int := l.map fun c => (idxC l (noC c) : Int)
theorem nsC_len (l : List UInt8) : (nsC l).length = l.length := by simp [nsC]
theorem nsC_at (l : List UInt8) (k : Nat) (h : k < l.length) : (iv (nsC l))[k]? = some (.int .i64 (idxC l (noC (l.getD k 97)) : Int)) := by
  simp [iv, nsC, h, List.getD_eq_getElem?_getD]
theorem idxC_le (l : List UInt8) (k : Nat) : idxC l k ≤ k := letG_len l k
end Wd
/-- what holds between two pairs -/
def ChRel (l : List UInt8) (gs : List Rl) (B : Nat) (nv : Value) (w : World) (y i : Value) (wr : World) : Prop :=
  ∃ t : Nat, t + 1 ≤ max 1 l.length ∧ i = .int .i64 ((t : Int) + 1) ∧ wr.ownsRow B 146 3 y (gs.length + t) (rv (gs ++ prsG l gs.length t)) ∧ wr.ownsRow B 2 1 nv l.length (iv (nsC l)) ∧ Below B w wr

set_option maxRecDepth 100000 in
set_option maxHeartbeats 6400000 in
theorem chained_any (A A' : Option Addr) (c c' B : Nat) (l : List UInt8) (gs : List Rl) (w : World) (hl : l.length ≤ 2000) (hg4 : gs.length ≤ 4) (hok : ∀ x ∈ l, lt x = true) (hB : B ≤ w.heap.size)
    (hr : w.ownsRow B 146 3 (.slice A gs.length c) gs.length (rv gs)) (hn : w.ownsRow B 2 1 (.slice A' l.length c') l.length (iv (nsC l))) :
    Calls Try.prog 136 #[.slice A gs.length c, .slice A' l.length c'] w fun e w' => ∃ y, e = .returned y ∧ w'.ownsRow B 146 3 y (gs ++ prsG l gs.length (l.length - 1)).length (rv (gs ++ prsG l gs.length (l.length - 1))) ∧ Below B w w' := by
  obtain ⟨i0, hi, hz0, hz1, hz2⟩ := info_parts Try.info_rule
  obtain ⟨N, hN⟩ : ∃ N, N = gs.length := ⟨_, rfl⟩
  obtain ⟨L, hL⟩ : ∃ L, L = l.length := ⟨_, rfl⟩
  have HST : Hid (ChRel l gs B (.slice A' L c') w (.slice A N c) (.int .i64 1) w) := Lib.hid ⟨0, by omega, rfl, by rw [prsG, List.append_nil, Nat.add_zero, hN]; exact hr, by rw [hL]; exact hn, Below.refl _ _⟩
  have HN := Lib.hid hN
  have HL := Lib.hid hL
  have HOK := Lib.hid hok
  rw [← hN] at hg4 ⊢
  rw [← hL] at hl ⊢
  clear hr hn hN hL hok
  go_enter Try.func136, Try.ntmps136
  go_wp2_with fail
  go_loopw [0, 5, 6] (fun y i _ wr => ChRel l gs B (.slice A' L c') w y i wr) (fun _ i _ _ => L - (intOf i).toNat)
  case atStart => exact HST.out
  case round =>
    obtain ⟨t, ht, rfl, hown, hnr, hbw⟩ := hrel
    obtain ⟨wo, rfl⟩ : ∃ wo : World, wo = wr := ⟨_, rfl⟩
    rw [← HN.out] at hown
    rw [← HL.out] at ht hnr
    obtain ⟨A2, c2, rfl⟩ := own_slice hown
    have hbsz := hbw.size
    by_cases hlt : t + 1 < L
    · obtain ⟨M, rfl, hM1, hM2⟩ := own_addr hnr (by omega)
      have n0 := (hnr.cellAt 0 (by omega)).trans (nsC_at l 0 (by rw [← HL.out]; omega))
      have n1 := (hnr.cellAt (t + 1) (by omega)).trans (nsC_at l (t + 1) (by rw [← HL.out]; omega))
      obtain ⟨BF, hBF⟩ : ∃ BF : Nat, BF = if t = 0 then idxC l (noC (l.getD 0 97)) else N + t - 1 := ⟨_, rfl⟩
      obtain ⟨RG, hRG⟩ : ∃ RG : Nat, RG = idxC l (noC (l.getD (t + 1) 97)) := ⟨_, rfl⟩
      have HPX := Lib.hid (show prsG l N (t + 1) = prsG l N t ++ [pairR BF RG] from by rw [prsG, hBF, hRG])
      rw [← hRG] at n1
      have HPA := Lib.hid (fun W => pairA (BF : Int) (RG : Int) W)
      have HO := Lib.hid hown
      have HNR := Lib.hid hnr
      have HBW := Lib.hid hbw
      by_cases h0 : t = 0
      · rw [if_pos h0] at hBF
        rw [← hBF] at n0
        have h0' : ¬ (1 : Int) < (t : Int) + 1 := by omega
        clear hown hnr hbw hBF hRG h0
        go_wp2_with fail
        refine (HPA.out _).mono ?_
        rintro e w5 ⟨rfl, hB5⟩
        have HO5 := Lib.hid (own_below HO.out hB5 (Nat.le_refl _))
        have HN5 := Lib.hid (own_below HNR.out hB5 (Nat.le_refl _))
        have HB5 := Lib.hid (HBW.out.trans (hB5.mono (Nat.le_trans hB hbsz)))
        have HNW := Lib.hid (news3 w5 (pairR BF RG) 146)
        have hb5 := HB5.out.size
        clear hB5
        go_wp2_with (first | (at_builtin; refine wpList_append_own _ rfl _ _ 24 rfl B 146 i0 (.agg #[.string ⟨#[]⟩, .int .i64 0, .int .i64 0]) 3 32 Try.underlying24 hi hz0 hz1 hz2 rfl (by decide) _ _ _ rfl (World.ownsRow.alloc HO5.out _) ⟨w5.heap.size, 0, none⟩ 1 1 (rc (pairR BF RG)) rfl rfl HNW.out (rc_cell _) (by unfold maxLen; omega) (by omega) (by simp; omega) ?_))
        intro v8 w8 hown' hgrow _
        have HR8 : Hid (ChRel l gs B (.slice (some ⟨M, 0, none⟩) L c') w v8 (.int .i64 ((t : Int) + 1 + 1)) w8) := Lib.hid ⟨t + 1, by rw [← HL.out]; omega, by go_num, by
          rw [← HN.out, HPX.out, ← List.append_assoc, rv_app, rv_one]; exact hown', by
          rw [← HL.out]; exact own_other HN5.out HO5.out (by decide) hgrow, ((HB5.out.alloc (Nat.le_trans hB hb5) _).grown hgrow (by simp; omega) (fun q hq => (HO5.out.lt q hq).1))⟩
        clear hown' hgrow
        go_wp2_with fail
        go_roundw
        case rel => first | exact HR8.out | ((repeat apply Exists.intro); exact ⟨HR8.out, rfl⟩)
        case measure => (first | (simp [intOf]; done) | (simp [intOf]; omega))
      · rw [if_neg h0] at hBF
        have h0' : (1 : Int) < (t : Int) + 1 := by omega
        have HLA : Hid (∀ W, Calls Try.prog 119 #[.slice A2 (N + t) c2] W fun e w' => e = .returned (.int .i64 (BF : Int)) ∧ w' = W) := Lib.hid (fun W => (lastA A2 (N + t) c2 (by omega) W).mono fun e w' h => ⟨h.1.trans (ret_int (by omega)), h.2⟩)
        clear hown hnr hbw hRG hBF
        go_wp2_with fail
        refine (HLA.out _).mono ?_
        rintro e w4 ⟨rfl, rfl⟩
        go_wp2_with fail
        refine (HPA.out _).mono ?_
        rintro e w5 ⟨rfl, hB5⟩
        have HO5 := Lib.hid (own_below HO.out hB5 (Nat.le_refl _))
        have HN5 := Lib.hid (own_below HNR.out hB5 (Nat.le_refl _))
        have HB5 := Lib.hid (HBW.out.trans (hB5.mono (Nat.le_trans hB hbsz)))
        have HNW := Lib.hid (news3 w5 (pairR BF RG) 146)
        have hb5 := HB5.out.size
        clear hB5
        go_wp2_with (first | (at_builtin; refine wpList_append_own _ rfl _ _ 24 rfl B 146 i0 (.agg #[.string ⟨#[]⟩, .int .i64 0, .int .i64 0]) 3 32 Try.underlying24 hi hz0 hz1 hz2 rfl (by decide) _ _ _ rfl (World.ownsRow.alloc HO5.out _) ⟨w5.heap.size, 0, none⟩ 1 1 (rc (pairR BF RG)) rfl rfl HNW.out (rc_cell _) (by unfold maxLen; omega) (by omega) (by simp; omega) ?_))
        intro v8 w8 hown' hgrow _
        have HR8 : Hid (ChRel l gs B (.slice (some ⟨M, 0, none⟩) L c') w v8 (.int .i64 ((t : Int) + 1 + 1)) w8) := Lib.hid ⟨t + 1, by rw [← HL.out]; omega, by go_num, by
          rw [← HN.out, HPX.out, ← List.append_assoc, rv_app, rv_one]; exact hown', by
          rw [← HL.out]; exact own_other HN5.out HO5.out (by decide) hgrow, ((HB5.out.alloc (Nat.le_trans hB hb5) _).grown hgrow (by simp; omega) (fun q hq => (HO5.out.lt q hq).1))⟩
        clear hown' hgrow
        go_wp2_with fail
        go_roundw
        case rel => first | exact HR8.out | ((repeat apply Exists.intro); exact ⟨HR8.out, rfl⟩)
        case measure => (first | (simp [intOf]; done) | (simp [intOf]; omega))
    · have htl : L - 1 = t := by omega
      have HO : Hid (wo.ownsRow B 146 3 (.slice A2 (N + t) c2) (gs ++ prsG l N (L - 1)).length (rv (gs ++ prsG l N (L - 1)))) := Lib.hid (by
        rw [List.length_append, prsG_len, ← HN.out, htl]; exact hown)
      clear htl
      go_wp2_with fail
      go_ret
      exact ⟨_, rfl, HO.out, hbw⟩
end Go.Proofs.Ytlgpleeanmeenaa
