/-
  The walk of FnExactFactorsGrammar: it returns true at every input.
-/
import Derived.Test.YtlgpleeanmeenaaFnExactFactorsGrammarK10
import Derived.Deep.RegionHeld3
namespace Go.Proofs.Ytlgpleeanmeenaa.fnExactFactorsGrammar
open Go.RowKit Wd
set_option linter.unusedVariables false

theorem own_ne {w w' : World} {B C e e' s s' n n' : Nat} {u v : Value} {xs ys : List Value} (h : w.ownsRow B e s u n xs) (h' : w'.ownsRow C e' s' v n' ys) (hC : w.heap.size ≤ C) : u.ownBlock = none ∨ u.ownBlock ≠ v.ownBlock := by
  cases hu : u.ownBlock with
  | none => exact .inl rfl
  | some g =>
    refine .inr fun hh => ?_
    have h1 := (h.lt g hu).2
    have h2 := (h'.lt g hh.symm).1
    omega
theorem own_ne' {w w' : World} {B C e e' s s' n n' : Nat} {u v : Value} {xs ys : List Value} (h : w.ownsRow B e s u n xs) (h' : w'.ownsRow C e' s' v n' ys) (hC : w.heap.size ≤ C) : v.ownBlock = none ∨ v.ownBlock ≠ u.ownBlock := by
  cases hv : v.ownBlock with
  | none => exact .inl rfl
  | some g =>
    refine .inr fun hh => ?_
    have h1 := (h.lt g hh.symm).2
    have h2 := (h'.lt g hv).1
    omega
theorem cell_far {w w' : World} {b : Nat} {row : Option Nat} {v : Value} (h : w.cell? ⟨b, 0, none⟩ = some v) (hg : w.grownBy w' row) (hne : some b ≠ row) : w'.cell? ⟨b, 0, none⟩ = some v := by
  rw [World.cell?_of_block (a := ⟨b, 0, none⟩) (hg.block b (lt_of_cell h) hne)]; exact h

set_option maxRecDepth 100000 in
set_option maxHeartbeats 25600000 in
theorem walk (A : Option Addr) (n0 cap : Nat) (gs : List Rl) (w : World) (hl : n0 ≤ maxLen) (h : InRules w A n0 gs) (hw : WfF gs) :
    Calls Try.prog 3 #[.slice A n0 cap] w fun e w' => e = .returned (.bool true) ∧ Below w.heap.size w w' := by
  have h1 := szFactorS_any A n0 cap gs 1048576 w hl h (by omega) (by omega)
  have H1 := Lib.hid h1
  have HI := Lib.hid h
  by_cases hneg : purse 1048576 gs < 0
  · clear h h1
    go_enter Try.func3, Try.ntmps3
    go_wp2_with fail
    refine H1.out.mono ?_
    rintro e w1 ⟨rfl, hB1⟩
    go_wp2_with fail
    go_ret
    exact ⟨rfl, hB1⟩
  · have hf : FewR gs := purse_few hneg
    have hn0 : n0 ≤ 1048576 := by have := hf.len; rw [h.1] at this; exact this
    have HTO := Lib.hid (fun W (hW : InRules W A n0 gs) => toFactorS_any A n0 cap gs W hn0 hW)
    have hn := hf.len
    have hz := gramFactorsGrammar_len gs hf
    have hS := fun v W (hW : Rules W v gs) => specFactorsGrammar v gs W hf hW hw
    have hP := fun v W (hW : Rules W v gs) => implFactorsGrammar v gs W hf hW hw
    generalize (gramFactorsGrammar gs).1 = hs at hz hS hP
    generalize (gramFactorsGrammar gs).2 = c at hS hP
    have HS := Lib.hid hS
    have HP := Lib.hid hP
    clear h h1 hf hw hS hP
    go_enter Try.func3, Try.ntmps3
    go_wp2_with fail
    refine H1.out.mono ?_
    rintro e w1 ⟨rfl, hB1⟩
    have HB1 := Lib.hid hB1
    clear hB1
    go_wp2_with fail
    refine (HTO.out _ (HI.out.kept HB1.out)).mono ?_
    rintro e w2 ⟨v1, rfl, ho1, hB2⟩
    have HB2 := Lib.hid (HB1.out.trans (hB2.mono HB1.out.size))
    have HR1 := Lib.hid (Rules.of_own ho1)
    clear hB2 ho1
    go_wp2_with fail
    refine (HS.out _ _ HR1.out).mono ?_
    rintro e w3 ⟨x, rfl, hx3, hB3⟩
    have HX3 := Lib.hid hx3
    obtain ⟨Ax, cx, rfl⟩ := own_slice hx3
    have HB3 := Lib.hid (HB2.out.trans (hB3.mono HB2.out.size))
    have hb3 := (Below.refl _ w3).alloc (Nat.le_refl _) (.cells #[.slice Ax hs.length cx] 26)
    have HX3' := Lib.hid (own_below HX3.out hb3 (Nat.le_refl _))
    have HB3' := Lib.hid (HB3.out.trans (hb3.mono HB3.out.size))
    have HC3' := Lib.hid (cell_new w3 (.slice Ax hs.length cx) 26)
    have hl3 : w.heap.size ≤ w3.heap.size := HB3.out.size
    clear hB3 hx3 hb3
    go_wp2_with fail
    obtain ⟨W, hW⟩ : ∃ W, W = w3.heap.size := ⟨_, rfl⟩
    rw [← hW] at HC3' ⊢
    have HWs : Hid ((w3.alloc (.cells #[.slice Ax hs.length cx] 26)).heap.size = W + 1) := Lib.hid (by rw [hW]; simp)
    have HWl : Hid (w.heap.size ≤ W) := Lib.hid (by rw [hW]; exact hl3)
    have HXW : Hid (∀ q, (Value.slice Ax hs.length cx).ownBlock = some q → q < W) := Lib.hid (by rw [hW]; exact fun q hq => (HX3.out.lt q hq).2)
    generalize w3.alloc (.cells #[.slice Ax hs.length cx] 26) = w3a at *
    clear hW hl3
    refine (HTO.out _ (HI.out.kept HB3'.out)).mono ?_
    rintro e w4 ⟨v2, rfl, ho2, hB4⟩
    have HO4 := Lib.hid ho2
    obtain ⟨A2, c2, rfl⟩ := own_slice ho2
    have HB4 := Lib.hid (HB3'.out.trans (hB4.mono HB3'.out.size))
    have HX4 := Lib.hid (own_below HX3'.out hB4 (Nat.le_refl _))
    have HC4 := Lib.hid ((hB4.cell (p := ⟨W, 0, none⟩) (lt_of_cell HC3'.out)).trans HC3'.out)
    have HNX := Lib.hid (own_ne HX3'.out ho2 (Nat.le_refl _))
    have HV4 : Hid (∀ q, (Value.slice A2 gs.length c2).ownBlock = some q → W + 1 ≤ q ∧ q < w4.heap.size) := Lib.hid (by rw [← HWs.out]; exact ho2.lt)
    clear hB4 ho2
    go_wp2_with fail
    refine (HP.out _ _ (Rules.of_own HO4.out)).mono ?_
    rintro e w6 ⟨y, rfl, hy6, hB6⟩
    have HY6 := Lib.hid hy6
    obtain ⟨Ay, cy, rfl⟩ := own_slice hy6
    have HB6 := Lib.hid (HB4.out.trans (hB6.mono HB4.out.size))
    have HO6 := Lib.hid (own_below HO4.out hB6 (Nat.le_refl _))
    have HX6 := Lib.hid (own_below HX4.out hB6 (Nat.le_refl _))
    have HC6 := Lib.hid ((hB6.cell (p := ⟨W, 0, none⟩) (lt_of_cell HC4.out)).trans HC4.out)
    have HNY := Lib.hid (own_ne' HO4.out hy6 (Nat.le_refl _))
    have HNXY := Lib.hid (own_ne HX4.out hy6 (Nat.le_refl _))
    have HVY : Hid (∀ q, (Value.slice Ay hs.length cy).ownBlock = some q → w4.heap.size ≤ q ∧ q < w6.heap.size) := Lib.hid hy6.lt
    have HW4 : Hid (W < w4.heap.size) := Lib.hid (lt_of_cell HC4.out)
    have hb6 := (Below.refl _ w6).alloc (Nat.le_refl _) (.cells #[.slice Ay hs.length cy] 26)
    have HY6' := Lib.hid (own_below HY6.out hb6 (Nat.le_refl _))
    have HO6' := Lib.hid (own_below HO6.out hb6 (Nat.le_refl _))
    have HX6' := Lib.hid (own_below HX6.out hb6 (Nat.le_refl _))
    have HB6' := Lib.hid (HB6.out.trans (hb6.mono HB6.out.size))
    have HC6' := Lib.hid (And.intro ((hb6.cell (p := ⟨W, 0, none⟩) (lt_of_cell HC6.out)).trans HC6.out) (cell_new w6 (.slice Ay hs.length cy) 26))
    have hl6W : W < w6.heap.size := lt_of_cell HC6.out
    have hl46 : w4.heap.size ≤ w6.heap.size := hB6.size
    have hcW := HC6.out
    clear hB6 hy6 hb6
    go_wp2_with fail
    obtain ⟨G, hG⟩ : ∃ G, G = w6.heap.size := ⟨_, rfl⟩
    rw [← hG] at HC6' HVY ⊢
    have HXG : Hid (W < G ∧ w4.heap.size ≤ G) := Lib.hid (by rw [hG]; exact ⟨hl6W, hl46⟩)
    generalize w6.alloc (.cells #[.slice Ay hs.length cy] 26) = w6a at *
    clear hG hl6W hl46 hcW
    refine (eqGrammar_same _ _ hs _ hz (Rules.of_own HY6'.out) (Rules.of_own HX6'.out)).mono ?_
    rintro e w7 ⟨rfl, hB7⟩
    have HB7 := Lib.hid (HB6'.out.trans (hB7.mono HB6'.out.size))
    have HO7 := Lib.hid (own_below HO6'.out hB7 (Nat.le_refl _))
    have HX7 := Lib.hid (own_below HX6'.out hB7 (Nat.le_refl _))
    have HY7 := Lib.hid (own_below HY6'.out hB7 (Nat.le_refl _))
    have HC7 := Lib.hid (And.intro ((hB7.cell (p := ⟨W, 0, none⟩) (lt_of_cell HC6'.out.1)).trans HC6'.out.1) ((hB7.cell (p := ⟨G, 0, none⟩) (lt_of_cell HC6'.out.2)).trans HC6'.out.2))
    clear hB7
    go_wp2_with fail
    refine (HTO.out _ (HI.out.kept HB7.out)).mono ?_
    rintro e w8 ⟨v3, rfl, ho3, hB8⟩
    have HR8 := Lib.hid (Rules.of_own ho3)
    have HB8 := Lib.hid hB8
    clear ho3 hB8
    go_wp2_with fail
    refine (eqFactorS_same _ _ gs _ hn ((Rules.of_own HO7.out).kept HB8.out) HR8.out).mono ?_
    rintro e w9 ⟨rfl, hB9⟩
    have HB79 := Lib.hid (HB8.out.trans (hB9.mono HB8.out.size))
    have HB9 := Lib.hid (HB7.out.trans (HB79.out.mono HB7.out.size))
    have HO9 := Lib.hid (own_below HO7.out HB79.out (Nat.le_refl _))
    have HX9 := Lib.hid (own_below HX7.out HB79.out (Nat.le_refl _))
    have HY9 := Lib.hid (own_below HY7.out HB79.out (Nat.le_refl _))
    have HC9 := Lib.hid (And.intro ((HB79.out.cell (p := ⟨W, 0, none⟩) (lt_of_cell HC7.out.1)).trans HC7.out.1) ((HB79.out.cell (p := ⟨G, 0, none⟩) (lt_of_cell HC7.out.2)).trans HC7.out.2))
    clear hB9
    go_wp2_with fail
    refine (markFactorS_any _ gs _ 1 (by omega) _ HO9.out hn).mono ?_
    rintro e w10 ⟨rfl, _, hg10⟩
    have HB10 := Lib.hid (HB9.out.grown hg10 HB9.out.size (fun q hq => by have h1 := (HV4.out q hq).1; have h2 := HWl.out; omega))
    have HX10 := Lib.hid (World.ownsRow.kept HX9.out hg10 HNX.out)
    have HY10 := Lib.hid (World.ownsRow.kept HY9.out hg10 HNY.out)
    have HC10 := Lib.hid (And.intro (cell_far HC9.out.1 hg10 (fun e => by have h1 := (HV4.out _ e.symm).1; omega)) (cell_far HC9.out.2 hg10 (fun e => by have h1 := (HV4.out _ e.symm).2; have h2 := HXG.out.2; omega)))
    have hgl : (0 : Int) ≤ 3 * (gs.length : Int) := by omega
    have hcW := HC10.out.1
    have hcG := HC10.out.2
    clear hg10
    go_wp2_with fail
    refine (eqGrammar_same _ _ hs _ hz (Rules.of_own HY10.out) (Rules.of_own HX10.out)).mono ?_
    rintro e w11 ⟨rfl, hB11⟩
    have HB11 := Lib.hid (HB10.out.trans (hB11.mono HB10.out.size))
    have HX11 := Lib.hid (own_below HX10.out hB11 (Nat.le_refl _))
    have HY11 := Lib.hid (own_below HY10.out hB11 (Nat.le_refl _))
    have HC11 := Lib.hid (And.intro ((hB11.cell (p := ⟨W, 0, none⟩) (lt_of_cell HC10.out.1)).trans HC10.out.1) ((hB11.cell (p := ⟨G, 0, none⟩) (lt_of_cell HC10.out.2)).trans HC10.out.2))
    clear hB11 hcW hcG
    have hcG := HC11.out.2
    go_wp2_with fail
    refine (markGrammar_any _ hs _ 1 (by omega) _ HY11.out hz).mono ?_
    rintro e w12 ⟨rfl, hy12, hg12⟩
    have HY12 := Lib.hid hy12
    have HB12 := Lib.hid (HB11.out.grown hg12 HB11.out.size (fun q hq => by have h1 := (HVY.out q hq).1; have h2 := HWl.out; have h3 := HW4.out; omega))
    have HX12 := Lib.hid (World.ownsRow.kept HX11.out hg12 HNXY.out)
    have HC12 := Lib.hid (And.intro (cell_far HC11.out.1 hg12 (fun e => by have h1 := (HVY.out _ e.symm).1; have h3 := HW4.out; omega)) (cell_far HC11.out.2 hg12 (fun e => by have h1 := (HVY.out _ e.symm).2; omega)))
    clear hg12 hy12 hcG
    have hcG := HC12.out.2
    have hgz : (0 : Int) ≤ 3 * (hs.length : Int) := by omega
    go_wp2_with fail
    refine (heldGrammar_any _ hs.length _ 1 (by omega) _ HY12.out hz).mono ?_
    rintro e w13 ⟨rfl, hB13⟩
    have HB13 := Lib.hid (HB12.out.trans (hB13.mono HB12.out.size))
    have HX13 := Lib.hid (own_below HX12.out hB13 (Nat.le_refl _))
    have HY13 := Lib.hid (own_below HY12.out hB13 (Nat.le_refl _))
    have HC13 := Lib.hid (And.intro ((hB13.cell (p := ⟨W, 0, none⟩) (lt_of_cell HC12.out.1)).trans HC12.out.1) ((hB13.cell (p := ⟨G, 0, none⟩) (lt_of_cell HC12.out.2)).trans HC12.out.2))
    clear hB13 hcG
    go_wp2_with fail
    refine (HTO.out _ (HI.out.kept HB13.out)).mono ?_
    rintro e w14 ⟨v4, rfl, ho4, hB14⟩
    have HR14 := Lib.hid (Rules.of_own ho4)
    have HB14 := Lib.hid (HB13.out.trans (hB14.mono HB13.out.size))
    have HX14 := Lib.hid (own_below HX13.out hB14 (Nat.le_refl _))
    have HY14 := Lib.hid (own_below HY13.out hB14 (Nat.le_refl _))
    have HC14 := Lib.hid (And.intro ((hB14.cell (p := ⟨W, 0, none⟩) (lt_of_cell HC13.out.1)).trans HC13.out.1) ((hB14.cell (p := ⟨G, 0, none⟩) (lt_of_cell HC13.out.2)).trans HC13.out.2))
    clear hB14 ho4
    go_wp2_with fail
    refine (HP.out _ _ HR14.out).mono ?_
    rintro e w15 ⟨z, rfl, hz15, hB15⟩
    have HZ15 := Lib.hid hz15
    obtain ⟨Az, cz, rfl⟩ := own_slice hz15
    have hb15 := (Below.refl _ w15).alloc (Nat.le_refl _) (.cells #[.slice Az hs.length cz] 26)
    have hB15' := hB15.trans (hb15.mono hB15.size)
    have HB15 := Lib.hid (HB14.out.trans (hB15'.mono HB14.out.size))
    have HX15 := Lib.hid (own_below HX14.out hB15' (Nat.le_refl _))
    have HY15 := Lib.hid (own_below HY14.out hB15' (Nat.le_refl _))
    have HZ15' := Lib.hid (own_below HZ15.out hb15 (Nat.le_refl _))
    have HC15 := Lib.hid (And.intro ((hB15'.cell (p := ⟨W, 0, none⟩) (lt_of_cell HC14.out.1)).trans HC14.out.1) ((hB15'.cell (p := ⟨G, 0, none⟩) (lt_of_cell HC14.out.2)).trans HC14.out.2))
    have hcw15 := (hB15.cell (p := ⟨W, 0, none⟩) (lt_of_cell HC14.out.1)).trans HC14.out.1
    have hlw15 : W < w15.heap.size := lt_of_cell hcw15
    clear hB15 hz15 hb15 hB15'
    go_wp2_with fail
    generalize w15.alloc (.cells #[.slice Az hs.length cz] 26) = w15a at *
    clear hcw15 hlw15
    refine (eqGrammar_same _ _ hs _ hz (Rules.of_own HZ15'.out) (Rules.of_own HX15.out)).mono ?_
    rintro e w16 ⟨rfl, hB16⟩
    have HB16 := Lib.hid (HB15.out.trans (hB16.mono HB15.out.size))
    have HY16 := Lib.hid (own_below HY15.out hB16 (Nat.le_refl _))
    have hcG := (hB16.cell (p := ⟨G, 0, none⟩) (lt_of_cell HC15.out.2)).trans HC15.out.2
    clear hB16
    go_wp2_with fail
    refine (heldGrammar_any _ hs.length _ 1 (by omega) _ HY16.out hz).mono ?_
    rintro e w17 ⟨rfl, hB17⟩
    have HB17 := Lib.hid (HB16.out.trans (hB17.mono HB16.out.size))
    clear hB17 hcG
    go_wp2_with fail
    go_ret
    exact ⟨rfl, HB17.out⟩
end Go.Proofs.Ytlgpleeanmeenaa.fnExactFactorsGrammar
