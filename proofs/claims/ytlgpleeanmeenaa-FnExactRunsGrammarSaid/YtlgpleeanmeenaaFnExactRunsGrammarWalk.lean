/-
  The walk of FnExactRunsGrammar: it returns true at every string.
-/
import Derived.Test.YtlgpleeanmeenaaFnExactRunsGrammarK11
namespace Go.Proofs.Ytlgpleeanmeenaa.fnExactRunsGrammar
open Go.RowKit Wd
set_option linter.unusedVariables false

theorem own_ne {w w' : World} {B C e e' s s' n n' : Nat} {u v : Value} {xs ys : List Value} (h : w.ownsRow B e s u n xs) (h' : w'.ownsRow C e' s' v n' ys) (hC : w.heap.size ≤ C) : u.ownBlock = none ∨ u.ownBlock ≠ v.ownBlock := by
  cases hu : u.ownBlock with
  | none => exact .inl rfl
  | some g =>
    refine .inr fun hh => ?_
    have h1 := (h.lt g hu).2
    have h2 := (h'.lt g hh.symm).1
    omega
theorem cell_far {w w' : World} {b : Nat} {row : Option Nat} {v : Value} (h : w.cell? ⟨b, 0, none⟩ = some v) (hg : w.grownBy w' row) (hne : some b ≠ row) : w'.cell? ⟨b, 0, none⟩ = some v := by
  rw [World.cell?_of_block (a := ⟨b, 0, none⟩) (hg.block b (lt_of_cell h) hne)]; exact h

set_option maxRecDepth 100000 in
set_option maxHeartbeats 12800000 in
theorem walk (a0 : ByteArray) (w : World) (w0 : a0.size ≤ maxLen) :
    Calls Try.prog 8 #[.string a0] w fun e w' => e = .returned (.bool true) ∧ Below w.heap.size w w' := by
  by_cases hu : 1048576 < a0.size
  · go_enter Try.func8, Try.ntmps8
    go_wp2
    go_ret
    exact ⟨rfl, Below.refl _ _⟩
  · have hz := gramRunsGrammar_len a0
    have hS := fun W => specRunsGrammar a0 W w0
    have hP := fun W => implRunsGrammar a0 W w0
    generalize (gramRunsGrammar a0).1 = hs at hz hS hP
    generalize (gramRunsGrammar a0).2 = c at hS hP
    have HS := Lib.hid hS
    have HP := Lib.hid hP
    clear hS hP
    go_enter Try.func8, Try.ntmps8
    go_wp2_with fail
    refine (HS.out _).mono ?_
    rintro e w3 ⟨x, rfl, hx3, hB3⟩
    have HX3 := Lib.hid hx3
    obtain ⟨Ax, cx, rfl⟩ := own_slice hx3
    have hb3 := (Below.refl _ w3).alloc (Nat.le_refl _) (.cells #[.slice Ax hs.length cx] 26)
    have HX3' := Lib.hid (own_below HX3.out hb3 (Nat.le_refl _))
    have HB3' := Lib.hid (hB3.trans (hb3.mono hB3.size))
    have HC3' := Lib.hid (cell_new w3 (.slice Ax hs.length cx) 26)
    have hl3 : w.heap.size ≤ w3.heap.size := hB3.size
    clear hB3 hx3 hb3
    go_wp2_with fail
    obtain ⟨W, hW⟩ : ∃ W, W = w3.heap.size := ⟨_, rfl⟩
    rw [← hW] at HC3' ⊢
    have HWs : Hid ((w3.alloc (.cells #[.slice Ax hs.length cx] 26)).heap.size = W + 1) := Lib.hid (by rw [hW]; simp)
    have HWl : Hid (w.heap.size ≤ W) := Lib.hid (by rw [hW]; exact hl3)
    have HXW : Hid (∀ q, (Value.slice Ax hs.length cx).ownBlock = some q → q < W) := Lib.hid (by rw [hW]; exact fun q hq => (HX3.out.lt q hq).2)
    generalize w3.alloc (.cells #[.slice Ax hs.length cx] 26) = w3a at *
    clear hW hl3
    refine (HP.out _).mono ?_
    rintro e w6 ⟨y, rfl, hy6, hB6⟩
    have HY6 := Lib.hid hy6
    obtain ⟨Ay, cy, rfl⟩ := own_slice hy6
    have HB6 := Lib.hid (HB3'.out.trans (hB6.mono HB3'.out.size))
    have HX6 := Lib.hid (own_below HX3'.out hB6 (Nat.le_refl _))
    have HC6 := Lib.hid ((hB6.cell (p := ⟨W, 0, none⟩) (lt_of_cell HC3'.out)).trans HC3'.out)
    have HNXY := Lib.hid (own_ne HX3'.out hy6 (Nat.le_refl _))
    have HVY : Hid (∀ q, (Value.slice Ay hs.length cy).ownBlock = some q → W + 1 ≤ q ∧ q < w6.heap.size) := Lib.hid (by rw [← HWs.out]; exact hy6.lt)
    have hb6 := (Below.refl _ w6).alloc (Nat.le_refl _) (.cells #[.slice Ay hs.length cy] 26)
    have HY6' := Lib.hid (own_below HY6.out hb6 (Nat.le_refl _))
    have HX6' := Lib.hid (own_below HX6.out hb6 (Nat.le_refl _))
    have HB6' := Lib.hid (HB6.out.trans (hb6.mono HB6.out.size))
    have HC6' := Lib.hid (And.intro ((hb6.cell (p := ⟨W, 0, none⟩) (lt_of_cell HC6.out)).trans HC6.out) (cell_new w6 (.slice Ay hs.length cy) 26))
    have hl6W : W < w6.heap.size := lt_of_cell HC6.out
    have hcW := HC6.out
    clear hB6 hy6 hb6
    go_wp2_with fail
    obtain ⟨G, hG⟩ : ∃ G, G = w6.heap.size := ⟨_, rfl⟩
    rw [← hG] at HC6' HVY ⊢
    have HWG : Hid (W < G) := Lib.hid (by rw [hG]; exact hl6W)
    generalize w6.alloc (.cells #[.slice Ay hs.length cy] 26) = w6a at *
    clear hG hl6W hcW
    refine (eqGrammar_same _ _ hs _ hz (Rules.of_own HY6'.out) (Rules.of_own HX6'.out)).mono ?_
    rintro e w11 ⟨rfl, hB11⟩
    have HB11 := Lib.hid (HB6'.out.trans (hB11.mono HB6'.out.size))
    have HX11 := Lib.hid (own_below HX6'.out hB11 (Nat.le_refl _))
    have HY11 := Lib.hid (own_below HY6'.out hB11 (Nat.le_refl _))
    have HC11 := Lib.hid (And.intro ((hB11.cell (p := ⟨W, 0, none⟩) (lt_of_cell HC6'.out.1)).trans HC6'.out.1) ((hB11.cell (p := ⟨G, 0, none⟩) (lt_of_cell HC6'.out.2)).trans HC6'.out.2))
    clear hB11
    have hcG := HC11.out.2
    go_wp2_with fail
    refine (markGrammar_any _ hs _ 1 (by omega) _ HY11.out hz).mono ?_
    rintro e w12 ⟨rfl, hy12, hg12⟩
    have HY12 := Lib.hid hy12
    have HB12 := Lib.hid (HB11.out.grown hg12 HB11.out.size (fun q hq => by have h1 := (HVY.out q hq).1; have h2 := HWl.out; omega))
    have HX12 := Lib.hid (World.ownsRow.kept HX11.out hg12 HNXY.out)
    have HC12 := Lib.hid (And.intro (cell_far HC11.out.1 hg12 (fun e => by have h1 := (HVY.out _ e.symm).1; omega)) (cell_far HC11.out.2 hg12 (fun e => by have h1 := (HVY.out _ e.symm).2; omega)))
    clear hg12 hy12 hcG
    have hcG := HC12.out.2
    have hgz : (0 : Int) ≤ 3 * (hs.length : Int) := by omega
    go_wp2_with fail
    refine (heldGrammar_any _ hs.length _ 1 (by omega) _ HY12.out hz).mono ?_
    rintro e w13 ⟨rfl, hB13⟩
    have HB13 := Lib.hid (HB12.out.trans (hB13.mono HB12.out.size))
    have HX13 := Lib.hid (own_below HX12.out hB13 (Nat.le_refl _))
    have HY13 := Lib.hid (own_below HY12.out hB13 (Nat.le_refl _))
    have HC13 := Lib.hid (And.intro ((hB13.cell (p := ⟨W, 0, none⟩) (lt_of_cell HC12.out.1)).trans HC12.out.1) ((hB13.cell (p := ⟨G, 0, none⟩) (lt_of_cell HC12.out.2)).trans HC12.out.2))
    clear hB13 hcG
    go_wp2_with fail
    refine (HP.out _).mono ?_
    rintro e w15 ⟨z, rfl, hz15, hB15⟩
    have HZ15 := Lib.hid hz15
    obtain ⟨Az, cz, rfl⟩ := own_slice hz15
    have hb15 := (Below.refl _ w15).alloc (Nat.le_refl _) (.cells #[.slice Az hs.length cz] 26)
    have hB15' := hB15.trans (hb15.mono hB15.size)
    have HB15 := Lib.hid (HB13.out.trans (hB15'.mono HB13.out.size))
    have HX15 := Lib.hid (own_below HX13.out hB15' (Nat.le_refl _))
    have HY15 := Lib.hid (own_below HY13.out hB15' (Nat.le_refl _))
    have HZ15' := Lib.hid (own_below HZ15.out hb15 (Nat.le_refl _))
    have HC15 := Lib.hid (And.intro ((hB15'.cell (p := ⟨W, 0, none⟩) (lt_of_cell HC13.out.1)).trans HC13.out.1) ((hB15'.cell (p := ⟨G, 0, none⟩) (lt_of_cell HC13.out.2)).trans HC13.out.2))
    have hcw15 := (hB15.cell (p := ⟨W, 0, none⟩) (lt_of_cell HC13.out.1)).trans HC13.out.1
    have hlw15 : W < w15.heap.size := lt_of_cell hcw15
    clear hB15 hz15 hb15 hB15'
    go_wp2_with fail
    generalize w15.alloc (.cells #[.slice Az hs.length cz] 26) = w15a at *
    clear hcw15 hlw15
    refine (eqGrammar_same _ _ hs _ hz (Rules.of_own HZ15'.out) (Rules.of_own HX15.out)).mono ?_
    rintro e w16 ⟨rfl, hB16⟩
    have HB16 := Lib.hid (HB15.out.trans (hB16.mono HB15.out.size))
    have HY16 := Lib.hid (own_below HY15.out hB16 (Nat.le_refl _))
    have hcG := (hB16.cell (p := ⟨G, 0, none⟩) (lt_of_cell HC15.out.2)).trans HC15.out.2
    clear hB16
    go_wp2_with fail
    refine (heldGrammar_any _ hs.length _ 1 (by omega) _ HY16.out hz).mono ?_
    rintro e w17 ⟨rfl, hB17⟩
    have HB17 := Lib.hid (HB16.out.trans (hB17.mono HB16.out.size))
    clear hB17 hcG
    go_wp2_with fail
    go_ret
    exact ⟨rfl, HB17.out⟩
end Go.Proofs.Ytlgpleeanmeenaa.fnExactRunsGrammar
