/-
  The walk of FnExactPairCounts: it returns true at every input.
-/
import Derived.Test.YtaffachjopjbgaaZ1
import Derived.Test.YtaffachjopjbgaaZ2
import Derived.Test.YtaffachjopjbgaaZ11
import Derived.Test.YtaffachjopjbgaaZ12
namespace Go.Proofs.Ytaffachjopjbgaa.fnExactPairCounts
open Go.RowKit Wd
set_option linter.unusedVariables false

theorem own_ne {w w' : World} {B C e e' s s' n n' : Nat} {u v : Value} {xs ys : List Value} (h : w.ownsRow B e s u n xs) (h' : w'.ownsRow C e' s' v n' ys) (hC : w.heap.size ≤ C) : u.ownBlock = none ∨ u.ownBlock ≠ v.ownBlock := by
  cases hu : u.ownBlock with
  | none => exact .inl rfl
  | some g =>
    refine .inr fun hh => ?_
    have h1 := (h.lt g hu).2
    have h2 := (h'.lt g hh.symm).1
    omega
theorem own_ne' {w w' : World} {B C e e' s s' n n' : Nat} {u v : Value} {xs ys : List Value} (h : w.ownsRow B e s u n xs) (h' : w'.ownsRow C e' s' v n' ys) (hC : w.heap.size ≤ C) : v.ownBlock = none ∨ v.ownBlock ≠ u.ownBlock := by
  cases hv : v.ownBlock with
  | none => exact .inl rfl
  | some g =>
    refine .inr fun hh => ?_
    have h1 := (h.lt g hh.symm).2
    have h2 := (h'.lt g hv).1
    omega
theorem cell_far {w w' : World} {b : Nat} {row : Option Nat} {v : Value} (h : w.cell? ⟨b, 0, none⟩ = some v) (hg : w.grownBy w' row) (hne : some b ≠ row) : w'.cell? ⟨b, 0, none⟩ = some v := by
  rw [World.cell?_of_block (a := ⟨b, 0, none⟩) (hg.block b (lt_of_cell h) hne)]; exact h

set_option maxRecDepth 100000 in
set_option maxHeartbeats 12800000 in
theorem walk (A : Option Addr) (n0 cap : Nat) (gs : List Rl) (w : World) (hl : n0 ≤ maxLen) (h : InRules w A n0 gs) :
    Calls Try.prog 12 #[.agg #[.slice A n0 cap]] w fun e w' => e = .returned (.bool true) ∧ Below w.heap.size w w' := by
  have hB0 := (Below.refl _ w).alloc (Nat.le_refl _) (.cells #[.slice A n0 cap] 28)
  have h1 := szGrammar_any A n0 cap gs 1048576 _ hl (h.kept hB0) (by omega) (by omega)
  have H1 := Lib.hid h1
  have HI := Lib.hid h
  by_cases hneg : purse 1048576 gs < 0
  · clear h h1 hB0
    go_enter Try.func12, Try.ntmps12
    go_wp2_with fail
    refine H1.out.mono ?_
    rintro e w1 ⟨rfl, hB1⟩
    have HB1 := Lib.hid hB1
    clear hB1
    go_wp2_with fail
    go_ret
    exact ⟨rfl, ((Below.refl _ w).alloc (Nat.le_refl _) _).trans (HB1.out.mono (by simp))⟩
  · have hf : FewR gs := purse_few hneg
    have hn0 : n0 ≤ 1048576 := by have := hf.len; rw [h.1] at this; exact this
    have HTO := Lib.hid (fun W (hW : InRules W A n0 gs) => toGrammar_any A n0 cap gs W hn0 hW)
    have HB0 := Lib.hid hB0
    have hn := hf.len
    obtain ⟨hz, hzr24⟩ := pcA_few gs
    have hS := fun v W (hW : Rules W v gs) => specPairCounts v gs W hf hW
    have hP := fun v W (hW : Rules W v gs) => implPairCounts v gs W hf hW
    generalize (pcA gs).1 = zs at hz hzr24 hS hP
    generalize (pcA gs).2 = c at hS hP
    have hzr : ∀ r ∈ zs, r.length ≤ 1048576 := fun r hr => Nat.le_trans (hzr24 r hr) (by decide)
    have HEQ := Lib.hid (fun W u v (h1 : IsLL W u zs) (h2 : IsLL W v zs) => eqLL_any u v zs W hz hzr h1 h2)
    have HMR := Lib.hid (fun v U lo W (h : OwnM W lo v U zs) => markLL v U zs lo 1 W hz hzr (by omega) (by omega) h)
    have HHR := Lib.hid (fun v U lo W h => heldLL v U zs lo 1 W hz hzr (by omega) (by omega) h)
    have HS := Lib.hid hS
    have HP := Lib.hid hP
    clear h h1 hB0 hf hS hP hz hzr24 hzr
    go_enter Try.func12, Try.ntmps12
    go_wp2_with fail
    refine H1.out.mono ?_
    rintro e w1 ⟨rfl, hB1⟩
    have HB1 := Lib.hid (HB0.out.trans (hB1.mono (by simp)))
    have HC1 := Lib.hid ((hB1.cell (p := ⟨w.heap.size, 0, none⟩) (by simp)).trans (cell_new _ _ _))
    have hc1 := HC1.out
    clear hB1
    go_wp2_with fail
    refine (HTO.out _ (HI.out.kept HB1.out)).mono ?_
    rintro e w2 ⟨v1, rfl, ho1, hB2⟩
    have HB2 := Lib.hid (HB1.out.trans (hB2.mono HB1.out.size))
    have HR1 := Lib.hid (Rules.of_own ho1)
    have HC2 := Lib.hid ((hB2.cell (p := ⟨w.heap.size, 0, none⟩) (lt_of_cell hc1)).trans hc1)
    clear hB2 ho1 hc1
    go_wp2_with fail
    refine (HS.out _ _ HR1.out).mono ?_
    rintro e w3 ⟨x, Ux, rfl, hx3, hB3⟩
    have hxl := hx3.isLL
    have HXL := Lib.hid (fun W (hb : Below w3.heap.size w3 W) => hxl.kept hb)
    have HD3 := Lib.hid (Below.refl w3.heap.size w3)
    clear hxl
    have HB3 := Lib.hid (HB2.out.trans (hB3.mono HB2.out.size))
    have HC3 := Lib.hid ((hB3.cell (p := ⟨w.heap.size, 0, none⟩) (lt_of_cell HC2.out)).trans HC2.out)
    have hc3 := HC3.out
    clear hB3 hx3
    go_wp2_with fail
    refine (HTO.out _ (HI.out.kept HB3.out)).mono ?_
    rintro e w4 ⟨v2, rfl, ho2, hB4⟩
    have HB4 := Lib.hid (HB3.out.trans (hB4.mono HB3.out.size))
    have HO4 := Lib.hid ho2
    have HD4 := Lib.hid (HD3.out.trans (hB4.mono HD3.out.size))
    have HV4 := Lib.hid ho2.lt
    obtain ⟨A2, c2, rfl⟩ := own_slice ho2
    have HC4 := Lib.hid ((hB4.cell (p := ⟨w.heap.size, 0, none⟩) (lt_of_cell hc3)).trans hc3)
    have HLB3 := Lib.hid HB3.out.size
    clear hB4 ho2 hc3
    go_wp2_with fail
    have hB5 := (Below.refl _ w4).alloc (Nat.le_refl _) (.cells #[.slice A2 gs.length c2] 37)
    refine (HP.out _ _ ((Rules.of_own HO4.out).kept hB5)).mono ?_
    rintro e w6 ⟨y, Uy, rfl, hy6, hB6⟩
    have hB46 := hB5.trans (hB6.mono (by simp))
    have HB6 := Lib.hid (HB4.out.trans (hB46.mono HB4.out.size))
    have HO6 := Lib.hid (own_below HO4.out hB46 (Nat.le_refl _))
    have HD6 := Lib.hid (HD4.out.trans (hB46.mono HD4.out.size))
    have HY6 := Lib.hid (hy6.lower (show w4.heap.size ≤ (w4.alloc (.cells #[.slice A2 gs.length c2] 37)).heap.size by simp))
    have HW34 := Lib.hid HD4.out.size
    have HW04 := Lib.hid HB4.out.size
    have HW46 := Lib.hid hB46.size
    have HC6 := Lib.hid ((hB46.cell (p := ⟨w.heap.size, 0, none⟩) (lt_of_cell HC4.out)).trans HC4.out)
    have HXC6 := Lib.hid ((hB6.cell (p := ⟨w4.heap.size, 0, none⟩) (by simp)).trans (cell_new _ _ _))
    obtain ⟨X, hX⟩ : ∃ X, X = w4.heap.size := ⟨_, rfl⟩
    rw [← hX] at HXC6 ⊢
    have HXE := Lib.hid hX
    clear hB5 hB6 hB46 hX hy6
    go_wp2_with fail
    refine (HEQ.out _ _ _ HY6.out.isLL (HXL.out _ HD6.out)).mono ?_
    rintro e w7 ⟨rfl, hb7⟩
    have HB7 := Lib.hid (HB6.out.trans (hb7.mono HB6.out.size))
    have HO7 := Lib.hid (own_below HO6.out hb7 (Nat.le_refl _))
    have HD7 := Lib.hid (HD6.out.trans (hb7.mono HD6.out.size))
    have HY7 := Lib.hid (HY6.out.kept hb7)
    have HW47 := Lib.hid (Nat.le_trans HW46.out hb7.size)
    have HC7 := Lib.hid ((hb7.cell (p := ⟨w.heap.size, 0, none⟩) (lt_of_cell HC6.out)).trans HC6.out)
    have HXC7 := Lib.hid ((hb7.cell (p := ⟨X, 0, none⟩) (lt_of_cell HXC6.out)).trans HXC6.out)
    have HT7 := Lib.hid (fun m => HTO.out (w7.drewN m) (HI.out.kept (below_drewN HB7.out m)))
    have hc7 := HC7.out
    have hx7 := HXC7.out
    clear hb7
    go_wp2_with fail
    go_region_held3 (fun w' => w'.cell? ⟨w.heap.size, 0, none⟩ = some (.slice A n0 cap) ∧ w'.cell? ⟨X, 0, none⟩ = some (.slice A2 gs.length c2)) (first | go_keep | exact HS8.out | exact HS9.out)
      (first
        | (go_at_call 21; refine (HT7.out _).mono ?_; rintro e w8 ⟨v3, rfl, ho3, hB8⟩; have HB8 := Lib.hid (below_undrew hB8); have HR8 := Lib.hid (Rules.of_own ho3); have HS8 := Lib.hid (And.intro ((HB8.out.cell (p := ⟨w.heap.size, 0, none⟩) (lt_of_cell HC7.out)).trans HC7.out) ((HB8.out.cell (p := ⟨X, 0, none⟩) (lt_of_cell HXC7.out)).trans HXC7.out)); clear ho3 hB8)
        | (go_at_call 24; refine (eqGrammar_same _ _ gs _ hn ((Rules.of_own HO7.out).kept HB8.out) HR8.out).mono ?_; rintro e w9 ⟨rfl, hB9⟩; have HB79 := Lib.hid (HB8.out.trans (hB9.mono HB8.out.size)); have HS9 := Lib.hid (And.intro ((HB79.out.cell (p := ⟨w.heap.size, 0, none⟩) (lt_of_cell HC7.out)).trans HC7.out) ((HB79.out.cell (p := ⟨X, 0, none⟩) (lt_of_cell HXC7.out)).trans HXC7.out)); clear hB9))
    have HB9 := Lib.hid (HB7.out.trans (HB79.out.mono HB7.out.size))
    have HO9 := Lib.hid (own_below HO7.out HB79.out (Nat.le_refl _))
    have HD9 := Lib.hid (HD7.out.trans (HB79.out.mono HD7.out.size))
    have HY9 := Lib.hid (HY7.out.kept HB79.out)
    have hx9 := HS9.out.2
    have HC9 := Lib.hid HS9.out.1
    clear hc7 hx7
    go_wp2_with fail
    refine (markGrammar_any _ gs _ 1 (by omega) _ HO9.out hn).mono ?_
    rintro e w10 ⟨rfl, _, hg10⟩
    have HB10 := Lib.hid (HB9.out.grown hg10 HB9.out.size (fun q hq => Nat.le_trans HLB3.out (HV4.out q hq).1))
    have hoy : OnlyIn [Value.slice A2 gs.length c2] w9 w10 := OnlyIn.of_grown hg10 (by simp)
    have HD10 := Lib.hid (HD9.out.trans (hoy.below (lo := w3.heap.size) HD9.out.size (fun u hu q hq => by simp only [List.mem_singleton] at hu; subst hu; exact (HV4.out q hq).1)))
    have HY10 := Lib.hid (HY9.out.only hoy (fun u hu q hq => by simp only [List.mem_singleton] at hu; subst hu; exact (HV4.out q hq).2))
    have HW410 := Lib.hid (Nat.le_trans HW47.out (Nat.le_trans HB79.out.size hg10.size))
    clear hoy
    have hc10 := cell_far HC9.out hg10 (fun e => by have := (HV4.out _ e.symm).1; have h3 := lt_of_cell HC3.out; simp only at h3; omega)
    have HC10 := Lib.hid hc10
    have hgl : (0 : Int) ≤ 3 * (gs.length : Int) := by omega
    clear hg10 hx9
    go_wp2_with fail
    refine (HEQ.out _ _ _ HY10.out.isLL (HXL.out _ HD10.out)).mono ?_
    rintro e w11 ⟨rfl, hb11⟩
    have HB11 := Lib.hid (HB10.out.trans (hb11.mono HB10.out.size))
    have HD11 := Lib.hid (HD10.out.trans (hb11.mono HD10.out.size))
    have HY11 := Lib.hid (HY10.out.kept hb11)
    have HW411 := Lib.hid (Nat.le_trans HW410.out hb11.size)
    have HC11 := Lib.hid ((hb11.cell (p := ⟨w.heap.size, 0, none⟩) (lt_of_cell HC10.out)).trans HC10.out)
    clear hb11 hc10
    go_wp2_with fail
    generalize hpr : ((pre zs zs.length : Nat) : Int) = pr at *
    have hpr0 : 0 ≤ pr := by omega
    clear hpr
    have HGE := Lib.hid HY11.out.rows.ge
    refine (HMR.out _ _ _ _ HY11.out).mono ?_
    rintro e w12 ⟨rfl, hy12, hg12⟩
    have HY12 := Lib.hid hy12
    have hb12 : Below w4.heap.size w11 w12 := hg12.below HW411.out (fun u hu q hq => (HGE.out u hu q hq).1)
    have HB12 := Lib.hid (HB11.out.trans (hb12.mono HW04.out))
    have HD12 := Lib.hid (HD11.out.trans (hb12.mono HW34.out))
    have hc12 := (hb12.cell (p := ⟨w.heap.size, 0, none⟩) (lt_of_cell HC4.out)).trans HC11.out
    have HC12 := Lib.hid hc12
    clear hg12 hy12 hb12
    go_wp2_with fail
    refine (HHR.out _ _ _ _ HY12.out).mono ?_
    rintro e w13 ⟨rfl, rfl⟩
    go_wp2_with fail
    refine (HTO.out _ (HI.out.kept HB12.out)).mono ?_
    rintro e w14 ⟨v4, rfl, ho4, hB14⟩
    have HR14 := Lib.hid (Rules.of_own ho4)
    have HB14 := Lib.hid (HB12.out.trans (hB14.mono HB12.out.size))
    have HD14 := Lib.hid (HD12.out.trans (hB14.mono HD12.out.size))
    have HY14 := Lib.hid (HY12.out.kept hB14)
    clear hB14 ho4 hc12
    go_wp2_with fail
    refine (HP.out _ _ HR14.out).mono ?_
    rintro e w15 ⟨z, Uz, rfl, hz15, hB15⟩
    have HZ15 := Lib.hid hz15.isLL
    have HB15 := Lib.hid (HB14.out.trans (hB15.mono HB14.out.size))
    have HD15 := Lib.hid (HD14.out.trans (hB15.mono HD14.out.size))
    have HY15 := Lib.hid (HY14.out.kept hB15)
    clear hB15 hz15
    go_wp2_with fail
    refine (HEQ.out _ _ _ HZ15.out (HXL.out _ HD15.out)).mono ?_
    rintro e w16 ⟨rfl, hb16⟩
    have HB16 := Lib.hid (HB15.out.trans (hb16.mono HB15.out.size))
    have HY16 := Lib.hid (HY15.out.kept hb16)
    clear hb16
    go_wp2_with fail
    refine (HHR.out _ _ _ _ HY16.out).mono ?_
    rintro e w17 ⟨rfl, rfl⟩
    go_wp2_with fail
    go_ret
    exact ⟨rfl, HB16.out⟩
end Go.Proofs.Ytaffachjopjbgaa.fnExactPairCounts
