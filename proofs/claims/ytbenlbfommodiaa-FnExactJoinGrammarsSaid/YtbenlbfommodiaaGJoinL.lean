/-
  Walk: spec.l02Join, two grammars one behind the other.
-/
import Derived.Test.YtbenlbfommodiaaGJoinS
import Derived.Test.YtbenlbfommodiaaGPair
import Derived.Deep.RegionHeld3
import Derived.Deep.RegionLaw
import Derived.Deep.AppendLies
namespace Go.Proofs.Ytbenlbfommodiaa
open Go.RowKit
open Wd
set_option linter.unusedVariables false
namespace Wd
/-- one behind the other -/
def joinG (gs hs : List Rl) : List Rl := if gs.length = 0 then hs else if hs.length = 0 then gs else gs ++ hs.map (raiseR gs.length) ++ [pairR (gs.length - 1) (gs.length + hs.length - 1)]
end Wd
/-- the variable with the rules so far -/
def JSt (w : World) (B V r : Nat) (rs : List Rl) (yv : Value) (wr : World) : Prop :=
  wr.ownsRow B 117 3 yv rs.length (rv rs) ∧ Var wr V yv 45 ∧ Var wr r (.slice none 0 0) 45 ∧ Below w.heap.size w wr ∧ B ≤ wr.heap.size
theorem jst_kept {w wr w1 : World} {B V r : Nat} {yv : Value} {rs : List Rl} (h : JSt w B V r rs yv wr) (hb : Below wr.heap.size wr w1) : JSt w B V r rs yv w1 := by
  obtain ⟨h1, h2, h3, h4, h5⟩ := h
  exact ⟨own_below h1 hb (Nat.le_refl _), h2.kept hb, h3.kept hb, h4.trans (hb.mono h4.size), by have := hb.size; omega⟩
theorem jst_grown {w wr w5 : World} {B V r : Nat} {rs : List Rl} {yv v' : Value} {x : Rl} {o : Obj} (hBw : w.heap.size ≤ B) (hVw : w.heap.size ≤ V) (hrV : r ≠ V) (h : JSt w B V r rs yv wr)
    (hown : w5.ownsRow B 117 3 v' (rs.length + 1) (rv rs ++ rc x)) (hg : (wr.alloc o).grownBy w5 yv.ownBlock) :
    (Var w5 V yv 45) ∧ JSt w B V r (rs ++ [x]) v' (w5.setCell ⟨V, 0, none⟩ v') := by
  obtain ⟨h1, h2, h3, h4, h5⟩ := h
  have n1 := own_var_ne h1 h2 (by decide)
  have n2 := own_var_ne h1 h3 (by decide)
  have k2 : Var w5 V yv 45 := (hg.block V (by have := h2.lt; simp; omega) (fun e => n1 e.symm)).trans (h2.kept ((Below.refl _ wr).alloc (Nat.le_refl _) o))
  have k3 : Var w5 r (.slice none 0 0) 45 := (hg.block r (by have := h3.lt; simp; omega) (fun e => n2 e.symm)).trans (h3.kept ((Below.refl _ wr).alloc (Nat.le_refl _) o))
  have n3 := own_var_ne hown k2 (by decide)
  have hB5 : Below w.heap.size w w5 := (h4.alloc h4.size o).grown hg (by have := h4.size; simp; omega) (fun q hq => by have := (h1.lt q hq).1; omega)
  refine ⟨k2, ?_, ?_, k3.far _ _ (by simpa using hrV), hB5.setCell (by simpa using hVw) _, ?_⟩
  · have := World.ownsRow.kept hown (only_setCell (World.grownBy.refl w5 (some V)) (p := ⟨V, 0, none⟩) (.inl rfl) v') (.inr n3)
    rw [List.length_append, rv_app, rv_one]
    exact this
  · have h7 := k2
    unfold Var at h7 ⊢
    simp [World.setCell, Array.getElem?_modify, h7]
  · have : w5.heap.size ≤ (w5.setCell ⟨V, 0, none⟩ v').heap.size := by simp [World.setCell]
    have h6 := hg.size
    simp at h6
    omega
theorem news_rc (w : World) (x : Rl) (t : TypeId) : ∀ j u, (rc x)[j]? = some u → (w.alloc (.cells #[.string x.L, .int .i64 x.l, .int .i64 x.r] t)).cell? ((⟨w.heap.size, 0, none⟩ : Addr).add j) = some u := news3 w x t
/-- what holds between two rules -/
def JRel (gs hs : List Rl) (w : World) (V r : Nat) (i : Value) (wr : World) : Prop :=
  ∃ (k : Nat) (yv : Value), k ≤ hs.length ∧ i = .int .i64 k ∧ JSt w (w.heap.size + 1) V r (gs ++ (hs.take k).map (raiseR gs.length)) yv wr

set_option maxRecDepth 100000 in
set_option maxHeartbeats 12800000 in
theorem join_any (p q : Nat) (gs hs : List Rl) (w : World) (hf : gs.length ≤ 400) (hf2 : hs.length ≤ 400) (hok : fits hs = true) (hg : GP w p gs) (hh : GP w q hs) :
    Calls Try.prog 90 #[.pointer (some ⟨p, 0, none⟩), .pointer (some ⟨q, 0, none⟩)] w fun e w' => ∃ y, e = .returned (.agg #[y]) ∧ OwnsR w' w.heap.size y (joinG gs hs) ∧ Below w.heap.size w w' := by
  obtain ⟨i0, hi, hz0, hz1, hz2⟩ := info_parts Try.info_rule
  have hb : Below w.heap.size w (w.alloc (.cells #[.slice none 0 0] 45)) := (Below.refl _ w).alloc (Nat.le_refl _) _
  have hvr : Var (w.alloc (.cells #[.slice none 0 0] 45)) w.heap.size (.slice none 0 0) 45 := Var.new w _ _
  have HB := Lib.hid hb
  have HVR := Lib.hid hvr
  have HG := Lib.hid (hg.kept hb)
  have HH := Lib.hid (hh.kept hb)
  obtain ⟨v, hv, A, c, rfl, hr⟩ := hg
  obtain ⟨u, hu, A', c', rfl, hr'⟩ := hh
  have HV := Lib.hid hv
  have HU := Lib.hid hu
  have cv := (hb.cell (p := ⟨p, 0, none⟩) (lt_of_cell hv)).trans hv
  have cu := (hb.cell (p := ⟨q, 0, none⟩) (lt_of_cell hu)).trans hu
  have HRH := Lib.hid hr'
  clear hv hu hr hr' hb hvr
  by_cases h0 : gs.length = 0
  · have hj : joinG gs hs = hs := by unfold joinG; rw [if_pos h0]
    rw [hj]
    rw [h0] at cv
    clear hj h0
    go_enter Try.func90, Try.ntmps90
    go_wp2_with fail
    refine (own_any q hs _ (by omega) HH.out).mono ?_
    rintro e w1 ⟨y, rfl, ho, hB1⟩
    obtain ⟨Ay, cy, rfl⟩ := own_slice ho
    obtain ⟨x0, x1⟩ := (HVR.out.kept hB1).cell
    have HO := Lib.hid ho
    have HB1 := Lib.hid (HB.out.trans (hB1.mono (by simp)))
    clear hB1 ho
    go_wp2_with fail
    refine bodyPost_ret (v := .agg #[.slice Ay hs.length cy]) (by simp [results, Try.results90, go_sem, x0]) rfl ⟨_, rfl, ?_, HB1.out.setCell (by simp) _⟩
    exact own_lower (own_setLow HO.out _ _ (by simp)) (by simp)
  · by_cases h1 : hs.length = 0
    · have hj : joinG gs hs = gs := by unfold joinG; rw [if_neg h0, if_pos h1]
      rw [hj]
      rw [h1] at cu
      have h0' : ((gs.length : Int) == 0) = false := by rw [beq_eq_false_iff_ne]; omega
      clear hj h0 h1
      go_enter Try.func90, Try.ntmps90
      go_wp2_with fail
      refine (own_any p gs _ (by omega) HG.out).mono ?_
      rintro e w1 ⟨y, rfl, ho, hB1⟩
      obtain ⟨Ay, cy, rfl⟩ := own_slice ho
      have HO := Lib.hid ho
      have HB1 := Lib.hid (HB.out.trans (hB1.mono (by simp)))
      have hb2 := (Below.refl _ w1).alloc (Nat.le_refl _) (.cells #[.slice Ay gs.length cy] 45)
      obtain ⟨x0, x1⟩ := ((HVR.out.kept hB1).kept hb2).cell
      have cu1 := (hb2.cell (p := ⟨q, 0, none⟩) (Nat.lt_of_lt_of_le (lt_of_cell cu) hB1.size)).trans ((hB1.cell (p := ⟨q, 0, none⟩) (lt_of_cell cu)).trans cu)
      have HB2 := Lib.hid (HB1.out.trans (hb2.mono HB1.out.size))
      have HO2 := Lib.hid (own_below ho hb2 (Nat.le_refl _))
      clear hB1 ho hb2
      go_wp2_with fail
      refine bodyPost_ret (v := .agg #[.slice Ay gs.length cy]) (by simp [results, Try.results90, go_sem, x0]) rfl ⟨_, rfl, ?_, HB2.out.setCell (by simp) _⟩
      exact own_lower (own_setLow HO2.out _ _ (by simp)) (by simp)
    · have h0' : ((gs.length : Int) == 0) = false := by rw [beq_eq_false_iff_ne]; omega
      have h1' : ((hs.length : Int) == 0) = false := by rw [beq_eq_false_iff_ne]; omega
      have hj : joinG gs hs = gs ++ hs.map (raiseR gs.length) ++ [pairR (gs.length - 1) (gs.length + hs.length - 1)] := by unfold joinG; rw [if_neg h0, if_neg h1]
      rw [hj]
      have HP := Lib.hid (lt_of_cell HV.out)
      have HQ := Lib.hid (lt_of_cell HU.out)
      have HOK := Lib.hid hok
      clear hj hok
      go_enter Try.func90, Try.ntmps90
      go_wp2_with fail
      refine (own_any p gs _ (by omega) HG.out).mono ?_
      rintro e w1 ⟨y, rfl, ho, hB1⟩
      obtain ⟨Ay, cy, rfl⟩ := own_slice ho
      have HB1 := Lib.hid (HB.out.trans (hB1.mono (by simp)))
      have hb2 := (Below.refl _ w1).alloc (Nat.le_refl _) (.cells #[.slice Ay gs.length cy] 45)
      have hs1 : w.heap.size + 1 ≤ w1.heap.size := by have := hB1.size; simp at this; omega
      have HST : Hid (JRel gs hs w w1.heap.size w.heap.size (.int .i64 0) (w1.alloc (.cells #[.slice Ay gs.length cy] 45))) := Lib.hid
        ⟨0, .slice Ay gs.length cy, Nat.zero_le _, rfl, by
          rw [List.take_zero, List.map_nil, List.append_nil]
          exact ⟨own_lower (own_below ho hb2 (Nat.le_refl _)) (by simp), Var.new _ _ _, (HVR.out.kept hB1).kept hb2, HB1.out.trans (hb2.mono HB1.out.size), by simp; omega⟩⟩
      have HB2 := Lib.hid (HB1.out.trans (hb2.mono HB1.out.size))
      have cp2 := (HB2.out.cell (p := ⟨p, 0, none⟩) HP.out).trans HV.out
      have cq2 := (HB2.out.cell (p := ⟨q, 0, none⟩) HQ.out).trans HU.out
      clear hB1 ho hb2
      go_wp2_with fail
      obtain ⟨V, hV⟩ : ∃ V, V = w1.heap.size := ⟨_, rfl⟩
      rw [← hV] at HST ⊢
      have hVw : w.heap.size + 1 ≤ V := by omega
      generalize w1.alloc (.cells #[.slice Ay gs.length cy] 45) = w4 at *
      clear hV hs1 cp2 cq2 cv cu
      go_loopw [7] (fun i wr => JRel gs hs w V w.heap.size i wr) (fun i _ => hs.length - (intOf i).toNat)
      case atStart => exact HST.out
      case round =>
        obtain ⟨k, yv, hk, rfl, hps⟩ := hrel
        obtain ⟨wo, rfl⟩ : ∃ wo : World, wo = wr := ⟨_, rfl⟩
        have HPS := Lib.hid hps
        have cq3 := (hps.2.2.2.1.cell (p := ⟨q, 0, none⟩) HQ.out).trans HU.out
        have cp3 := (hps.2.2.2.1.cell (p := ⟨p, 0, none⟩) HP.out).trans HV.out
        obtain ⟨A2, c2, hyv⟩ := own_slice hps.1
        obtain ⟨N, hN⟩ : ∃ N, N = (gs ++ (hs.take k).map (raiseR gs.length)).length := ⟨_, rfl⟩
        have hNk : N = gs.length + k := by rw [hN, List.length_append, List.length_map, List.length_take]; omega
        rw [← hN] at hyv
        subst hyv
        have HNK := Lib.hid hNk
        have hN2 : N ≤ 800 := by omega
        obtain ⟨vc1, vc2⟩ := hps.2.1.cell
        by_cases hlt : k < hs.length
        · rcases HRH.out with hn | ⟨g, rfl, hg, hc⟩
          · rw [hn] at hlt; simp at hlt
          have hrc := rules_cells hc hlt
          have hSA : ∀ w' : World, Below w.heap.size w w' → (w'.cell? ⟨q, 0, none⟩ = some (.slice (some ⟨g, 0, none⟩) hs.length c') ∧ w'.cell? ⟨g, k * 3, none⟩ = some (.string hs[k].L) ∧ w'.cell? ⟨g, k * 3 + 1, none⟩ = some (.int .i64 hs[k].l) ∧ w'.cell? ⟨g, k * 3 + 2, none⟩ = some (.int .i64 hs[k].r)) := by
            obtain ⟨a0, a1, a2⟩ := hrc
            intro w' hb
            exact ⟨(hb.cell (p := ⟨q, 0, none⟩) HQ.out).trans HU.out, (hb.cell (p := ⟨g, k * 3, none⟩) hg).trans a0, (hb.cell (p := ⟨g, k * 3 + 1, none⟩) hg).trans a1, (hb.cell (p := ⟨g, k * 3 + 2, none⟩) hg).trans a2⟩
          have hft := fits_at HOK.out k hlt
          have hbd : (0 ≤ hs[k].l ∧ hs[k].l ≤ 1048576) ∧ (0 ≤ hs[k].r ∧ hs[k].r ≤ 1048576) ∧ hs[k].L.size ≤ maxLen := by
            unfold maxLen
            by_cases hz : hs[k].L.size = 0
            · have := (ok_pair hz).1 hft; omega
            · have := (ok_letter hz).1 hft; omega
          have HSA := Lib.hid hSA
          have HRS := Lib.hid (fun W => specRaised hs[k] gs.length W hbd.1 hbd.2.1 (by omega) hbd.2.2)
          have htk : (hs.take (k + 1)).map (raiseR gs.length) = (hs.take k).map (raiseR gs.length) ++ [raiseR gs.length hs[k]] := by
            rw [List.take_succ_eq_append_getElem hlt, List.map_append]; rfl
          have HTK := Lib.hid htk
          have HP6 := Lib.hid (jst_kept hps (Below.refl _ wo).drew)
          obtain ⟨s0, s1, s2, s3⟩ := hSA wo.drew HP6.out.2.2.2.1
          obtain ⟨z0, z1⟩ := HP6.out.2.1.cell
          generalize hs[k] = R at *
          obtain ⟨X, hX⟩ : ∃ X, X = raiseR gs.length R := ⟨_, rfl⟩
          rw [← hX] at HRS HTK
          have j0 : (0 : Int) ≤ (k : Int) := by omega
          have j1 : (k : Int) < (hs.length : Int) := by omega
          have HN := Lib.hid hN
          clear hps hrc hc hg hft hbd hSA htk hX hN hNk
          go_wp2_with fail
          go_region_law ((first
            | (go_simp
               go_at_call 101
               refine (HRS.out _).mono ?_
               rintro e w7 ⟨rfl, hB7⟩
               have HP7 := Lib.hid (jst_kept HP6.out hB7)
               have HA7 := Lib.hid (fun o => (jst_kept HP7.out ((Below.refl _ _).alloc (Nat.le_refl _) o)).2.2.2.1)
               have z7 := HP7.out.2.1.cell.1
               have za7 := fun o => (jst_kept HP7.out ((Below.refl _ _).alloc (Nat.le_refl _) o)).2.1.cell.1
               have HNW := Lib.hid (news3 w7 X 117)
               have hbs7 : w.heap.size + 1 ≤ w7.heap.size := HP7.out.2.2.2.2
               have hO7 := HP7.out.1
               rw [← HN.out] at hO7
               have HO7 := Lib.hid hO7
               clear hO7 hB7)
            | (refine step_append_lies _ (by rfl) _ _ 43 (by rfl) (w.heap.size + 1) 117 i0 (.agg #[.string ⟨#[]⟩, .int .i64 0, .int .i64 0]) 3 32 Try.underlying43 hi hz0 hz1 hz2 (by rfl) (by decide) (.slice A2 N c2) N (rv (gs ++ (hs.take k).map (raiseR gs.length))) (by rfl) (World.ownsRow.alloc HO7.out _) ⟨w7.heap.size, 0, none⟩ 1 1 (rc X) (by rfl) (by rfl) HNW.out (rc_cell _) (by decide) (by unfold maxLen; omega) (by omega) (by simp; omega) (w7.heap.size + 1) (by simp) ?_
               intro g8 c8 w8 hown' hgrow _ _
               obtain ⟨hk8, hp9⟩ := jst_grown (x := X) (show w.heap.size ≤ w.heap.size + 1 by omega) (show w.heap.size ≤ V by omega) (show w.heap.size ≠ V by omega) HP7.out (by rw [← HN.out]; exact hown') hgrow
               obtain ⟨x8, y8⟩ := hk8.cell
               have HP9 := Lib.hid hp9
               have HB8 := Lib.hid ((HP7.out.2.2.2.1.alloc HP7.out.2.2.2.1.size _).grown hgrow (by have := HP7.out.2.2.2.1.size; simp; omega) (fun q hq => by have := (HP7.out.1.lt q (by rw [← HN.out] at *; exact hq)).1; omega))
               clear hown' hgrow hk8 hp9)))
          all_goals
            go_wp2_with fail
            go_roundw
            case rel =>
              refine ⟨k + 1, .slice (some ⟨g8, 0, none⟩) (N + 1) c8, by omega, by go_num, ?_⟩
              rw [HTK.out, ← List.append_assoc]
              exact HP9.out
            case measure => (first | (simp [intOf]; done) | (simp [intOf]; omega))
        · obtain rfl : k = hs.length := by omega
          rw [List.take_of_length_le (Nat.le_refl _)] at hps hN
          have HSA := Lib.hid (fun (w' : World) (hb : Below w.heap.size w w') => (hb.cell (p := ⟨q, 0, none⟩) HQ.out).trans HU.out)
          have HP6 := Lib.hid (jst_kept hps (Below.refl _ wo).drew)
          have s0 := HSA.out wo.drew HP6.out.2.2.2.1
          obtain ⟨z0, z1⟩ := HP6.out.2.1.cell
          obtain ⟨X, hX⟩ : ∃ X : Rl, X = ⟨⟨#[]⟩, (gs.length : Int) - 1, (gs.length : Int) + hs.length - 1⟩ := ⟨_, rfl⟩
          have HXP := Lib.hid (show X = pairR (gs.length - 1) (gs.length + hs.length - 1) from by rw [hX]; unfold pairR; congr 1 <;> omega)
          have HXC := Lib.hid (show rc X = [.string ⟨#[]⟩, .int .i64 ((gs.length : Int) - 1), .int .i64 ((gs.length : Int) + hs.length - 1)] from by rw [hX]; rfl)
          have hnw := news3 wo.drew X 117
          rw [hX] at hnw
          have HNW := Lib.hid hnw
          have HN := Lib.hid hN
          have hbs : w.heap.size + 1 ≤ wo.heap.size := hps.2.2.2.2
          have hO6 := HP6.out.1
          rw [← HN.out] at hO6
          have HO6 := Lib.hid hO6
          have hw1 : IntKind.i64.wrap ((gs.length : Int) - 1) = (gs.length : Int) - 1 := by rw [IntKind.wrap_i64]; omega
          have hw2 : IntKind.i64.wrap ((gs.length : Int) + hs.length) = (gs.length : Int) + hs.length := by rw [IntKind.wrap_i64]; omega
          have hw3 : IntKind.i64.wrap ((gs.length : Int) + hs.length - 1) = (gs.length : Int) + hs.length - 1 := by rw [IntKind.wrap_i64]; omega
          have HA6 := Lib.hid (fun o => (jst_kept HP6.out ((Below.refl _ _).alloc (Nat.le_refl _) o)).2.2.2.1)
          have za6 := fun o => (jst_kept HP6.out ((Below.refl _ _).alloc (Nat.le_refl _) o)).2.1.cell.1
          have za6d : ∀ o, (wo.alloc o).drew.cell? ⟨V, 0, none⟩ = some (.slice A2 N c2) := fun o => za6 o
          clear hps hX hnw hN hNk hO6 hlt
          go_wp2_with fail
          go_region_law ((first
            | (refine step_append_lies _ (by rfl) _ _ 43 (by rfl) (w.heap.size + 1) 117 i0 (.agg #[.string ⟨#[]⟩, .int .i64 0, .int .i64 0]) 3 32 Try.underlying43 hi hz0 hz1 hz2 (by rfl) (by decide) (.slice A2 N c2) N (rv (gs ++ hs.map (raiseR gs.length))) (by rfl) (World.ownsRow.alloc HO6.out _) ⟨wo.heap.size, 0, none⟩ 1 1 (rc X) (by rfl) (by rfl) (by rw [HXC.out]; exact HNW.out) (rc_cell _) (by decide) (by unfold maxLen; omega) (by omega) (by simp; omega) (wo.heap.size + 1) (by simp) ?_
               intro g8 c8 w8 hown' hgrow _ _
               obtain ⟨hk8, hp9⟩ := jst_grown (x := X) (show w.heap.size ≤ w.heap.size + 1 by omega) (show w.heap.size ≤ V by omega) (show w.heap.size ≠ V by omega) HP6.out (by rw [← HN.out]; exact hown') hgrow
               obtain ⟨x8, y8⟩ := hk8.cell
               have HP9 := Lib.hid hp9
               have HB8 := Lib.hid ((HP6.out.2.2.2.1.alloc HP6.out.2.2.2.1.size _).grown hgrow (by have := HP6.out.2.2.2.1.size; simp; omega) (fun q hq => by have := (HO6.out.lt q hq).1; omega))
               clear hown' hgrow hk8 hp9)))
          all_goals
            obtain ⟨x9, y9⟩ := HP9.out.2.1.cell
            obtain ⟨r9, t9⟩ := HP9.out.2.2.1.cell
            go_wp2_with fail
            refine bodyPost_ret (v := .agg #[.slice (some ⟨g8, 0, none⟩) (N + 1) c8]) (by simp [results, Try.results90, go_sem, r9]) rfl ⟨_, rfl, ?_, HP9.out.2.2.2.1.setCell (by simp) _⟩
            have hfin := HP9.out.1
            rw [HXP.out] at hfin
            exact own_lower (own_setLow hfin _ _ (by simp)) (by omega)
end Go.Proofs.Ytbenlbfommodiaa
