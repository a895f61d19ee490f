/-
  Walk: impl.PowerGrammar, the digits.
-/
import Derived.Test.YtjkijboljffmcabGPowS
import Derived.Test.YtjkijboljffmcabShelf
import Derived.Deep.RegionHeld3
import Derived.Deep.AppendLies
namespace Go.Proofs.Ytjkijboljffmcab
open Go.RowKit
open Wd
set_option linter.unusedVariables false

theorem pairA (a b : Int) (w : World) :
    Calls Try.prog 79 #[.int .i64 a, .int .i64 b] w fun e w' => e = .returned (.agg #[.string ⟨#[]⟩, .int .i64 a, .int .i64 b]) ∧ Below w.heap.size w w' := by
  have hb : Below w.heap.size w (w.alloc (.cells #[.string ⟨#[]⟩, .int .i64 0, .int .i64 0] 59)) := (Below.refl _ w).alloc (Nat.le_refl _) _
  have HB := Lib.hid ((Below.refl _ w).alloc (Nat.le_refl _) (.cells #[.string ⟨#[]⟩, .int .i64 a, .int .i64 b] 59))
  clear hb
  go_enter Try.func79, Try.ntmps79
  go_wp2
  refine bodyPost_ret (v := .agg #[.string ⟨#[]⟩, .int .i64 a, .int .i64 b]) (by simp [results, Try.results79, go_sem]) rfl ⟨rfl, HB.out⟩
/-- the rules so far, in a slot -/
def ISt (w : World) (G0 : Value) (rs : List Rl) (yv : Value) (wr : World) : Prop :=
  wr.ownsRow (w.heap.size + 2) 59 3 yv rs.length (rv rs) ∧ Var wr w.heap.size G0 29 ∧ Var wr (w.heap.size + 1) (.slice none 0 0) 29 ∧ Below w.heap.size w wr ∧ w.heap.size + 2 ≤ wr.heap.size
theorem ist_kept {w wr w1 : World} {G0 yv : Value} {rs : List Rl} (h : ISt w G0 rs yv wr) (hb : Below wr.heap.size wr w1) : ISt w G0 rs yv w1 := by
  obtain ⟨h1, h2, h3, h4, h5⟩ := h
  exact ⟨own_below h1 hb (Nat.le_refl _), h2.kept hb, h3.kept hb, h4.trans (hb.mono h4.size), by have := hb.size; omega⟩
theorem ist_grown {w wr w5 : World} {G0 yv v' : Value} {rs : List Rl} {x : Rl} {o : Obj} (h : ISt w G0 rs yv wr)
    (hown : w5.ownsRow (w.heap.size + 2) 59 3 v' (rs.length + 1) (rv rs ++ rc x)) (hg : (wr.alloc o).grownBy w5 yv.ownBlock) : ISt w G0 (rs ++ [x]) v' w5 := by
  obtain ⟨h1, h2, h3, h4, h5⟩ := h
  have n1 := own_var_ne h1 h2 (by decide)
  have n2 := own_var_ne h1 h3 (by decide)
  have k2 : Var w5 w.heap.size G0 29 := (hg.block w.heap.size (by have := h2.lt; simp; omega) (fun e => n1 e.symm)).trans (h2.kept ((Below.refl _ wr).alloc (Nat.le_refl _) o))
  have k3 : Var w5 (w.heap.size + 1) (.slice none 0 0) 29 := (hg.block (w.heap.size + 1) (by have := h3.lt; simp; omega) (fun e => n2 e.symm)).trans (h3.kept ((Below.refl _ wr).alloc (Nat.le_refl _) o))
  have hB5 : Below w.heap.size w w5 := (h4.alloc h4.size o).grown hg (by have := h4.size; simp; omega) (fun q hq => by have := (h1.lt q hq).1; omega)
  refine ⟨?_, k2, k3, hB5, ?_⟩
  · rw [List.length_append, rv_app, rv_one]; exact hown
  · have h6 := hg.size
    simp at h6
    omega
/-- what holds between two digits -/
def DigI (gs : List Rl) (t : Nat) (w : World) (G0 : Value) (yv i : Value) (wr : World) : Prop :=
  ∃ (m : Nat) (v : Int) (rs : List Rl), i = .int .i64 v ∧ v + 1 = m ∧ m ≤ 50 ∧ ISt w G0 rs yv wr ∧ powFrom t (gs.length - 1) m rs = powG gs t ∧ rs.length + 2 * m ≤ 600 ∧ 1 ≤ rs.length

set_option maxRecDepth 100000 in
set_option maxHeartbeats 12800000 in
theorem implPower_ok (v : Value) (gs : List Rl) (t : Nat) (w : World) (hf : FewR gs) (hr : Rules w v gs) (hok : gOk gs = true) (ht0 : 0 < t) (ht1 : t ≤ 1000000000000000) (hg0 : 0 < gs.length) :
    Calls Try.prog 41 #[.agg #[v], .int .i64 t] w fun e w' => ∃ y, e = .returned (.tuple #[.agg #[y], .int .i64 (limC (powG gs t))]) ∧ OwnsR w' w.heap.size y (limG (powG gs t)) ∧ Below w.heap.size w w' := by
  obtain ⟨i0, hi, hz0, hz1, hz2⟩ := info_parts Try.info_rule
  have hb : Below w.heap.size w ((w.alloc (.cells #[v] 29)).alloc (.cells #[.slice none 0 0] 29)) := ((Below.refl _ w).alloc (Nat.le_refl _) _).alloc (by simp) _
  have hv0 : Var ((w.alloc (.cells #[v] 29)).alloc (.cells #[.slice none 0 0] 29)) w.heap.size v 29 := (Var.new w v 29).kept ((Below.refl _ _).alloc (Nat.le_refl _) _)
  have hvr : Var ((w.alloc (.cells #[v] 29)).alloc (.cells #[.slice none 0 0] 29)) (w.heap.size + 1) (.slice none 0 0) 29 := by
    have := Var.new (w.alloc (.cells #[v] 29)) (.slice none 0 0) 29
    rwa [show (w.alloc (.cells #[v] 29)).heap.size = w.heap.size + 1 from by simp] at this
  have h1 := implValidGrammar v gs _ hf (hr.kept hb)
  have hn := gOk_len hok
  have HPF := Lib.hid (powG_few hok ht1)
  have HRU := Lib.hid hr
  obtain ⟨A, c, rfl, _⟩ := hr
  have HB := Lib.hid hb
  have HV0 := Lib.hid hv0
  have HVR := Lib.hid hvr
  rw [hok] at h1
  have H1 := Lib.hid h1
  have ht2 : ((t : Int) == 0) = false := by rw [beq_eq_false_iff_ne]; omega
  have hg2 : ((gs.length : Int) == 0) = false := by rw [beq_eq_false_iff_ne]; omega
  have hbl1 := bitLen_pos ht1 ht0
  have hbl2 := bitLen_bd ht1
  have hL := fun W => Try.bits_Len64 (t : Int) W (by omega) (by omega)
  simp only [Int.toNat_natCast] at hL
  have HPG : Hid (powFrom t (gs.length - 1) (Lib.bitLen t - 1) gs = powG gs t) := Lib.hid rfl
  generalize Lib.bitLen t = nb at *
  have HL := Lib.hid hL
  clear h1 hok hb hv0 hvr hL
  go_enter Try.func41, Try.ntmps41
  go_wp2_with fail
  refine H1.out.mono ?_
  rintro e w1 ⟨rfl, hB1⟩
  have HV1 := Lib.hid (HV0.out.kept hB1)
  have HR1 := Lib.hid (HVR.out.kept hB1)
  have hv1 := HV1.out.cell.1
  have HB1 := Lib.hid (HB.out.trans (hB1.mono (by simp; omega)))
  have HS1 : Hid (w.heap.size + 2 ≤ w1.heap.size) := Lib.hid (by have := hB1.size; simp at this; omega)
  clear hB1
  go_wp2_with fail
  refine (clone_any (.slice A gs.length c) gs _ (by omega) (HRU.out.kept HB1.out)).mono ?_
  rintro e w3 ⟨y, rfl, ho, hB3⟩
  have HST : Hid (DigI gs t w (.slice A gs.length c) y (.int .i64 ((nb : Int) - 2)) w3) := Lib.hid
    ⟨nb - 1, (nb : Int) - 2, gs, rfl, by omega, by omega, ⟨own_lower ho (by have := HS1.out; omega), HV1.out.kept hB3, HR1.out.kept hB3, HB1.out.trans (hB3.mono HB1.out.size), by have := HS1.out; have := hB3.size; omega⟩, HPG.out, by omega, hg0⟩
  clear hB3 ho hv1
  go_wp2_with fail
  refine (HL.out _).mono ?_
  rintro e w4 ⟨rfl, rfl⟩
  go_wp2_with fail
  go_loopw [6, 7] (fun yv i wr => DigI gs t w (.slice A gs.length c) yv i wr) (fun _ i _ => ((intOf i) + 1).toNat)
  case atStart => exact HST.out
  case round =>
    obtain ⟨m, vv, rs, rfl, hvm, hm, hps, hpow, hlen, h1⟩ := hrel
    obtain ⟨wo, rfl⟩ : ∃ wo : World, wo = wr := ⟨_, rfl⟩
    have HPS := Lib.hid hps
    have HPW := Lib.hid hpow
    obtain ⟨A2, c2, hyv⟩ := own_slice hps.1
    subst hyv
    clear hps hpow
    by_cases hm0 : m = 0
    · subst hm0
      obtain rfl : vv = -1 := by omega
      have hfr : FewR rs := (show rs = powG gs t from HPW.out) ▸ HPF.out
      have HRS : Hid (rs = powG gs t) := Lib.hid HPW.out
      go_wp2_with fail
      have hT := limited_any (.slice A2 rs.length c2) rs wo hfr (Rules.of_own HPS.out.1)
      have hlo := lim_own HPS.out.1
      have hne : (limV rs (.slice A2 rs.length c2)).ownBlock ≠ some (w.heap.size + 1) := by
        intro hq
        unfold limV at hq
        split at hq
        · have := (HPS.out.1.lt _ hq).1; omega
        · cases hq
      obtain ⟨Al, cl, hl⟩ := own_slice hlo
      rw [hl] at hT hlo hne
      have HLO := Lib.hid hlo
      have HT := Lib.hid hT
      have HNE := Lib.hid hne
      clear hT hlo hl hne
      refine HT.out.mono ?_
      rintro e w5 ⟨rfl, hB5⟩
      have hP5 := HPS.out
      obtain ⟨q1, q2, q3, q4, q5⟩ := hP5
      obtain ⟨x0, x1⟩ := (q3.kept hB5).cell
      have HO5 := Lib.hid (own_lower (own_below HLO.out hB5 (Nat.le_refl _)) (show w.heap.size ≤ w.heap.size + 2 by omega))
      have HB5 := Lib.hid (q4.trans (hB5.mono (by omega)))
      clear q1 q2 q3 q4 q5 hB5
      go_wp2_with fail
      have hrs := HRS.out
      refine bodyPost_ret (v := .tuple #[.agg #[.slice Al (limG rs).length cl], .int .i64 (limC rs)]) (by simp [results, Try.results41, go_sem, x0]) rfl ⟨_, by rw [← hrs], ?_, HB5.out.setCell (by simp) _⟩
      rw [← hrs]
      exact World.ownsRow.kept HO5.out (only_setCell (World.grownBy.refl w5 (some (w.heap.size + 1))) (p := ⟨w.heap.size + 1, 0, none⟩) (.inl rfl) _) (.inr HNE.out)
    · obtain ⟨m', rfl⟩ : ∃ m', m = m' + 1 := ⟨m - 1, by omega⟩
      obtain rfl : vv = (m' : Int) := by omega
      have hbit : bits .and .i64 ((t : Int) / 2 ^ m') 1 = (if bitOf t m' then 1 else 0 : Int) := by rw [← div_cast]; exact bit_and t m' ht1
      cases hbv : bitOf t m'
      all_goals
        rw [hbv] at hbit
        have HBV := Lib.hid hbv
        clear hbv
        go_wp2_with fail
        refine (lastA A2 rs.length c2 (by omega) _).mono ?_
        rintro e w4 ⟨rfl, rfl⟩
        go_wp2_with fail
        refine (lastA A2 rs.length c2 (by omega) _).mono ?_
        rintro e w4 ⟨rfl, rfl⟩
        go_wp2_with fail
        refine (pairA ((rs.length : Int) - 1) ((rs.length : Int) - 1) _).mono ?_
        rintro e w4 ⟨rfl, hB4⟩
        have HP4 := Lib.hid (ist_kept HPS.out hB4)
        clear hB4
        obtain ⟨X, hX⟩ : ∃ X : Rl, X = ⟨⟨#[]⟩, (rs.length : Int) - 1, (rs.length : Int) - 1⟩ := ⟨_, rfl⟩
        have HXP := Lib.hid (show X = pairR (rs.length - 1) (rs.length - 1) from by rw [hX]; unfold pairR; congr 1 <;> omega)
        have HXC := Lib.hid (show rc X = [.string ⟨#[]⟩, .int .i64 ((rs.length : Int) - 1), .int .i64 ((rs.length : Int) - 1)] from by rw [hX]; rfl)
        have hnw := news3 w4 X 59
        rw [hX] at hnw
        have HNW := Lib.hid hnw
        have hbs : w.heap.size + 2 ≤ w4.heap.size := HP4.out.2.2.2.2
        clear hX hnw
        go_wp2_with (first | (at_builtin; refine wpList_append_own _ rfl _ _ 27 rfl (w.heap.size + 2) 59 i0 (.agg #[.string ⟨#[]⟩, .int .i64 0, .int .i64 0]) 3 32 Try.underlying27 hi hz0 hz1 hz2 rfl (by decide) _ _ _ rfl (World.ownsRow.alloc HP4.out.1 _) ⟨w4.heap.size, 0, none⟩ 1 1 (rc X) rfl rfl (by rw [HXC.out]; exact HNW.out) (rc_cell _) (by unfold maxLen; omega) (by omega) (by simp; omega) ?_))
        intro v' w5 hown' hgrow _
        obtain ⟨A3, c3, rfl⟩ := own_slice hown'
        have HP5 := Lib.hid (ist_grown (x := X) HP4.out hown' hgrow)
        have x5 := HP5.out.2.1.cell.1
        clear hown' hgrow
        go_wp2_with fail
      · go_roundw
        case rel =>
          refine ⟨m', (m' : Int) - 1, rs ++ [X], rfl, by omega, by omega, HP5.out, ?_, by simp; omega, by simp⟩
          have := HPW.out
          rw [powFrom, HBV.out] at this
          rw [HXP.out]
          exact this
        case measure => (first | (simp [intOf]; done) | (simp [intOf]; omega))
      · obtain ⟨Y, hY⟩ : ∃ Y : Rl, Y = ⟨⟨#[]⟩, (rs.length : Int), (gs.length : Int) - 1⟩ := ⟨_, rfl⟩
        have HYP := Lib.hid (show Y = pairR rs.length (gs.length - 1) from by rw [hY]; unfold pairR; congr 1; omega)
        have HYC := Lib.hid (show rc Y = [.string ⟨#[]⟩, .int .i64 (rs.length : Int), .int .i64 ((gs.length : Int) - 1)] from by rw [hY]; rfl)
        have HP6 := Lib.hid (ist_kept HP5.out (Below.refl _ _).drew)
        have HL6 := Lib.hid (show (rs ++ [X]).length = rs.length + 1 by simp)
        have HY := Lib.hid hY
        clear hY
        go_region_held3 (fun w' => w'.cell? ⟨w.heap.size, 0, none⟩ = some (.slice A gs.length c)) (first | assumption | exact HQ7.out _ | exact x8 | go_keep) ((first
          | (go_at_call 61; refine (lastA _ _ _ (by omega) _).mono ?_; rintro e w6 ⟨he, rfl⟩; (try rw [show ((rs.length + 1 : Nat) : Int) - 1 = rs.length from by omega] at he); subst he)
          | (go_at_call 79
             refine (pairA _ _ _).mono ?_
             rintro e w7 ⟨rfl, hB7⟩
             have HP7 := Lib.hid (ist_kept HP6.out hB7)
             have HQ7 := Lib.hid (fun o => (ist_kept HP7.out ((Below.refl _ _).alloc (Nat.le_refl _) o)).2.1.cell.1)
             have x7 := HP7.out.2.1.cell.1
             have hnw := news3 w7 Y 59
             rw [HY.out] at hnw
             have HNW2 := Lib.hid hnw
             have hbs7 : w.heap.size + 2 ≤ w7.heap.size := HP7.out.2.2.2.2
             have hO7 := HP7.out.1
             rw [HL6.out] at hO7
             have HO7 := Lib.hid hO7
             clear hnw hO7 hB7)
          | (refine step_append_lies _ (by rfl) _ _ 27 (by rfl) (w.heap.size + 2) 59 i0 (.agg #[.string ⟨#[]⟩, .int .i64 0, .int .i64 0]) 3 32 Try.underlying27 hi hz0 hz1 hz2 (by rfl) (by decide) (.slice A3 (rs.length + 1) c3) (rs.length + 1) (rv (rs ++ [X])) (by rfl) (World.ownsRow.alloc HO7.out _) ⟨w7.heap.size, 0, none⟩ 1 1 (rc Y) (by rfl) (by rfl) (by rw [HYC.out]; exact HNW2.out) (rc_cell _) (by decide) (by unfold maxLen; omega) (by omega) (by simp; omega) (w7.heap.size + 1) (by simp) ?_
             intro g8 c8 w8 hown' hgrow _ _
             have HP8 := Lib.hid (ist_grown (x := Y) HP7.out (by rw [HL6.out]; exact hown') hgrow)
             have x8 := HP8.out.2.1.cell.1
             clear hown' hgrow)))
        go_wp2_with fail
        go_roundw
        case rel =>
          refine ⟨m', (m' : Int) - 1, rs ++ [X] ++ [Y], rfl, by omega, by omega, HP8.out, ?_, by simp; omega, by simp⟩
          have := HPW.out
          rw [powFrom, HBV.out] at this
          rw [HXP.out, List.append_assoc, HYP.out]
          exact this
        case measure => (first | (simp [intOf]; done) | (simp [intOf]; omega))
end Go.Proofs.Ytjkijboljffmcab
