/-
  Walk: spec.PowerGrammar, the digits.
-/
import Derived.Test.YtjkijboljffmcabGLim
import Derived.Test.YtjkijboljffmcabGLetI
import Derived.Test.YtjkijboljffmcabGPowM
import Derived.Deep.AppendLies
namespace Go.Proofs.Ytjkijboljffmcab
open Go.RowKit
open Wd
set_option linter.unusedVariables false

theorem own_var_ne {w : World} {B e n s : Nat} {yv : Value} {xs : List Value} {V : Nat} {u : Value} {t : TypeId} (h : w.ownsRow B e s yv n xs) (hv : Var w V u t) (hne : e ≠ t) : yv.ownBlock ≠ some V := by
  rcases h.2 with ⟨rfl, _⟩ | ⟨g', cap, cur, rfl, _, hh, _⟩
  · simp [Value.ownBlock]
  · intro he
    have : g' = V := by simpa [Value.ownBlock] using he
    subst this
    unfold Var at hv
    rw [hh] at hv
    injection hv with hv
    injection hv with _ ht
    exact hne ht
/-- the variable with the rules so far -/
def PSt (w : World) (V r : Nat) (rs : List Rl) (yv : Value) (wr : World) : Prop :=
  wr.ownsRow (w.heap.size + 2) 59 3 yv rs.length (rv rs) ∧ Var wr V yv 29 ∧ Var wr r (.slice none 0 0) 29 ∧ Below w.heap.size w wr ∧ w.heap.size + 2 ≤ wr.heap.size
theorem pst_grown {w wr w5 : World} {V r : Nat} {rs : List Rl} {yv v' : Value} {x : Rl} {o : Obj} (hVw : w.heap.size ≤ V) (hrV : r ≠ V) (h : PSt w V r rs yv wr)
    (hown : w5.ownsRow (w.heap.size + 2) 59 3 v' (rs.length + 1) (rv rs ++ rc x)) (hg : (wr.alloc o).grownBy w5 yv.ownBlock) :
    (Var w5 V yv 29) ∧ PSt w V r (rs ++ [x]) v' (w5.setCell ⟨V, 0, none⟩ v') := by
  obtain ⟨h1, h2, h3, h4, h5⟩ := h
  have n1 := own_var_ne h1 h2 (by decide)
  have n2 := own_var_ne h1 h3 (by decide)
  have k2 : Var w5 V yv 29 := (hg.block V (by have := h2.lt; simp; omega) (fun e => n1 e.symm)).trans (h2.kept ((Below.refl _ wr).alloc (Nat.le_refl _) o))
  have k3 : Var w5 r (.slice none 0 0) 29 := (hg.block r (by have := h3.lt; simp; omega) (fun e => n2 e.symm)).trans (h3.kept ((Below.refl _ wr).alloc (Nat.le_refl _) o))
  have n3 := own_var_ne hown k2 (by decide)
  have hB5 : Below w.heap.size w w5 := (h4.alloc h4.size o).grown hg (by have := h4.size; simp; omega) (fun q hq => by have := (h1.lt q hq).1; omega)
  refine ⟨k2, ?_, ?_, k3.far _ _ (by simpa using hrV), hB5.setCell (by simpa using hVw) _, ?_⟩
  · have := World.ownsRow.kept hown (only_setCell (World.grownBy.refl w5 (some V)) (p := ⟨V, 0, none⟩) (.inl rfl) v') (.inr n3)
    rw [List.length_append, rv_app, rv_one]
    exact this
  · have h7 := k2
    unfold Var at h7 ⊢
    simp [World.setCell, Array.getElem?_modify, h7]
  · have : w5.heap.size ≤ (w5.setCell ⟨V, 0, none⟩ v').heap.size := by simp [World.setCell]
    have h6 := hg.size
    simp at h6
    omega
theorem news3 (w : World) (x : Rl) (t : TypeId) : ∀ j u, (rc x)[j]? = some u → (w.alloc (.cells #[.string x.L, .int .i64 x.l, .int .i64 x.r] t)).cell? ((⟨w.heap.size, 0, none⟩ : Addr).add j) = some u :=
  World.news_of_block (cs := #[.string x.L, .int .i64 x.l, .int .i64 x.r]) (t := t) (fr := (0, 0)) (heap_alloc_new w _)
theorem rc_cell (x : Rl) : ∀ u ∈ rc x, u.oneCell' = true := by
  intro u hu
  simp only [rc, List.mem_cons, List.not_mem_nil, or_false] at hu
  rcases hu with rfl | rfl | rfl <;> rfl
theorem div_cast (t k : Nat) : ((t / 2 ^ k : Nat) : Int) = (t : Int) / 2 ^ k := by rw [Int.natCast_ediv, Int.natCast_pow]; rfl
theorem sum_ok {gs : List Rl} (h : gOk gs = true) : sumL gs ≤ gs.length := by
  have hf := (gOk_iff.1 h).2.1
  have : ∀ k, k ≤ gs.length → sumL (gs.take k) ≤ k := by
    intro k
    induction k with
    | zero => intro _; simp [sumL]
    | succ k ih =>
      intro hk
      rw [sumL_take gs k hk]
      have h1 := ih (by omega)
      have h2 := fits_at hf k hk
      have : gs[k].L.size ≤ 1 := by
        by_cases h0 : gs[k].L.size = 0
        · omega
        · have := (ok_letter h0).1 h2; omega
      omega
  have h3 := this gs.length (Nat.le_refl _)
  rwa [List.take_of_length_le (Nat.le_refl _)] at h3
theorem powG_few {gs : List Rl} {t : Nat} (h : gOk gs = true) (ht : t ≤ 1000000000000000) : FewR (powG gs t) := by
  unfold FewR powG
  rw [powFrom_sum]
  have h1 := gOk_len h
  have h2 := sum_ok h
  have h3 := powFrom_len t (gs.length - 1) (Lib.bitLen t - 1) gs
  have h4 := bitLen_bd ht
  omega
/-- what holds between two digits -/
def DigRel (gs : List Rl) (t : Nat) (w : World) (V r : Nat) (i : Value) (wr : World) : Prop :=
  ∃ (m : Nat) (v : Int) (rs : List Rl) (yv : Value), i = .int .i64 v ∧ v + 1 = m ∧ m ≤ 50 ∧ PSt w V r rs yv wr ∧ powFrom t (gs.length - 1) m rs = powG gs t ∧ rs.length + 2 * m ≤ 600 ∧ 1 ≤ rs.length

set_option maxRecDepth 100000 in
set_option maxHeartbeats 12800000 in
theorem specPower_ok (v : Value) (gs : List Rl) (t : Nat) (w : World) (hf : FewR gs) (hr : Rules w v gs) (hok : gOk gs = true) (ht0 : 0 < t) (ht1 : t ≤ 1000000000000000) (hg0 : 0 < gs.length) :
    Calls Try.prog 40 #[.agg #[v], .int .i64 t] w fun e w' => ∃ y, e = .returned (.tuple #[.agg #[y], .int .i64 (limC (powG gs t))]) ∧ OwnsR w' w.heap.size y (limG (powG gs t)) ∧ Below w.heap.size w w' := by
  obtain ⟨i0, hi, hz0, hz1, hz2⟩ := info_parts Try.info_rule
  have hb : Below w.heap.size w ((w.alloc (.cells #[v] 29)).alloc (.cells #[.slice none 0 0] 29)) := ((Below.refl _ w).alloc (Nat.le_refl _) _).alloc (by simp) _
  have hg : GP ((w.alloc (.cells #[v] 29)).alloc (.cells #[.slice none 0 0] 29)) w.heap.size gs := (rules_gpT hr 29).kept ((Below.refl _ _).alloc (Nat.le_refl _) _)
  have hv0 : Var ((w.alloc (.cells #[v] 29)).alloc (.cells #[.slice none 0 0] 29)) w.heap.size v 29 := (Var.new w v 29).kept ((Below.refl _ _).alloc (Nat.le_refl _) _)
  have hvr : Var ((w.alloc (.cells #[v] 29)).alloc (.cells #[.slice none 0 0] 29)) (w.heap.size + 1) (.slice none 0 0) 29 := by
    have := Var.new (w.alloc (.cells #[v] 29)) (.slice none 0 0) 29
    rwa [show (w.alloc (.cells #[v] 29)).heap.size = w.heap.size + 1 from by simp] at this
  have h1 := l02Ok_any w.heap.size gs _ hf hg
  have HPF := Lib.hid (powG_few hok ht1)
  have hn := gOk_len hok
  have HFW := Lib.hid hf
  obtain ⟨A, c, rfl, _⟩ := hr
  have HB := Lib.hid hb
  have HG := Lib.hid hg
  have HV0 := Lib.hid hv0
  have HVR := Lib.hid hvr
  rw [hok] at h1
  have H1 := Lib.hid h1
  have HIN := Lib.hid (fun W => in_any (t : Int) 0 1000000000000000 W)
  have hdec : (decide ((0 : Int) ≤ (t : Int)) && decide ((t : Int) ≤ 1000000000000000)) = true := by simp; omega
  rw [hdec] at HIN
  have ht2 : ((t : Int) == 0) = false := by rw [beq_eq_false_iff_ne]; omega
  have hg2 : ((gs.length : Int) == 0) = false := by rw [beq_eq_false_iff_ne]; omega
  have hbl1 := bitLen_pos ht1 ht0
  have hbl2 := bitLen_bd ht1
  have HBI := Lib.hid (fun k => bitLen_iff (t := t) (k := k) ht1)
  have HPG : Hid (powFrom t (gs.length - 1) (Lib.bitLen t - 1) gs = powG gs t) := Lib.hid rfl
  generalize Lib.bitLen t = nb at *
  clear h1 hok hb hg hv0 hvr hdec
  go_enter Try.func40, Try.ntmps40
  go_wp2_with fail
  refine H1.out.mono ?_
  rintro e w1 ⟨rfl, hB1⟩
  have HG1 := Lib.hid (HG.out.kept hB1)
  have HV1 := Lib.hid (HV0.out.kept hB1)
  have HR1 := Lib.hid (HVR.out.kept hB1)
  have hv1 := HV1.out.cell.1
  have HB1 := Lib.hid (HB.out.trans (hB1.mono (by simp; omega)))
  clear hB1
  go_wp2_with fail
  refine (HIN.out _).mono ?_
  rintro e w2 ⟨rfl, rfl⟩
  go_wp2_with fail
  refine (own_any w.heap.size gs _ (by omega) HG1.out).mono ?_
  rintro e w3 ⟨y, rfl, ho, hB3⟩
  have HO3 := Lib.hid ho
  obtain ⟨Ay, cy, rfl⟩ := own_slice ho
  have hv3 := (HV1.out.kept hB3).cell.1
  have hs3 := (HV1.out.kept hB3).lt
  have HR3 := Lib.hid (HR1.out.kept hB3)
  have HB3 := Lib.hid (HB1.out.trans (hB3.mono HB1.out.size))
  have hs1 : w.heap.size + 1 < w1.heap.size := HR1.out.lt
  have hsz3 : w.heap.size + 2 ≤ w3.heap.size := by have := hB3.size; omega
  have hb3 := (Below.refl _ w3).alloc (Nat.le_refl _) (.cells #[.slice Ay gs.length cy] 29)
  have hst : DigRel gs t w w3.heap.size (w.heap.size + 1) (.int .i64 ((nb : Int) - 2)) (w3.alloc (.cells #[.slice Ay gs.length cy] 29)) :=
    ⟨nb - 1, (nb : Int) - 2, gs, .slice Ay gs.length cy, rfl, by omega, by omega, ⟨own_lower (own_below HO3.out hb3 (Nat.le_refl _)) (by omega), Var.new _ _ _, HR3.out.kept hb3, HB3.out.trans (hb3.mono HB3.out.size), by simp; omega⟩, HPG.out, by omega, hg0⟩
  have HST := Lib.hid hst
  have hv4 : (w3.alloc (.cells #[.slice Ay gs.length cy] 29)).cell? ⟨w.heap.size, 0, none⟩ = some (.slice A gs.length c) := (hb3.cell (p := ⟨w.heap.size, 0, none⟩) hs3).trans hv3
  clear hB3 ho hst hb3 hs1
  go_wp2_with fail
  obtain ⟨V, hV⟩ : ∃ V, V = w3.heap.size := ⟨_, rfl⟩
  rw [← hV] at HST ⊢
  have hVw : w.heap.size + 2 ≤ V := by omega
  generalize w3.alloc (.cells #[.slice Ay gs.length cy] 29) = w4 at *
  clear hV hs3 hv3 hsz3
  go_loop [8] (fun d => ∃ k : Nat, k ≤ nb ∧ d = .int .i64 k) (fun d => 60 - (intOf d).toNat)
  case atStart => exact ⟨0, by omega, rfl⟩
  case round =>
    obtain ⟨k, hk, rfl⟩ := hrel
    by_cases hz : t / 2 ^ k = 0
    · have hkn : k = nb := by have := (HBI.out k).1 hz; omega
      have hle : (t : Int) / 2 ^ k ≤ 0 := by rw [← div_cast, hz]; exact Int.le_refl _
      subst hkn
      clear hz
      go_wp2_with fail
      go_loopw [9, 10] (fun i _ wr => DigRel gs t w V (w.heap.size + 1) i wr) (fun i _ _ => ((intOf i) + 1).toNat)
      case atStart => exact HST.out
      case round =>
        obtain ⟨m, vv, rs, yv, rfl, hvm, hm, hps, hpow, hlen, h1⟩ := hrel
        obtain ⟨wo, rfl⟩ : ∃ wo : World, wo = wr := ⟨_, rfl⟩
        have HPS := Lib.hid hps
        have HPW := Lib.hid hpow
        obtain ⟨A2, c2, rfl⟩ := own_slice hps.1
        have vc := hps.2.1.cell
        obtain ⟨vc1, vc2⟩ := vc
        clear hps hpow
        by_cases hm0 : m = 0
        · subst hm0
          obtain rfl : vv = -1 := by omega
          have hfr : FewR rs := (show rs = powG gs t from HPW.out) ▸ HPF.out
          have HRS : Hid (rs = powG gs t) := Lib.hid HPW.out
          go_wp2_with fail
          have hT := told_any (.slice A2 rs.length c2) rs wo hfr (Rules.of_own HPS.out.1)
          have hlo := lim_own HPS.out.1
          have hne : (limV rs (.slice A2 rs.length c2)).ownBlock ≠ some (w.heap.size + 1) := by
            intro hq
            unfold limV at hq
            split at hq
            · have := (HPS.out.1.lt _ hq).1; omega
            · cases hq
          obtain ⟨Al, cl, hl⟩ := own_slice hlo
          rw [hl] at hT hlo hne
          have HLO := Lib.hid hlo
          have HT := Lib.hid hT
          have HNE := Lib.hid hne
          clear hT hlo hl hne
          refine HT.out.mono ?_
          rintro e w5 ⟨rfl, hB5⟩
          have hP5 := HPS.out
          obtain ⟨q1, q2, q3, q4, q5⟩ := hP5
          obtain ⟨x0, x1⟩ := (q3.kept hB5).cell
          have HO5 := Lib.hid (own_lower (own_below HLO.out hB5 (Nat.le_refl _)) (show w.heap.size ≤ w.heap.size + 2 by omega))
          have HB5 := Lib.hid (q4.trans (hB5.mono (by omega)))
          clear q1 q2 q3 q4 q5 hB5
          go_wp2_with fail
          have hrs := HRS.out
          refine bodyPost_ret (v := .tuple #[.agg #[.slice Al (limG rs).length cl], .int .i64 (limC rs)]) (by simp [results, Try.results40, go_sem, x0]) rfl ⟨_, by rw [← hrs], ?_, HB5.out.setCell (by simp) _⟩
          rw [← hrs]
          exact World.ownsRow.kept HO5.out (only_setCell (World.grownBy.refl w5 (some (w.heap.size + 1))) (p := ⟨w.heap.size + 1, 0, none⟩) (.inl rfl) _) (.inr HNE.out)
        · obtain ⟨m', rfl⟩ : ∃ m', m = m' + 1 := ⟨m - 1, by omega⟩
          obtain rfl : vv = (m' : Int) := by omega
          have hbit : bits .and .i64 ((t : Int) / 2 ^ m') 1 = (if bitOf t m' then 1 else 0 : Int) := by rw [← div_cast]; exact bit_and t m' ht1
          obtain ⟨X, hX⟩ : ∃ X : Rl, X = ⟨⟨#[]⟩, (rs.length : Int) - 1, (rs.length : Int) - 1⟩ := ⟨_, rfl⟩
          have hXp : X = pairR (rs.length - 1) (rs.length - 1) := by rw [hX]; unfold pairR; congr 1 <;> omega
          have hXc : rc X = [.string ⟨#[]⟩, .int .i64 ((rs.length : Int) - 1), .int .i64 ((rs.length : Int) - 1)] := by rw [hX]; rfl
          have HN1 := Lib.hid (news3 wo X 59)
          have HX := Lib.hid hX
          have HXP := Lib.hid hXp
          have HG1' : Hid _ := Lib.hid (fun v' w5 o h1 h2 => pst_grown (w5 := w5) (v' := v') (x := X) (o := o) (show w.heap.size ≤ V by omega) (show w.heap.size + 1 ≠ V by omega) HPS.out h1 h2)
          rw [hX] at HN1
          have HXC := Lib.hid hXc
          have hbs : w.heap.size + 2 ≤ wo.heap.size := HPS.out.2.2.2.2
          clear hX hXp hXc
          cases hbv : bitOf t m'
          all_goals
            rw [hbv] at hbit
            have HBV := Lib.hid hbv
            clear hbv
            go_wp2_with (first | (at_builtin; refine wpList_append_own _ rfl _ _ 27 rfl (w.heap.size + 2) 59 i0 (.agg #[.string ⟨#[]⟩, .int .i64 0, .int .i64 0]) 3 32 Try.underlying27 hi hz0 hz1 hz2 rfl (by decide) _ _ _ rfl (World.ownsRow.alloc HPS.out.1 _) ⟨wo.heap.size, 0, none⟩ 1 1 (rc X) rfl rfl (by rw [HXC.out]; exact HN1.out) (rc_cell _) (by unfold maxLen; omega) (by omega) (by simp; omega) ?_))
            intro v' w5 hown' hgrow _
            obtain ⟨A3, c3, rfl⟩ := own_slice hown'
            obtain ⟨k2, hp2⟩ := HG1'.out _ _ _ hown' hgrow
            obtain ⟨x0, x1⟩ := k2.cell
            obtain ⟨y0, y1⟩ := hp2.2.1.cell
            have HP2 := Lib.hid hp2
            clear hp2 k2 hown' hgrow
          · go_wp2_with fail
            go_round
            case rel =>
              refine ⟨m', (m' : Int) - 1, rs ++ [X], .slice A3 (rs.length + 1) c3, rfl, by omega, by omega, HP2.out, ?_, by simp; omega, by simp⟩
              have := HPW.out
              rw [powFrom, HBV.out] at this
              rw [HXP.out]
              exact this
            case measure => (first | (simp [intOf]; done) | (simp [intOf]; omega))
          · obtain ⟨Y, hY⟩ : ∃ Y : Rl, Y = ⟨⟨#[]⟩, (rs.length : Int), (gs.length : Int) - 1⟩ := ⟨_, rfl⟩
            have HY := Lib.hid hY
            have hYc : rc Y = [.string ⟨#[]⟩, .int .i64 (rs.length : Int), .int .i64 ((gs.length : Int) - 1)] := by rw [hY]; rfl
            have HYC := Lib.hid hYc
            have hO6 := HP2.out.1
            have hB6 := HP2.out.2.2.2.2
            rw [show (w5.setCell ⟨V, 0, none⟩ (.slice A3 (rs.length + 1) c3)).heap.size = w5.heap.size from by simp [World.setCell]] at hB6
            rw [List.length_append, show [X].length = 1 from rfl] at hO6
            have HO6 := Lib.hid hO6
            have hnw := news3 (w5.setCell ⟨V, 0, none⟩ (.slice A3 (rs.length + 1) c3)) Y 59
            rw [hY, show (w5.setCell ⟨V, 0, none⟩ (.slice A3 (rs.length + 1) c3)).heap.size = w5.heap.size from by simp [World.setCell]] at hnw
            have hG2 := Lib.hid (fun v' w7 o h1 h2 => pst_grown (w5 := w7) (v' := v') (x := Y) (o := o) (show w.heap.size ≤ V by omega) (show w.heap.size + 1 ≠ V by omega) HP2.out h1 h2)
            have HNW := Lib.hid hnw
            clear hY hYc hO6 hnw
            go_wp2_with (first | (at_builtin; go_loud (refine wpList_append_own _ rfl _ _ 27 rfl (w.heap.size + 2) 59 i0 (.agg #[.string ⟨#[]⟩, .int .i64 0, .int .i64 0]) 3 32 Try.underlying27 hi hz0 hz1 hz2 rfl (by decide) _ _ _ rfl (World.ownsRow.alloc HO6.out _) _ 1 1 (rc Y) rfl rfl (by rw [HYC.out]; exact HNW.out) (rc_cell _) (by unfold maxLen; omega) (by omega) (by simp; omega) ?_)))
            intro v' w7 hown' hgrow _
            obtain ⟨A4, c4, rfl⟩ := own_slice hown'
            obtain ⟨k2, hp3⟩ := hG2.out _ _ _ (by rw [List.length_append]; exact hown') hgrow
            obtain ⟨x2, x3⟩ := k2.cell
            have HP3 := Lib.hid hp3
            clear hp3 k2 hown' hgrow
            go_wp2_with fail
            go_round
            case rel =>
              refine ⟨m', (m' : Int) - 1, rs ++ [X] ++ [Y], .slice A4 (rs.length + 1 + 1) c4, rfl, by omega, by omega, HP3.out, ?_, by simp; omega, by simp⟩
              have := HPW.out
              rw [powFrom, HBV.out] at this
              rw [HXP.out, List.append_assoc, show Y = pairR rs.length (gs.length - 1) from by rw [HY.out]; unfold pairR; congr 1; omega]
              exact this
            case measure => (first | (simp [intOf]; done) | (simp [intOf]; omega))
    · have hgt : 0 < (t : Int) / 2 ^ k := by rw [← div_cast]; exact Int.natCast_pos.2 (Nat.pos_of_ne_zero hz)
      have hkn : k < nb := by
        rcases Nat.lt_or_ge k nb with h | h
        · exact h
        · exact absurd ((HBI.out k).2 h) hz
      clear hz
      go_wp2_with fail
      go_round
      case rel => exact ⟨k + 1, hkn, by go_num⟩
      case measure => simp [intOf]; omega
end Go.Proofs.Ytjkijboljffmcab
