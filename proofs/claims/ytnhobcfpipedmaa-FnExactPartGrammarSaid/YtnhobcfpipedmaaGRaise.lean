/-
  Walk: impl.raised, rules with numbers that are raised.
-/
import Derived.Test.YtnhobcfpipedmaaGRenum
namespace Go.Proofs.Ytnhobcfpipedmaa
open Go.RowKit
open Wd
set_option linter.unusedVariables false

theorem renum_any (x : Rl) (b : Int) (pb : Nat) (w : World) (h1 : 0 ≤ x.l ∧ x.l ≤ 1048576) (h2 : 0 ≤ x.r ∧ x.r ≤ 1048576) (hb : 0 ≤ b ∧ b ≤ 1048576) (hp : w.cell? ⟨pb, 0, none⟩ = some (.int .i64 b)) :
    Calls Try.prog 122 #[.agg #[.string x.L, .int .i64 x.l, .int .i64 x.r], .func (.func 169) #[] #[.pointer (some ⟨pb, 0, none⟩)]] w fun e w' => e = .returned (.agg #[.string (raiseR b x).L, .int .i64 (raiseR b x).l, .int .i64 (raiseR b x).r]) ∧ Below w.heap.size w w' := by
  by_cases h : x.L.size = 0
  · exact renum_pair x b pb w h h1 h2 hb hp
  · exact renum_letter x b _ w h
/-- the rules so far -/
def RSt (w : World) (b : Int) (rs : List Rl) (yv : Value) (wr : World) : Prop :=
  wr.ownsRow (w.heap.size + 1) 94 3 yv rs.length (rv rs) ∧ Var wr w.heap.size (.int .i64 b) 2 ∧ Below w.heap.size w wr ∧ w.heap.size + 1 ≤ wr.heap.size
theorem rst_kept {w wr w1 : World} {b : Int} {yv : Value} {rs : List Rl} (h : RSt w b rs yv wr) (hb : Below wr.heap.size wr w1) : RSt w b rs yv w1 := by
  obtain ⟨h1, h2, h4, h5⟩ := h
  exact ⟨own_below h1 hb (Nat.le_refl _), h2.kept hb, h4.trans (hb.mono h4.size), by have := hb.size; omega⟩
theorem rst_grown {w wr w5 : World} {b : Int} {yv v' : Value} {rs : List Rl} {x : Rl} {o : Obj} (h : RSt w b rs yv wr)
    (hown : w5.ownsRow (w.heap.size + 1) 94 3 v' (rs.length + 1) (rv rs ++ rc x)) (hg : (wr.alloc o).grownBy w5 yv.ownBlock) : RSt w b (rs ++ [x]) v' w5 := by
  obtain ⟨h1, h2, h4, h5⟩ := h
  have n1 := own_var_ne h1 h2 (by decide)
  have k2 : Var w5 w.heap.size (.int .i64 b) 2 := (hg.block w.heap.size (by have := h2.lt; simp; omega) (fun e => n1 e.symm)).trans (h2.kept ((Below.refl _ wr).alloc (Nat.le_refl _) o))
  have hB5 : Below w.heap.size w w5 := (h4.alloc h4.size o).grown hg (by have := h4.size; simp; omega) (fun q hq => by have := (h1.lt q hq).1; omega)
  refine ⟨?_, k2, hB5, ?_⟩
  · rw [List.length_append, rv_app, rv_one]; exact hown
  · have h6 := hg.size
    simp at h6
    omega
/-- what holds between two rules -/
def RRel (hs : List Rl) (b : Int) (w : World) (yv i : Value) (wr : World) : Prop :=
  ∃ k : Nat, k ≤ hs.length ∧ i = .int .i64 k ∧ RSt w b ((hs.take k).map (raiseR b)) yv wr

set_option maxRecDepth 100000 in
set_option maxHeartbeats 6400000 in
theorem raised_any (v : Value) (hs : List Rl) (b : Int) (w : World) (hl : hs.length ≤ 400) (hok : fits hs = true) (hb : 0 ≤ b ∧ b ≤ 1048576) (hr : Rules w v hs) :
    Calls Try.prog 143 #[v, .int .i64 b] w fun e w' => ∃ y, e = .returned y ∧ OwnsR w' w.heap.size y (hs.map (raiseR b)) ∧ Below w.heap.size w w' := by
  obtain ⟨i0, hi, hz0, hz1, hz2⟩ := info_parts Try.info_rule
  have hb0 : Below w.heap.size w (w.alloc (.cells #[.int .i64 b] 2)) := (Below.refl _ w).alloc (Nat.le_refl _) _
  have hv0 : Var (w.alloc (.cells #[.int .i64 b] 2)) w.heap.size (.int .i64 b) 2 := Var.new w _ _
  obtain ⟨A, c, rfl, hr⟩ := hr
  have HRH := Lib.hid hr
  have HB0 := Lib.hid hb0
  have HV0 := Lib.hid hv0
  have HOK := Lib.hid hok
  clear hr hb0 hv0 hok
  go_enter Try.func143, Try.ntmps143
  go_wp2_with (first | (at_make; refine wpList_make_own _ rfl _ _ 29 rfl (w.heap.size + 1) 94 i0 (.agg #[.string ⟨#[]⟩, .int .i64 0, .int .i64 0]) 3 Try.underlying29 hi hz0 hz1 .i64 .i64 _ hs.length rfl rfl rfl (by rw [hz2]; omega) (by unfold maxLen; omega) (by simp) ?_))
  intro w1 hown hg
  have hB1 := below_of_grown hg
  have HST : Hid (RRel hs b w (.slice (some ⟨w.heap.size + 1, 0, none⟩) 0 hs.length) (.int .i64 0) w1) := Lib.hid
    ⟨0, Nat.zero_le _, rfl, by rw [List.take_zero]; exact ⟨hown, HV0.out.kept hB1, HB0.out.trans (hB1.mono HB0.out.size), by have := hB1.size; simp at this; omega⟩⟩
  clear hown hg hB1
  go_wp2_with fail
  go_loopw [5, 13] (fun yv i wr => RRel hs b w yv i wr) (fun _ i _ => hs.length - (intOf i).toNat)
  case atStart => exact HST.out
  case round =>
    obtain ⟨k, hk, rfl, hps⟩ := hrel
    obtain ⟨wo, rfl⟩ : ∃ wo : World, wo = wr := ⟨_, rfl⟩
    have HPS := Lib.hid hps
    obtain ⟨A2, c2, hyv⟩ := own_slice hps.1
    have hlk : ((hs.take k).map (raiseR b)).length = k := by rw [List.length_map, List.length_take]; omega
    rw [hlk] at hyv
    subst hyv
    by_cases hlt : k < hs.length
    · rcases HRH.out with hn | ⟨g, rfl, hg, hc⟩
      · rw [hn] at hlt; simp at hlt
      obtain ⟨a0, a1, a2⟩ := rules_cells hc hlt
      have d0 := (hps.2.2.1.cell (p := ⟨g, k * 3, none⟩) hg).trans a0
      have d1 := (hps.2.2.1.cell (p := ⟨g, k * 3 + 1, none⟩) hg).trans a1
      have d2 := (hps.2.2.1.cell (p := ⟨g, k * 3 + 2, none⟩) hg).trans a2
      have hft := fits_at HOK.out k hlt
      have hbd : (0 ≤ hs[k].l ∧ hs[k].l ≤ 1048576) ∧ (0 ≤ hs[k].r ∧ hs[k].r ≤ 1048576) := by
        by_cases hz : hs[k].L.size = 0
        · have := (ok_pair hz).1 hft; omega
        · have := (ok_letter hz).1 hft; omega
      have HRN := Lib.hid (fun W h => renum_any hs[k] b w.heap.size W hbd.1 hbd.2 hb h)
      have HTK := Lib.hid (show (hs.take (k + 1)).map (raiseR b) = (hs.take k).map (raiseR b) ++ [raiseR b hs[k]] from by
        rw [List.take_succ_eq_append_getElem hlt, List.map_append]; rfl)
      generalize hs[k] = R at *
      obtain ⟨X, hX⟩ : ∃ X, X = raiseR b R := ⟨_, rfl⟩
      rw [← hX] at HRN HTK
      have HP5 := Lib.hid (fun o => rst_kept hps ((Below.refl _ wo).alloc (Nat.le_refl _) o))
      obtain ⟨T, hT⟩ : ∃ T, T = (hs.take k).map (raiseR b) := ⟨_, rfl⟩
      rw [← hT] at hlk HPS HTK HP5
      have HLK := Lib.hid hlk
      clear hps a0 a1 a2 hc hft hbd hX hlk hT
      go_wp2_with fail
      refine (HRN.out _ (HP5.out _).2.1.cell.1).mono ?_
      rintro e w7 ⟨rfl, hB7⟩
      have HP7 := Lib.hid (rst_kept (HP5.out _) hB7)
      have hO7 := HP7.out.1
      rw [HLK.out] at hO7
      have HO7 := Lib.hid hO7
      have HNW := Lib.hid (news3 w7 X 94)
      have hbs7 : w.heap.size + 1 ≤ w7.heap.size := HP7.out.2.2.2
      clear hO7 hB7 d0 d1 d2
      go_wp2_with (first | (at_builtin; refine wpList_append_own _ rfl _ _ 29 rfl (w.heap.size + 1) 94 i0 (.agg #[.string ⟨#[]⟩, .int .i64 0, .int .i64 0]) 3 32 Try.underlying29 hi hz0 hz1 hz2 rfl (by decide) _ _ _ rfl (World.ownsRow.alloc HO7.out _) ⟨w7.heap.size, 0, none⟩ 1 1 (rc X) rfl rfl HNW.out (rc_cell _) (by unfold maxLen; omega) (by omega) (by simp; omega) ?_))
      intro v' w8 hown' hgrow _
      have HP8 := Lib.hid (rst_grown (x := X) HP7.out (by rw [HLK.out]; exact hown') hgrow)
      clear hown' hgrow
      go_wp2_with fail
      go_roundw
      case rel => exact ⟨k + 1, by omega, by go_num, by rw [HTK.out]; exact HP8.out⟩
      case measure => (first | (simp [intOf]; done) | (simp [intOf]; omega))
    · obtain rfl : k = hs.length := by omega
      rw [List.take_of_length_le (Nat.le_refl _)] at HPS
      clear hps
      go_wp2_with fail
      go_ret
      exact ⟨_, rfl, own_lower HPS.out.1 (by omega), HPS.out.2.2.1⟩
end Go.Proofs.Ytnhobcfpipedmaa
