/-
  Level grammars: numbers; walk: spec.l06Depths.
-/
import Derived.Test.YtlkjceolddccbaaGDepS
namespace Go.Proofs.Ytlkjceolddccbaa
open Go.RowKit
open Wd
set_option linter.unusedVariables false
namespace Wd
/-- is the rule a letter, or a pair of two whose depths differ by 1 at most? -/
def lvAt (gs : List Rl) (x : Rl) : Bool := if x.L.size = 0 then decide (-1 ≤ depV gs x.l.toNat - depV gs x.r.toNat) && decide (depV gs x.l.toNat - depV gs x.r.toNat ≤ 1) else true
/-- the answer of IsLevel -/
def lvAns (gs : List Rl) : Bool × Int := if gOk gs = true then (gs.all (lvAt gs), 0) else (false, 1)
theorem lv_drop {gs : List Rl} {k : Nat} (h : k < gs.length) : (gs.drop k).all (lvAt gs) = (lvAt gs gs[k] && (gs.drop (k + 1)).all (lvAt gs)) := by
  rw [List.drop_eq_getElem_cons h]; rfl
theorem lv_end {gs : List Rl} {k : Nat} (h : gs.length ≤ k) : (gs.drop k).all (lvAt gs) = true := by rw [List.drop_of_length_le h]; rfl
/-- depths so far -/
def depL (gs : List Rl) (k : Nat) : List Int := vals depJ (gs.take k)
theorem depL_snoc (gs : List Rl) (k : Nat) (h : k < gs.length) : depL gs (k + 1) = depL gs k ++ [depV gs k] := by
  unfold depL depV
  rw [vals_take_succ _ gs k h, vals_get _ gs k h]
theorem depL_at {gs : List Rl} {j k : Nat} (h : j < k) (hk : k ≤ gs.length) : (depL gs k)[j]? = some (depV gs j) := by
  unfold depL depV
  rw [← vals_take, List.getElem?_take, if_pos h]
  have : j < (vals depJ gs).length := by rw [vals_len]; omega
  rw [List.getD_eq_getElem?_getD, List.getElem?_eq_getElem this, Option.getD_some]
end Wd
theorem blk3_at (w : World) (x : Rl) (t : TypeId) : (w.alloc (.cells #[.string x.L, .int .i64 x.l, .int .i64 x.r] t)).cell? ⟨w.heap.size, 0, none⟩ = some (.string x.L) ∧ (w.alloc (.cells #[.string x.L, .int .i64 x.l, .int .i64 x.r] t)).cell? ⟨w.heap.size, 1, none⟩ = some (.int .i64 x.l) ∧ (w.alloc (.cells #[.string x.L, .int .i64 x.l, .int .i64 x.r] t)).cell? ⟨w.heap.size, 2, none⟩ = some (.int .i64 x.r) := by
  have h := heap_alloc_new w (.cells #[.string x.L, .int .i64 x.l, .int .i64 x.r] t)
  exact ⟨by rw [cell_of_row _ _ _ _ _ _ h]; rfl, by rw [cell_of_row _ _ _ _ _ _ h]; rfl, by rw [cell_of_row _ _ _ _ _ _ h]; rfl⟩
/-- what holds between two rounds -/
def LdRel (gs : List Rl) (w : World) (out i : Value) (wr : World) : Prop :=
  ∃ k : Nat, k ≤ gs.length ∧ i = .int .i64 k ∧ wr.ownsRow w.heap.size 2 1 out k (iv (depL gs k)) ∧ Below w.heap.size w wr
theorem ldRel_step {gs : List Rl} {w wr w1 : World} {k : Nat} {out out' : Value} {o : Obj} (hk : k < gs.length) (hown : wr.ownsRow w.heap.size 2 1 out k (iv (depL gs k))) (hB : Below w.heap.size w wr)
    (hown' : w1.ownsRow w.heap.size 2 1 out' (k + 1) (iv (depL gs k) ++ [.int .i64 (depV gs k)])) (hgrow : (wr.alloc o).grownBy w1 out.ownBlock) : LdRel gs w out' (.int .i64 ((k + 1 : Nat) : Int)) w1 := by
  have hsz := hB.size
  refine ⟨k + 1, hk, rfl, ?_, (hB.alloc hsz o).grown hgrow (by simp; omega) (fun q hq => (hown.lt q hq).1)⟩
  rw [depL_snoc gs k hk, iv_app]
  exact hown'
set_option maxRecDepth 100000 in
set_option maxHeartbeats 3200000 in
theorem l06Depths_any (v : Value) (gs : List Rl) (w : World) (hok : gOk gs = true) (hr : Rules w v gs) :
    Calls Try.prog 71 #[v] w fun e w' => ∃ y, e = .returned y ∧ w'.ownsRow w.heap.size 2 1 y gs.length (iv (depL gs gs.length)) ∧ Below w.heap.size w w' := by
  obtain ⟨i0, hi, hz0, hz1, hz2⟩ := info_parts Try.info_i64
  obtain ⟨A, c, rfl, hr⟩ := hr
  have HFT := Lib.hid (gOk_iff.1 hok).2.1
  have hn := gOk_len hok
  obtain ⟨n, hng⟩ : ∃ n, n = gs.length := ⟨_, rfl⟩
  rw [← hng] at hn ⊢
  have HN := Lib.hid hng
  have HR := Lib.hid hr
  have HST : Hid (LdRel gs w (.slice (some ⟨w.heap.size, 0, none⟩) 0 0) (.int .i64 0) (w.alloc (.cells #[] 2))) := Lib.hid ⟨0, Nat.zero_le _, rfl, World.ownsRow_lit w #[] 0 (Nat.le_refl _) (by decide) rfl, (Below.refl _ _).alloc (Nat.le_refl _) _⟩
  clear hng hr hok
  go_enter Try.func71, Try.ntmps71
  go_wp2
  go_loopw [3, 4, 5] (fun x i _ wr => LdRel gs w x i wr) (fun _ i _ _ => n - (intOf i).toNat)
  case atStart => exact HST.out
  case round =>
    obtain ⟨k, hk, rfl, hown, hB⟩ := hrel
    obtain ⟨x, rfl⟩ : ∃ x : Value, x = u3 := ⟨_, rfl⟩
    obtain ⟨wo, rfl⟩ : ∃ wo : World, wo = wr := ⟨_, rfl⟩
    by_cases hlt : k < n
    · have hkg : k < gs.length := by rw [← HN.out]; exact hlt
      rcases HR.out with h | ⟨g, rfl, hg, hc⟩
      · rw [h] at hkg; simp at hkg
      obtain ⟨a0, a1, a2⟩ := rules_cells hc hkg
      rw [← hB.cell (p := ⟨g, k * 3, none⟩) hg] at a0
      rw [← hB.cell (p := ⟨g, k * 3 + 1, none⟩) hg] at a1
      rw [← hB.cell (p := ⟨g, k * 3 + 2, none⟩) hg] at a2
      clear hc
      have HSZ := Lib.hid hB.size
      have t1 : (0 : Int) ≤ (k : Int) := by omega
      have t2 : (k : Int) < (n : Int) := by omega
      have hstep := fun (m : Nat) (w1 : World) (out' : Value) (o : Obj) h3 h4 => ldRel_step (w1 := w1) (out' := out') (o := o) (wr := wo.drewN m) hkg hown (below_drewN hB m) h3 h4
      by_cases h0 : gs[k].L.size = 0
      · have he := empty_arr h0
        rw [he] at a0
        obtain ⟨a, b, ha, hb, hak, hbk, hsum⟩ := depV_next HFT.out k hkg h0
        rw [ha] at a1
        rw [hb] at a2
        have pa := depV_pos HFT.out a (by omega)
        have pb := depV_pos HFT.out b (by omega)
        rcases hown.2 with ⟨_, hk0⟩ | ⟨g', c', cur, rfl, _⟩
        · omega
        have o1 : wo.cell? ⟨g', a, none⟩ = some (.int .i64 (depV gs a)) := by
          rw [hown.cellAt a (by omega)]; simp only [iv, List.getElem?_map, depL_at hak (Nat.le_of_lt hkg), Option.map_some]
        have o2 : wo.cell? ⟨g', b, none⟩ = some (.int .i64 (depV gs b)) := by
          rw [hown.cellAt b (by omega)]; simp only [iv, List.getElem?_map, depL_at hbk (Nat.le_of_lt hkg), Option.map_some]
        rw [hsum] at hstep
        unfold depJ at hstep
        generalize depV gs a = z1 at *
        generalize depV gs b = z2 at *
        have hmx : 1 ≤ max z1 z2 ∧ max z1 z2 ≤ 500 := by omega
        have HMX := Lib.hid (fun W => max_any z1 z2 W)
        have HO := Lib.hid hown
        generalize max z1 z2 = z at *
        have HSTP := Lib.hid hstep
        have s3 : IntKind.i64.wrap (1 + z) = 1 + z := IntWalk.i64_in _ (by omega)
        have s4 : (0 : Int) ≤ (a : Int) := by omega
        have s5 : (0 : Int) ≤ (b : Int) := by omega
        have s8 : (a : Int) < (k : Int) := by omega
        have s9 : (b : Int) < (k : Int) := by omega
        clear hstep hsum hown ha hb he h0 hB pa pb
        go_wp2_with fail
        go_quiet ((go_at_call 57; exact Calls.quiet_of_same (HMX.out _)))
        clear s3 s4 s5 s8 s9 o1 o2 HMX
        go_wp2_with (first | (at_builtin; refine wpList_append_own _ rfl _ _ 53 rfl w.heap.size 2 i0 (.int .i64 0) 1 8 Try.underlying53 hi hz0 hz1 hz2 rfl (by decide) _ _ _ rfl (World.ownsRow.alloc (own_drewN HO.out _) _) ⟨wo.heap.size, 0, none⟩ 1 1 [.int .i64 (1 + z)] rfl rfl (one_new _ _ _) (one_int _ _) (by unfold maxLen; omega) (by omega) (Nat.le_trans HSZ.out (by simp)) ?_))
        intro v' w2 hown' hgrow _
        have HNW := Lib.hid (HSTP.out _ w2 v' _ hown' hgrow)
        clear hown' hgrow
        go_wp2_with fail
        go_roundw
        case rel => first | exact HNW.out | ((repeat apply Exists.intro); exact ⟨HNW.out, rfl⟩)
        case measure => simp [intOf]; omega
      · have he := full_list h0
        rw [depV_letter k hkg h0] at hstep
        have HSTP := Lib.hid (hstep 0)
        have HO := Lib.hid hown
        clear hstep hown h0 hB
        go_wp2_with (first | (at_builtin; refine wpList_append_own _ rfl _ _ 53 rfl w.heap.size 2 i0 (.int .i64 0) 1 8 Try.underlying53 hi hz0 hz1 hz2 rfl (by decide) _ _ _ rfl (World.ownsRow.alloc (HO.out) _) ⟨wo.heap.size, 0, none⟩ 1 1 [.int .i64 1] rfl rfl (one_new _ _ _) (one_int _ _) (by unfold maxLen; omega) (by omega) (Nat.le_trans HSZ.out (by simp)) ?_))
        intro v' w2 hown' hgrow _
        have HNW := Lib.hid (HSTP.out w2 v' _ hown' hgrow)
        clear hown' hgrow
        go_wp2_with fail
        go_roundw
        case rel => first | exact HNW.out | ((repeat apply Exists.intro); exact ⟨HNW.out, rfl⟩)
        case measure => simp [intOf]; omega
    · obtain rfl : k = n := by have := HN.out; omega
      have HO := Lib.hid hown
      clear hown
      go_wp2_with fail
      go_ret
      exact ⟨_, rfl, HO.out, hB⟩
end Go.Proofs.Ytlkjceolddccbaa
