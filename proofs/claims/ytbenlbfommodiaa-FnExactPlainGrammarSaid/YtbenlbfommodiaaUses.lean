/-
  Walks: spec.l02Uses: how often each rule is met.
-/
import Derived.Test.YtbenlbfommodiaaGramOk
import Derived.OwnWalk
import Derived.Laws.MakeOwn
import Derived.StillTailTactics
namespace Go.Proofs.Ytbenlbfommodiaa
open Go.RowKit
open Wd
set_option linter.unusedVariables false

namespace Wd
/-- a sum as int64 has it -/
def add64 (a b : Int) : Int := IntKind.i64.wrap (a + b)
/-- a rule hands its uses on -/
def uStep (x : Rl) (k : Nat) (u : List Int) : List Int :=
  if x.L.size = 0 then
    (u.set x.l.toNat (add64 (u.getD x.l.toNat 0) (u.getD k 0))).set x.r.toNat
      (add64 ((u.set x.l.toNat (add64 (u.getD x.l.toNat 0) (u.getD k 0))).getD x.r.toNat 0) ((u.set x.l.toNat (add64 (u.getD x.l.toNat 0) (u.getD k 0))).getD k 0))
  else u
/-- the uses when the rules from m on have been treated -/
def uAt (gs : List Rl) : Nat → List Int
  | 0 => (List.replicate gs.length 0).set (gs.length - 1) 1
  | i + 1 => if h : gs.length - 1 - i < gs.length then uStep gs[gs.length - 1 - i] (gs.length - 1 - i) (uAt gs i) else uAt gs i
def usesOf (gs : List Rl) : List Int := uAt gs gs.length
theorem uStep_len (x : Rl) (k : Nat) (u : List Int) : (uStep x k u).length = u.length := by unfold uStep; split <;> simp
theorem uAt_len (gs : List Rl) : ∀ i, (uAt gs i).length = gs.length
  | 0 => by simp [uAt]
  | i + 1 => by
    rw [uAt]
    split
    · rw [uStep_len, uAt_len gs i]
    · exact uAt_len gs i
theorem usesOf_len (gs : List Rl) : (usesOf gs).length = gs.length := uAt_len _ _
theorem uAt_next (gs : List Rl) (m : Nat) (h : m < gs.length) : uAt gs (gs.length - m) = uStep gs[m] m (uAt gs (gs.length - (m + 1))) := by
  obtain ⟨i, hi⟩ : ∃ i, gs.length - m = i + 1 := ⟨gs.length - m - 1, by omega⟩
  have h1 : gs.length - 1 - i = m := by omega
  rw [hi, uAt, dif_pos (by omega), show gs.length - (m + 1) = i from by omega]
  simp only [h1]
theorem made_i64 (n : Nat) : (madeCells #[.int .i64 0] n).toList = iv (List.replicate n 0) := by
  apply List.ext_getElem
  · simp [madeCells, iv]
  · intro i h1 h2
    simp [madeCells, iv, Nat.mod_one]
theorem iv_atU {mem : List Int} {k : Nat} (h : k < mem.length) : (iv mem)[k]? = some (.int .i64 (mem.getD k 0)) := by
  simp only [iv, List.getElem?_map]
  rw [List.getD_eq_getElem?_getD, List.getElem?_eq_getElem h, Option.getD_some, Option.map_some]
theorem iv_setU (mem : List Int) (k : Nat) (z : Int) : iv (mem.set k z) = (iv mem).set k (.int .i64 z) := by simp [iv, List.map_set]
end Wd

/-- what holds between two rounds -/
def URel (gs : List Rl) (w : World) (i : Value) (wr : World) : Prop :=
  ∃ (m : Nat) (v : Int), i = .int .i64 v ∧ v + 1 = m ∧ m ≤ gs.length ∧ wr.ownsRow w.heap.size 2 1 (.slice (some ⟨w.heap.size, 0, none⟩) gs.length gs.length) gs.length (iv (uAt gs (gs.length - m))) ∧ Below w.heap.size w wr

/-- one pair's two stores, as they stand in memory -/
theorem u_store {w : World} {B e g n : Nat} {u : List Int} (h : w.ownsRow B e 1 (.slice (some ⟨g, 0, none⟩) n n) n (iv u)) (k : Nat) (z : Int) :
    (w.setCell ⟨g, k, none⟩ (.int .i64 z)).ownsRow B e 1 (.slice (some ⟨g, 0, none⟩) n n) n (iv (u.set k z)) := by
  rw [iv_setU]; exact (h.stored k (.int .i64 z)).1

set_option maxRecDepth 100000 in
set_option maxHeartbeats 6400000 in
theorem specUses (p : Nat) (gs : List Rl) (w : World) (hok : gOk gs = true) (hf : FewR gs) (h : GP w p gs) :
    Calls Try.prog 105 #[.pointer (some ⟨p, 0, none⟩)] w fun e w' => ∃ x, e = .returned x ∧ OwnsI w' w.heap.size x (usesOf gs) ∧ Below w.heap.size w w' := by
  obtain ⟨i0, hi, hz0, hz1, hz2⟩ := info_parts Try.info_i64
  obtain ⟨v, hv, A, c, rfl, hr⟩ := h
  have hn := gOk_len hok
  have hfit := (gOk_iff.1 hok).2.1
  obtain ⟨n, hng⟩ : ∃ n, n = gs.length := ⟨_, rfl⟩
  rw [← hng] at hn hv
  have HN := Lib.hid hng
  have HV := Lib.hid hv
  have HR := Lib.hid hr
  have HF := Lib.hid hfit
  have lp := lt_of_cell hv
  clear hng hr hf hok hfit
  go_enter Try.func105, Try.ntmps105
  go_wp2_with (refine wpList_make_full _ rfl _ _ 64 rfl w.heap.size 2 i0 (.int .i64 0) 1 Try.underlying64 hi hz0 hz1 .i64 .i64 _ _ n rfl rfl rfl rfl (by rw [hz2]; omega) (by unfold maxLen; omega) (Nat.le_refl _) ?_)
  intro w1 hown hg
  rw [made_i64] at hown
  have hB1 : Below w.heap.size w w1 := below_of_grown hg
  have hv1 : w1.cell? ⟨p, 0, none⟩ = some (.slice A n c) := (hB1.cell (p := ⟨p, 0, none⟩) lp).trans hv
  by_cases h0 : n = 0
  · have hst : URel gs w (.int .i64 (-1)) w1 := ⟨0, -1, rfl, by omega, Nat.zero_le _, by
      have hg0 : gs = [] := List.eq_nil_of_length_eq_zero (by rw [← HN.out]; exact h0)
      subst h0; subst hg0; simpa [uAt] using hown, hB1⟩
    have HST := Lib.hid hst
    subst h0
    clear hown hg hB1 hst hv
    go_wp2_with fail
    go_loopw [4] (fun i wr => URel gs w i wr) (fun i _ => ((intOf i) + 1).toNat)
    case atStart => exact HST.out
    case round =>
      obtain ⟨m, v, rfl, hvm, hm, hown, hB⟩ := hrel
      have hm0 : m = 0 := by have := HN.out; omega
      subst hm0
      obtain rfl : v = -1 := by omega
      have HO : Hid (OwnsI wr w.heap.size (.slice (some ⟨w.heap.size, 0, none⟩) 0 0) (usesOf gs)) := Lib.hid (by
        unfold OwnsI
        rw [usesOf_len, ← HN.out]
        rw [← HN.out] at hown
        unfold usesOf
        rw [← HN.out]
        exact hown)
      clear hown
      go_wp2_with fail
      go_ret
      exact ⟨_, rfl, HO.out, hB⟩
  · obtain ⟨n', rfl⟩ : ∃ n', n = n' + 1 := ⟨n - 1, by omega⟩
    have hst : URel gs w (.int .i64 (n' : Int)) (w1.setCell ⟨w.heap.size, n', none⟩ (.int .i64 1)) := ⟨n' + 1, n', rfl, rfl, by rw [← HN.out]; exact Nat.le_refl _, by
      have h2 := u_store hown n' 1
      rw [← HN.out, Nat.sub_self, uAt, ← HN.out, Nat.add_sub_cancel]
      exact h2, hB1.setCell (Nat.le_refl _) _⟩
    have hcs : w1.cell? ⟨w.heap.size, n', none⟩ = some (.int .i64 0) := by
      rw [hown.cellAt n' (by omega), iv_atU (by simp)]; simp
    have hfs : w1.frozen? ⟨w.heap.size, n', none⟩ = false := hown.frozenAt _
    have hv2 : (w1.setCell ⟨w.heap.size, n', none⟩ (.int .i64 1)).cell? ⟨p, 0, none⟩ = some (.slice A (n' + 1) c) := by
      rw [World.cell?_setCell_other _ _ _ _ (fun e => by have := congrArg Addr.block e; simp only at this lp; omega)]; exact hv1
    have HST := Lib.hid hst
    clear hown hg hB1 hst hv
    go_wp2_with fail
    go_loopw [4] (fun i wr => URel gs w i wr) (fun i _ => ((intOf i) + 1).toNat)
    case atStart => exact HST.out
    case round =>
      obtain ⟨m, v, rfl, hvm, hm, hown, hB⟩ := hrel
      obtain ⟨wo, rfl⟩ : ∃ wo : World, wo = wr := ⟨_, rfl⟩
      have hv' : wo.cell? ⟨p, 0, none⟩ = some (.slice A (n' + 1) c) := (hB.cell (p := ⟨p, 0, none⟩) lp).trans HV.out
      rw [← HN.out] at hown hm
      by_cases hm0 : m = 0
      · subst hm0
        obtain rfl : v = -1 := by omega
        have HO : Hid (OwnsI wo w.heap.size (.slice (some ⟨w.heap.size, 0, none⟩) (n' + 1) (n' + 1)) (usesOf gs)) := Lib.hid (by
          unfold OwnsI
          rw [usesOf_len, ← HN.out]
          unfold usesOf
          rw [← HN.out]
          exact hown)
        clear hown
        go_wp2_with fail
        go_ret
        exact ⟨_, rfl, HO.out, hB⟩
      · obtain ⟨k, rfl⟩ : ∃ k, m = k + 1 := ⟨m - 1, by omega⟩
        obtain rfl : v = (k : Int) := by omega
        have hkg : k < gs.length := by rw [← HN.out]; omega
        have hkn : k < n' + 1 := by omega
        rcases HR.out with hn | ⟨g, rfl, hg, hc⟩
        · rw [hn] at hkg; simp at hkg
        obtain ⟨a0, a1, a2⟩ := rules_cells hc hkg
        rw [← hB.cell (p := ⟨g, k * 3, none⟩) hg] at a0
        rw [← hB.cell (p := ⟨g, k * 3 + 1, none⟩) hg] at a1
        rw [← hB.cell (p := ⟨g, k * 3 + 2, none⟩) hg] at a2
        have hnx := uAt_next gs k hkg
        have hul : (uAt gs (gs.length - (k + 1))).length = n' + 1 := by rw [uAt_len, HN.out]
        rw [← HN.out] at hnx hul
        generalize uAt gs (n' + 1 - (k + 1)) = u at *
        clear hc
        by_cases h0 : gs[k].L.size = 0
        · have he := empty_arr h0
          rw [he] at a0
          obtain ⟨⟨q1, q2⟩, q3, q4⟩ := (ok_pair h0).1 (fits_at HF.out k hkg)
          obtain ⟨a, ha⟩ : ∃ a : Nat, gs[k].l = a := ⟨gs[k].l.toNat, by omega⟩
          obtain ⟨b, hb⟩ : ∃ b : Nat, gs[k].r = b := ⟨gs[k].r.toNat, by omega⟩
          rw [ha] at a1 q2
          rw [hb] at a2 q4
          unfold uStep at hnx
          rw [if_pos h0, ha, hb, Int.toNat_natCast, Int.toNat_natCast] at hnx
          have hak : a < n' + 1 := by omega
          have hbk : b < n' + 1 := by omega
          have o1 : wo.cell? ⟨w.heap.size, a, none⟩ = some (.int .i64 (u.getD a 0)) := by rw [hown.cellAt a (by omega)]; exact iv_atU (by omega)
          have o2 : wo.cell? ⟨w.heap.size, k, none⟩ = some (.int .i64 (u.getD k 0)) := by rw [hown.cellAt k (by omega)]; exact iv_atU (by omega)
          have f1 : wo.frozen? ⟨w.heap.size, a, none⟩ = false := hown.frozenAt _
          obtain ⟨z, hz⟩ : ∃ z, z = add64 (u.getD a 0) (u.getD k 0) := ⟨_, rfl⟩
          have hw : IntKind.i64.wrap (u.getD a 0 + u.getD k 0) = z := hz.symm
          have own2 := u_store hown a z
          rw [← hz] at hnx
          have hB2 := hB.setCell (p := ⟨w.heap.size, a, none⟩) (Nat.le_refl _) (.int .i64 z)
          have b1 := (hB2.cell (p := ⟨g, k * 3 + 2, none⟩) hg).trans ((hB.cell (p := ⟨g, k * 3 + 2, none⟩) hg).symm.trans a2)
          have b2 := (hB2.cell (p := ⟨p, 0, none⟩) lp).trans HV.out
          have HNX := Lib.hid hnx
          have HB2 := Lib.hid hB2
          have HO2 := Lib.hid own2
          have HUL := Lib.hid hul
          generalize u.getD a 0 = x1 at *
          generalize u.getD k 0 = x2 at *
          have q0 : 0 ≤ (a : Int) := by omega
          have q5 : (a : Int) < (n' : Int) + 1 := by omega
          have q6 : 0 ≤ (k : Int) := by omega
          have q7 : (k : Int) < (n' : Int) + 1 := by omega
          have q8 : 0 ≤ (b : Int) := by omega
          have q9 : (b : Int) < (n' : Int) + 1 := by omega
          have HBR := Lib.hid b1
          have HBP := Lib.hid b2
          clear hnx hB2 own2 hul he h0 ha hb hz hown hB hm q1 q2 q3 q4 b1 b2
          go_wp2_with fail
          go_still_tail 17, (by kernel_rfl)
          change wpList _ _ _ _ _ wo.drew
          go_wp2_with fail
          have own3 : ((wo.setCell ⟨w.heap.size, a, none⟩ (.int .i64 z)).drew).ownsRow w.heap.size 2 1 (.slice (some ⟨w.heap.size, 0, none⟩) (n' + 1) (n' + 1)) (n' + 1) (iv (u.set a z)) := HO2.out
          have r2 : ((wo.setCell ⟨w.heap.size, a, none⟩ (.int .i64 z)).drew).cell? ⟨g, k * 3 + 2, none⟩ = some (.int .i64 b) := HBR.out
          have rp : ((wo.setCell ⟨w.heap.size, a, none⟩ (.int .i64 z)).drew).cell? ⟨p, 0, none⟩ = some (.slice (some ⟨g, 0, none⟩) (n' + 1) c) := HBP.out
          have hB3 : Below w.heap.size w ((wo.setCell ⟨w.heap.size, a, none⟩ (.int .i64 z)).drew) := HB2.out.drew
          generalize (wo.setCell ⟨w.heap.size, a, none⟩ (.int .i64 z)).drew = w5 at own3 r2 rp hB3 ⊢
          clear o1 o2 f1 hw
          have hul3 : (u.set a z).length = n' + 1 := by rw [List.length_set]; exact HUL.out
          generalize u.set a z = u3 at own3 hul3 HNX
          have o3 : w5.cell? ⟨w.heap.size, b, none⟩ = some (.int .i64 (u3.getD b 0)) := by rw [own3.cellAt b (by omega)]; exact iv_atU (by omega)
          have o4 : w5.cell? ⟨w.heap.size, k, none⟩ = some (.int .i64 (u3.getD k 0)) := by rw [own3.cellAt k (by omega)]; exact iv_atU (by omega)
          have f3 : w5.frozen? ⟨w.heap.size, b, none⟩ = false := own3.frozenAt _
          obtain ⟨y, hy⟩ : ∃ y, y = add64 (u3.getD b 0) (u3.getD k 0) := ⟨_, rfl⟩
          have hw3 : IntKind.i64.wrap (u3.getD b 0 + u3.getD k 0) = y := hy.symm
          rw [← hy] at HNX
          have HST2 : Hid (URel gs w (.int .i64 ((k : Int) - 1)) ((w5.drew).setCell ⟨w.heap.size, b, none⟩ (.int .i64 y))) := Lib.hid ⟨k, (k : Int) - 1, rfl, by omega, by omega, by
            rw [← HN.out, HNX.out]
            have h6 : (w5.drew).ownsRow w.heap.size 2 1 (.slice (some ⟨w.heap.size, 0, none⟩) (n' + 1) (n' + 1)) (n' + 1) (iv u3) := own3
            exact u_store h6 b y, hB3.drew.setCell (Nat.le_refl _) _⟩
          generalize u3.getD b 0 = y1 at *
          generalize u3.getD k 0 = y2 at *
          clear own3 hy hB3 hul3 HNX
          go_wp2_with fail
          go_still_tail 17, (by kernel_rfl)
          change wpList _ _ _ _ _ w5.drew
          go_wp2_with fail
          go_roundw
          case rel => first | exact HST2.out | ((repeat apply Exists.intro); exact ⟨HST2.out, rfl⟩)
          case measure => simp [intOf] <;> omega
        · have he := full_list h0
          unfold uStep at hnx
          rw [if_neg h0] at hnx
          have HST2 : Hid (URel gs w (.int .i64 ((k : Int) - 1)) wo) := Lib.hid ⟨k, (k : Int) - 1, rfl, by omega, by omega, by rw [← HN.out, hnx]; exact hown, hB⟩
          clear hnx hown hB h0 hul hm
          go_wp2_with fail
          go_roundw
          case rel => first | exact HST2.out | ((repeat apply Exists.intro); exact ⟨HST2.out, rfl⟩)
          case measure => simp [intOf] <;> omega
end Go.Proofs.Ytbenlbfommodiaa
