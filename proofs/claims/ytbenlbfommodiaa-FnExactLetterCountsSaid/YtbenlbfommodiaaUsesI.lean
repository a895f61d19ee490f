/-
  Walks: impl.UsesOf, spec.UsesOf.
-/
import Derived.Test.YtbenlbfommodiaaUses
import Derived.Test.YtbenlbfommodiaaGValid
namespace Go.Proofs.Ytbenlbfommodiaa
open Go.RowKit
open Wd
set_option linter.unusedVariables false

theorem tu_pp (v : Value) (w : World) : (Instr.typeAssert (.iface 153 v) 134 153 true).run Try.prog w = .ok (.tuple #[v, .bool true]) w := by kernel_rfl
theorem tu_lp (v : Value) (w : World) : (Instr.typeAssert (.iface 131 v) 134 153 true).run Try.prog w = .ok (.tuple #[.agg #[.string ⟨#[]⟩, .int .i64 0, .int .i64 0], .bool false]) w := by kernel_rfl

theorem lastOf_any (A : Option Addr) (n c : Nat) (hn : n ≤ 1048576) (w : World) :
    Calls Try.prog 95 #[.slice A n c] w fun e w' => e = .returned (.int .i64 ((n : Int) - 1)) ∧ w = w' := by
  go_enter Try.func95, Try.ntmps95
  go_wp2
  go_ret
  exact ⟨rfl, rfl⟩

def intsUsesOf (gs : List Rl) : List Int × Int := if gOk gs then (usesOf gs, 0) else ([], 1)
theorem intsUsesOf_len (gs : List Rl) (hf : FewR gs) : (intsUsesOf gs).1.length ≤ 1000000 := by
  unfold intsUsesOf
  split
  · rename_i h
    have := gOk_len h
    simp only [usesOf_len]; omega
  · simp
theorem rules_gp {w : World} {v : Value} {gs : List Rl} (h : Rules w v gs) (t : TypeId) : GP (w.alloc (.cells #[v] t)) w.heap.size gs :=
  ⟨v, cell_new w v t, h.kept ((Below.refl _ w).alloc (Nat.le_refl _) _)⟩

/-- the memory ahead of a round -/
def preU (gs : List Rl) (m : Nat) : List Int := if m = gs.length then List.replicate gs.length 0 else uAt gs (gs.length - m)
theorem preU_len (gs : List Rl) (m : Nat) : (preU gs m).length = gs.length := by unfold preU; split <;> simp [uAt_len]


set_option maxRecDepth 100000 in
set_option maxHeartbeats 12800000 in
theorem implUsesOf_ok (A : Option Addr) (c : Nat) (gs : List Rl) (w : World) (hf : FewR gs) (hr : Rules w (.slice A gs.length c) gs) (hok : gOk gs = true) :
    Calls Try.prog 106 #[.agg #[.slice A gs.length c]] w fun e w' => ∃ x, e = .returned (.tuple #[x, .int .i64 0]) ∧ OwnsI w' w.heap.size x (usesOf gs) ∧ Below w.heap.size w w' := by
  obtain ⟨i0, hi, hz0, hz1, hz2⟩ := info_parts Try.info_i64
  have hb := (Below.refl _ w).alloc (Nat.le_refl _) (.cells #[.slice A gs.length c] 45)
  have h1 := implValidGrammar (.slice A gs.length c) gs _ hf (hr.kept hb)
  rw [hok] at h1
  have H1 := Lib.hid h1
  have HB := Lib.hid hb
  have hn := gOk_len hok
  have HF := Lib.hid (gOk_iff.1 hok).2.1
  obtain ⟨A', c', e', hr⟩ := hr
  injection e' with eA _ ec
  subst eA ec
  obtain ⟨n, hng⟩ : ∃ n, n = gs.length := ⟨_, rfl⟩
  rw [← hng] at hn H1 HB ⊢
  have HN := Lib.hid hng
  have HR := Lib.hid hr
  clear hng hr hf hok h1 hb
  go_enter Try.func106, Try.ntmps106
  go_wp2_with fail
  refine H1.out.mono ?_
  rintro e w1 ⟨rfl, hB1⟩
  have HB1 := Lib.hid (HB.out.trans (hB1.mono (by simp)))
  have HC1 := Lib.hid ((hB1.cell (p := ⟨w.heap.size, 0, none⟩) (by simp)).trans (cell_new _ _ _))
  have hc1 := HC1.out
  have hs1 := HB1.out.size
  clear hB1
  go_wp2_with (refine wpList_make_full _ rfl _ _ 64 rfl w.heap.size 2 i0 (.int .i64 0) 1 Try.underlying64 hi hz0 hz1 .i64 .i64 _ _ n rfl rfl rfl rfl (by rw [hz2]; omega) (by unfold maxLen; omega) hs1 ?_)
  intro w2 hown hg
  rw [made_i64] at hown
  have hB2 := below_of_grown hg
  have HB2 := Lib.hid (HB1.out.trans (hB2.mono hs1))
  have hc2 := (hB2.cell (p := ⟨w.heap.size, 0, none⟩) (lt_of_cell hc1)).trans hc1
  have HC2 := Lib.hid hc2
  obtain ⟨L, hL⟩ : ∃ L, L = w1.heap.size := ⟨_, rfl⟩
  rw [← hL] at hown ⊢
  have hLw : w.heap.size < L := by have := lt_of_cell hc1; simp only at this; omega
  have HO2 := Lib.hid hown
  clear hown hg hB2 hc1 hL
  have HLA := Lib.hid (fun W => lastOf_any A n c (by omega) W)
  go_wp2_with fail
  refine (HLA.out _).mono ?_
  rintro e w3 ⟨rfl, rfl⟩
  go_wp2_with fail
  go_loopw [5, 6, 7] (fun i _ _ wr => ∃ (m : Nat) (v : Int), i = .int .i64 v ∧ v + 1 = m ∧ m ≤ n ∧ wr.ownsRow w.heap.size 2 1 (.slice (some ⟨L, 0, none⟩) n n) n (iv (preU gs m)) ∧ Below w.heap.size w wr ∧ wr.cell? ⟨w.heap.size, 0, none⟩ = some (.slice A n c)) (fun i _ _ _ => ((intOf i) + 1).toNat)
  case atStart => exact ⟨n, (n : Int) - 1, rfl, by omega, Nat.le_refl _, by unfold preU; rw [if_pos HN.out, ← HN.out]; exact HO2.out, HB2.out, HC2.out⟩
  case round =>
    obtain ⟨m, v, rfl, hvm, hm, hown, hB, hcp⟩ := hrel
    obtain ⟨wo, rfl⟩ : ∃ wo : World, wo = wr := ⟨_, rfl⟩
    by_cases hm0 : m = 0
    · subst hm0
      obtain rfl : v = -1 := by omega
      have HO : Hid (OwnsI wo w.heap.size (.slice (some ⟨L, 0, none⟩) n n) (usesOf gs)) := Lib.hid (by
        unfold OwnsI
        rw [usesOf_len, ← HN.out]
        have : preU gs 0 = usesOf gs := by
          unfold preU usesOf
          split
          · rename_i h; rw [← h]; simp [uAt]
            have : gs = [] := List.eq_nil_of_length_eq_zero h.symm
            subst this; simp
          · rfl
        rw [← this]
        exact hown)
      clear hown
      go_wp2_with fail
      go_ret2
      exact ⟨_, rfl, HO.out, hB⟩
    · obtain ⟨k, rfl⟩ : ∃ k, m = k + 1 := ⟨m - 1, by omega⟩
      obtain rfl : v = (k : Int) := by omega
      have hkg : k < gs.length := by rw [← HN.out]; omega
      have hkn : k < n := by omega
      rcases HR.out with hn | ⟨g, rfl, hg, hc⟩
      · rw [hn] at hkg; simp at hkg
      obtain ⟨a0, a1, a2⟩ := rules_cells hc hkg
      have A0 := Lib.hid a0
      have A1 := Lib.hid a1
      have A2 := Lib.hid a2
      have HOK := Lib.hid (fits_at HF.out k hkg)
      have hnx := uAt_next gs k hkg
      have hul : (uAt gs (gs.length - (k + 1))).length = n := by rw [uAt_len, HN.out]
      have hcell : ∀ j z, preU gs (k + 1) = z → j < n → True := fun _ _ _ _ => trivial
      by_cases hfirst : k + 1 = n
      · have hpre : preU gs (k + 1) = List.replicate gs.length 0 := by unfold preU; rw [if_pos (by rw [hfirst]; exact HN.out)]
        rw [hpre] at hown
        have oc : wo.cell? ⟨L, k, none⟩ = some (.int .i64 0) := by rw [hown.cellAt k (by omega), iv_atU (by simp; omega), show (List.replicate gs.length (0 : Int)).getD k 0 = 0 from by rw [List.getD_eq_getElem?_getD, List.getElem?_replicate]; split <;> rfl]
        have of : wo.frozen? ⟨L, k, none⟩ = false := hown.frozenAt _
        have hown2 := u_store hown k 1
        have e0 : (List.replicate gs.length (0 : Int)).set k 1 = uAt gs (gs.length - (k + 1)) := by
          rw [show gs.length - (k + 1) = 0 from by rw [← HN.out]; omega, uAt]
          rw [show gs.length - 1 = k from by rw [← HN.out]; omega]
        rw [e0] at hown2
        have hB2 := hB.setCell (p := ⟨L, k, none⟩) (by simp; omega) (.int .i64 1)
        have hcp2 : (wo.setCell ⟨L, k, none⟩ (.int .i64 1)).cell? ⟨w.heap.size, 0, none⟩ = some (.slice (some ⟨g, 0, none⟩) n c) := by
          rw [World.cell?_setCell_other _ _ _ _ (fun e => by have := congrArg Addr.block e; simp only at this; omega)]; exact hcp
        have b0 := (hB2.cell (p := ⟨g, k * 3, none⟩) hg).trans a0
        have b1 := (hB2.cell (p := ⟨g, k * 3 + 1, none⟩) hg).trans a1
        have b2 := (hB2.cell (p := ⟨g, k * 3 + 2, none⟩) hg).trans a2
        have hkk : ((k : Int) == (n : Int) - 1) = true := by rw [beq_iff_eq]; omega
        have hkk2 : (k : Int) = (n : Int) - 1 := by omega
        have HKK2 := Lib.hid hkk2
        clear hkk2 hown e0 hpre hcell hB hc a0 a1 a2
        go_wp2_with fail
        refine (HLA.out _).mono ?_
        rintro e w3 ⟨rfl, rfl⟩
        go_wp2_with fail
        generalize wo.setCell ⟨L, k, none⟩ (.int .i64 1) = w4 at hown2 hB2 hcp2 b0 b1 b2 ⊢
        clear oc of hcp hkk
        generalize uAt gs (gs.length - (k + 1)) = u at *
        have HSP : Hid (uAt gs (gs.length - k) = preU gs k) := Lib.hid (by unfold preU; rw [if_neg (by omega)])
        rw [HSP.out] at hnx
        by_cases h0 : gs[k].L.size = 0
        · obtain ⟨⟨q1, q2⟩, q3, q4⟩ := (ok_pair h0).1 HOK.out
          obtain ⟨a, ha⟩ : ∃ a : Nat, gs[k].l = a := ⟨gs[k].l.toNat, by omega⟩
          obtain ⟨b, hb⟩ : ∃ b : Nat, gs[k].r = b := ⟨gs[k].r.toNat, by omega⟩
          have HK := Lib.hid (fun W => kind_pair gs[k] h0 W)
          have he := empty_arr h0
          rw [ha] at q2
          rw [hb] at q4
          have HA := Lib.hid ha
          have HBB := Lib.hid hb
          unfold uStep at hnx
          rw [if_pos h0, ha, hb, Int.toNat_natCast, Int.toNat_natCast] at hnx
          have hak : a < n := by omega
          have hbk : b < n := by omega
          have HNX := Lib.hid hnx
          have HUL := Lib.hid hul
          have HO4 := Lib.hid hown2
          have HB4 := Lib.hid hB2
          have HC4 := Lib.hid hcp2
          have HT := tu_pp
          clear hnx hul hown2 hB2 he h0 ha hb q1 q2 q3 q4 hcp2
          have hcp2 := HC4.out
          go_wp2_with fail
          refine (HK.out _).mono ?_
          rintro e w5 ⟨rfl, hB5⟩
          have HB5 := Lib.hid (HB4.out.trans (hB5.mono HB4.out.size))
          have HO5 := Lib.hid (own_below HO4.out hB5 (Nat.le_refl _))
          have HC5 := Lib.hid ((hB5.cell (p := ⟨w.heap.size, 0, none⟩) (lt_of_cell HC4.out)).trans HC4.out)
          clear b0 b1 b2 hcp2 hB5
          go_wp2_with fail
          have hL5 := (HO5.out.lt _ rfl).2
          simp only at hL5
          have own6 := World.ownsRow.alloc HO5.out (.cells #[.string gs[k].L, .int .i64 gs[k].l, .int .i64 gs[k].r] 153)
          have hB6 := HB5.out.alloc HB5.out.size (.cells #[.string gs[k].L, .int .i64 gs[k].l, .int .i64 gs[k].r] 153)
          have hC6 := (((Below.refl _ w5).alloc (Nat.le_refl _) (.cells #[.string gs[k].L, .int .i64 gs[k].l, .int .i64 gs[k].r] 153)).cell (p := ⟨w.heap.size, 0, none⟩) (lt_of_cell HC5.out)).trans HC5.out
          have k1 : (w5.alloc (.cells #[.string gs[k].L, .int .i64 gs[k].l, .int .i64 gs[k].r] 153)).cell? ⟨w5.heap.size, 1, none⟩ = some (.int .i64 a) := by rw [cell_of_row _ _ _ _ _ _ (heap_alloc_new w5 _), ← HA.out]; rfl
          have k2 : (w5.alloc (.cells #[.string gs[k].L, .int .i64 gs[k].l, .int .i64 gs[k].r] 153)).cell? ⟨w5.heap.size, 2, none⟩ = some (.int .i64 b) := by rw [cell_of_row _ _ _ _ _ _ (heap_alloc_new w5 _), ← HBB.out]; rfl
          obtain ⟨K, hK⟩ : ∃ K, K = w5.heap.size := ⟨_, rfl⟩
          rw [← hK] at k1 k2 ⊢
          generalize w5.alloc (.cells #[.string gs[k].L, .int .i64 gs[k].l, .int .i64 gs[k].r] 153) = w6 at own6 hB6 hC6 k1 k2 ⊢
          have hKL : K ≠ L := by omega
          clear hK hL5
          have o1 : w6.cell? ⟨L, a, none⟩ = some (.int .i64 (u.getD a 0)) := by rw [own6.cellAt a (by omega)]; exact iv_atU (by rw [HUL.out]; omega)
          have o2 : w6.cell? ⟨L, k, none⟩ = some (.int .i64 (u.getD k 0)) := by rw [own6.cellAt k (by omega)]; exact iv_atU (by rw [HUL.out]; omega)
          have f1 : w6.frozen? ⟨L, a, none⟩ = false := own6.frozenAt _
          obtain ⟨z, hz⟩ : ∃ z, z = add64 (u.getD a 0) (u.getD k 0) := ⟨_, rfl⟩
          have hw : IntKind.i64.wrap (u.getD a 0 + u.getD k 0) = z := hz.symm
          have own7 := u_store own6 a z
          rw [← hz] at HNX
          have hB7 := hB6.setCell (p := ⟨L, a, none⟩) (by simp; omega) (.int .i64 z)
          have k3 : (w6.setCell ⟨L, a, none⟩ (.int .i64 z)).cell? ⟨K, 2, none⟩ = some (.int .i64 b) := by
            rw [World.cell?_setCell_other _ _ _ _ (fun e => hKL (congrArg Addr.block e).symm)]; exact k2
          have hC7 : (w6.setCell ⟨L, a, none⟩ (.int .i64 z)).cell? ⟨w.heap.size, 0, none⟩ = some (.slice (some ⟨g, 0, none⟩) n c) := by
            rw [World.cell?_setCell_other _ _ _ _ (fun e => by have := congrArg Addr.block e; simp only at this; omega)]; exact hC6
          have HC7 := Lib.hid hC7
          have HK3 := Lib.hid k3
          have HB7 := Lib.hid hB7
          have HO7 := Lib.hid own7
          generalize u.getD a 0 = x1 at *
          generalize u.getD k 0 = x2 at *
          have q0 : 0 ≤ (a : Int) := by omega
          have q5 : (a : Int) < (n : Int) := by omega
          have q6 : 0 ≤ (k : Int) := by omega
          have q7 : (k : Int) < (n : Int) := by omega
          have q8 : 0 ≤ (b : Int) := by omega
          have q9 : (b : Int) < (n : Int) := by omega
          clear hz own7 hB7 hC7 k3 own6 hB6 hC6
          go_wp2_with fail
          go_still_tail 11, (by kernel_rfl)
          change wpList _ _ _ _ _ w6.drew
          go_wp2_with fail
          have own8 : ((w6.setCell ⟨L, a, none⟩ (.int .i64 z)).drew).ownsRow w.heap.size 2 1 (.slice (some ⟨L, 0, none⟩) n n) n (iv (u.set a z)) := HO7.out
          have r2 : ((w6.setCell ⟨L, a, none⟩ (.int .i64 z)).drew).cell? ⟨K, 2, none⟩ = some (.int .i64 b) := HK3.out
          have rp : ((w6.setCell ⟨L, a, none⟩ (.int .i64 z)).drew).cell? ⟨w.heap.size, 0, none⟩ = some (.slice (some ⟨g, 0, none⟩) n c) := HC7.out
          have hB8 : Below w.heap.size w ((w6.setCell ⟨L, a, none⟩ (.int .i64 z)).drew) := HB7.out.drew
          generalize (w6.setCell ⟨L, a, none⟩ (.int .i64 z)).drew = w8 at own8 r2 rp hB8 ⊢
          clear o1 o2 f1 hw k1 k2
          have hul3 : (u.set a z).length = n := by rw [List.length_set]; exact HUL.out
          generalize u.set a z = u3 at own8 hul3 HNX
          have o3 : w8.cell? ⟨L, b, none⟩ = some (.int .i64 (u3.getD b 0)) := by rw [own8.cellAt b (by omega)]; exact iv_atU (by omega)
          have o4 : w8.cell? ⟨L, k, none⟩ = some (.int .i64 (u3.getD k 0)) := by rw [own8.cellAt k (by omega)]; exact iv_atU (by omega)
          have f3 : w8.frozen? ⟨L, b, none⟩ = false := own8.frozenAt _
          obtain ⟨y, hy⟩ : ∃ y, y = add64 (u3.getD b 0) (u3.getD k 0) := ⟨_, rfl⟩
          have hw3 : IntKind.i64.wrap (u3.getD b 0 + u3.getD k 0) = y := hy.symm
          rw [← hy] at HNX
          have HST2 : Hid (∃ (m : Nat) (v : Int), Value.int .i64 ((k : Int) - 1) = .int .i64 v ∧ v + 1 = m ∧ m ≤ n ∧ ((w8.drew).setCell ⟨L, b, none⟩ (.int .i64 y)).ownsRow w.heap.size 2 1 (.slice (some ⟨L, 0, none⟩) n n) n (iv (preU gs m)) ∧ Below w.heap.size w ((w8.drew).setCell ⟨L, b, none⟩ (.int .i64 y)) ∧ ((w8.drew).setCell ⟨L, b, none⟩ (.int .i64 y)).cell? ⟨w.heap.size, 0, none⟩ = some (.slice (some ⟨g, 0, none⟩) n c)) := Lib.hid ⟨k, (k : Int) - 1, rfl, by omega, by omega, by
            rw [HNX.out]
            have h6 : (w8.drew).ownsRow w.heap.size 2 1 (.slice (some ⟨L, 0, none⟩) n n) n (iv u3) := own8
            exact u_store h6 b y, hB8.drew.setCell (by simp; omega) _, by
            rw [World.cell?_setCell_other _ _ _ _ (fun e => by have := congrArg Addr.block e; simp only at this; omega)]; exact rp⟩
          generalize u3.getD b 0 = y1 at *
          generalize u3.getD k 0 = y2 at *
          clear own8 hy hB8 hul3 HNX
          go_wp2_with fail
          go_still_tail 11, (by kernel_rfl)
          change wpList _ _ _ _ _ w8.drew
          go_wp2_with fail
          go_roundw
          case rel => first | exact HST2.out | ((repeat apply Exists.intro); exact ⟨HST2.out, rfl⟩)
          case measure => simp [intOf] <;> omega
        · have HK := Lib.hid (fun W => kind_letter gs[k] h0 W)
          unfold uStep at hnx
          rw [if_neg h0] at hnx
          have HNX := Lib.hid hnx
          have HO4 := Lib.hid hown2
          have HB4 := Lib.hid hB2
          have HC4 := Lib.hid hcp2
          have HT := tu_lp
          clear hnx hul hown2 hB2 h0
          go_wp2_with fail
          refine (HK.out _).mono ?_
          rintro e w5 ⟨rfl, hB5⟩
          have hs5 := (HB4.out.trans (hB5.mono HB4.out.size)).size
          have HB5 := Lib.hid (HB4.out.trans (hB5.mono HB4.out.size))
          have HO5 := Lib.hid (own_below HO4.out hB5 (Nat.le_refl _))
          have HC5 := Lib.hid ((hB5.cell (p := ⟨w.heap.size, 0, none⟩) (lt_of_cell HC4.out)).trans HC4.out)
          have HST2 : Hid (∀ o : Obj, ∃ (m : Nat) (v : Int), Value.int .i64 ((k : Int) - 1) = .int .i64 v ∧ v + 1 = m ∧ m ≤ n ∧ (w5.alloc o).ownsRow w.heap.size 2 1 (.slice (some ⟨L, 0, none⟩) n n) n (iv (preU gs m)) ∧ Below w.heap.size w (w5.alloc o) ∧ (w5.alloc o).cell? ⟨w.heap.size, 0, none⟩ = some (.slice (some ⟨g, 0, none⟩) n c)) := Lib.hid fun o => ⟨k, (k : Int) - 1, rfl, by omega, by omega, by
            rw [HNX.out]; exact World.ownsRow.alloc HO5.out o, HB5.out.alloc hs5 o, (((Below.refl _ w5).alloc (Nat.le_refl _) o).cell (p := ⟨w.heap.size, 0, none⟩) (lt_of_cell HC5.out)).trans HC5.out⟩
          clear b0 b1 b2 hcp2 hB5
          go_wp2_with fail
          go_roundw
          case rel => first | exact HST2.out _ | ((repeat apply Exists.intro); exact ⟨HST2.out _, rfl⟩)
          case measure => simp [intOf] <;> omega
      · have hpre : preU gs (k + 1) = uAt gs (gs.length - (k + 1)) := by unfold preU; rw [if_neg (fun e => hfirst (e.trans HN.out.symm))]
        rw [hpre] at hown
        have hown2 := hown
        have hB2 := hB
        have hcp2 := hcp
        have b0 := (hB2.cell (p := ⟨g, k * 3, none⟩) hg).trans a0
        have b1 := (hB2.cell (p := ⟨g, k * 3 + 1, none⟩) hg).trans a1
        have b2 := (hB2.cell (p := ⟨g, k * 3 + 2, none⟩) hg).trans a2
        have hkk : ((k : Int) == (n : Int) - 1) = false := by rw [beq_eq_false_iff_ne]; omega
        have hkk2 : ¬ (k : Int) = (n : Int) - 1 := by omega
        clear hown hpre hcell hB hc a0 a1 a2 hcp
        go_wp2_with fail
        refine (HLA.out _).mono ?_
        rintro e w3 ⟨rfl, rfl⟩
        go_wp2_with fail
        obtain ⟨w4, rfl⟩ : ∃ w4 : World, w4 = wo := ⟨_, rfl⟩
        clear hkk hkk2
        generalize uAt gs (gs.length - (k + 1)) = u at *
        have HSP : Hid (uAt gs (gs.length - k) = preU gs k) := Lib.hid (by unfold preU; rw [if_neg (by omega)])
        rw [HSP.out] at hnx
        by_cases h0 : gs[k].L.size = 0
        · obtain ⟨⟨q1, q2⟩, q3, q4⟩ := (ok_pair h0).1 HOK.out
          obtain ⟨a, ha⟩ : ∃ a : Nat, gs[k].l = a := ⟨gs[k].l.toNat, by omega⟩
          obtain ⟨b, hb⟩ : ∃ b : Nat, gs[k].r = b := ⟨gs[k].r.toNat, by omega⟩
          have HK := Lib.hid (fun W => kind_pair gs[k] h0 W)
          have he := empty_arr h0
          rw [ha] at q2
          rw [hb] at q4
          have HA := Lib.hid ha
          have HBB := Lib.hid hb
          unfold uStep at hnx
          rw [if_pos h0, ha, hb, Int.toNat_natCast, Int.toNat_natCast] at hnx
          have hak : a < n := by omega
          have hbk : b < n := by omega
          have HNX := Lib.hid hnx
          have HUL := Lib.hid hul
          have HO4 := Lib.hid hown2
          have HB4 := Lib.hid hB2
          have HC4 := Lib.hid hcp2
          have HT := tu_pp
          clear hnx hul hown2 hB2 he h0 ha hb q1 q2 q3 q4 hcp2
          have hcp2 := HC4.out
          go_wp2_with fail
          refine (HK.out _).mono ?_
          rintro e w5 ⟨rfl, hB5⟩
          have HB5 := Lib.hid (HB4.out.trans (hB5.mono HB4.out.size))
          have HO5 := Lib.hid (own_below HO4.out hB5 (Nat.le_refl _))
          have HC5 := Lib.hid ((hB5.cell (p := ⟨w.heap.size, 0, none⟩) (lt_of_cell HC4.out)).trans HC4.out)
          clear b0 b1 b2 hcp2 hB5
          go_wp2_with fail
          have hL5 := (HO5.out.lt _ rfl).2
          simp only at hL5
          have own6 := World.ownsRow.alloc HO5.out (.cells #[.string gs[k].L, .int .i64 gs[k].l, .int .i64 gs[k].r] 153)
          have hB6 := HB5.out.alloc HB5.out.size (.cells #[.string gs[k].L, .int .i64 gs[k].l, .int .i64 gs[k].r] 153)
          have hC6 := (((Below.refl _ w5).alloc (Nat.le_refl _) (.cells #[.string gs[k].L, .int .i64 gs[k].l, .int .i64 gs[k].r] 153)).cell (p := ⟨w.heap.size, 0, none⟩) (lt_of_cell HC5.out)).trans HC5.out
          have k1 : (w5.alloc (.cells #[.string gs[k].L, .int .i64 gs[k].l, .int .i64 gs[k].r] 153)).cell? ⟨w5.heap.size, 1, none⟩ = some (.int .i64 a) := by rw [cell_of_row _ _ _ _ _ _ (heap_alloc_new w5 _), ← HA.out]; rfl
          have k2 : (w5.alloc (.cells #[.string gs[k].L, .int .i64 gs[k].l, .int .i64 gs[k].r] 153)).cell? ⟨w5.heap.size, 2, none⟩ = some (.int .i64 b) := by rw [cell_of_row _ _ _ _ _ _ (heap_alloc_new w5 _), ← HBB.out]; rfl
          obtain ⟨K, hK⟩ : ∃ K, K = w5.heap.size := ⟨_, rfl⟩
          rw [← hK] at k1 k2 ⊢
          generalize w5.alloc (.cells #[.string gs[k].L, .int .i64 gs[k].l, .int .i64 gs[k].r] 153) = w6 at own6 hB6 hC6 k1 k2 ⊢
          have hKL : K ≠ L := by omega
          clear hK hL5
          have o1 : w6.cell? ⟨L, a, none⟩ = some (.int .i64 (u.getD a 0)) := by rw [own6.cellAt a (by omega)]; exact iv_atU (by rw [HUL.out]; omega)
          have o2 : w6.cell? ⟨L, k, none⟩ = some (.int .i64 (u.getD k 0)) := by rw [own6.cellAt k (by omega)]; exact iv_atU (by rw [HUL.out]; omega)
          have f1 : w6.frozen? ⟨L, a, none⟩ = false := own6.frozenAt _
          obtain ⟨z, hz⟩ : ∃ z, z = add64 (u.getD a 0) (u.getD k 0) := ⟨_, rfl⟩
          have hw : IntKind.i64.wrap (u.getD a 0 + u.getD k 0) = z := hz.symm
          have own7 := u_store own6 a z
          rw [← hz] at HNX
          have hB7 := hB6.setCell (p := ⟨L, a, none⟩) (by simp; omega) (.int .i64 z)
          have k3 : (w6.setCell ⟨L, a, none⟩ (.int .i64 z)).cell? ⟨K, 2, none⟩ = some (.int .i64 b) := by
            rw [World.cell?_setCell_other _ _ _ _ (fun e => hKL (congrArg Addr.block e).symm)]; exact k2
          have hC7 : (w6.setCell ⟨L, a, none⟩ (.int .i64 z)).cell? ⟨w.heap.size, 0, none⟩ = some (.slice (some ⟨g, 0, none⟩) n c) := by
            rw [World.cell?_setCell_other _ _ _ _ (fun e => by have := congrArg Addr.block e; simp only at this; omega)]; exact hC6
          have HC7 := Lib.hid hC7
          have HK3 := Lib.hid k3
          have HB7 := Lib.hid hB7
          have HO7 := Lib.hid own7
          generalize u.getD a 0 = x1 at *
          generalize u.getD k 0 = x2 at *
          have q0 : 0 ≤ (a : Int) := by omega
          have q5 : (a : Int) < (n : Int) := by omega
          have q6 : 0 ≤ (k : Int) := by omega
          have q7 : (k : Int) < (n : Int) := by omega
          have q8 : 0 ≤ (b : Int) := by omega
          have q9 : (b : Int) < (n : Int) := by omega
          clear hz own7 hB7 hC7 k3 own6 hB6 hC6
          go_wp2_with fail
          go_still_tail 11, (by kernel_rfl)
          change wpList _ _ _ _ _ w6.drew
          go_wp2_with fail
          have own8 : ((w6.setCell ⟨L, a, none⟩ (.int .i64 z)).drew).ownsRow w.heap.size 2 1 (.slice (some ⟨L, 0, none⟩) n n) n (iv (u.set a z)) := HO7.out
          have r2 : ((w6.setCell ⟨L, a, none⟩ (.int .i64 z)).drew).cell? ⟨K, 2, none⟩ = some (.int .i64 b) := HK3.out
          have rp : ((w6.setCell ⟨L, a, none⟩ (.int .i64 z)).drew).cell? ⟨w.heap.size, 0, none⟩ = some (.slice (some ⟨g, 0, none⟩) n c) := HC7.out
          have hB8 : Below w.heap.size w ((w6.setCell ⟨L, a, none⟩ (.int .i64 z)).drew) := HB7.out.drew
          generalize (w6.setCell ⟨L, a, none⟩ (.int .i64 z)).drew = w8 at own8 r2 rp hB8 ⊢
          clear o1 o2 f1 hw k1 k2
          have hul3 : (u.set a z).length = n := by rw [List.length_set]; exact HUL.out
          generalize u.set a z = u3 at own8 hul3 HNX
          have o3 : w8.cell? ⟨L, b, none⟩ = some (.int .i64 (u3.getD b 0)) := by rw [own8.cellAt b (by omega)]; exact iv_atU (by omega)
          have o4 : w8.cell? ⟨L, k, none⟩ = some (.int .i64 (u3.getD k 0)) := by rw [own8.cellAt k (by omega)]; exact iv_atU (by omega)
          have f3 : w8.frozen? ⟨L, b, none⟩ = false := own8.frozenAt _
          obtain ⟨y, hy⟩ : ∃ y, y = add64 (u3.getD b 0) (u3.getD k 0) := ⟨_, rfl⟩
          have hw3 : IntKind.i64.wrap (u3.getD b 0 + u3.getD k 0) = y := hy.symm
          rw [← hy] at HNX
          have HST2 : Hid (∃ (m : Nat) (v : Int), Value.int .i64 ((k : Int) - 1) = .int .i64 v ∧ v + 1 = m ∧ m ≤ n ∧ ((w8.drew).setCell ⟨L, b, none⟩ (.int .i64 y)).ownsRow w.heap.size 2 1 (.slice (some ⟨L, 0, none⟩) n n) n (iv (preU gs m)) ∧ Below w.heap.size w ((w8.drew).setCell ⟨L, b, none⟩ (.int .i64 y)) ∧ ((w8.drew).setCell ⟨L, b, none⟩ (.int .i64 y)).cell? ⟨w.heap.size, 0, none⟩ = some (.slice (some ⟨g, 0, none⟩) n c)) := Lib.hid ⟨k, (k : Int) - 1, rfl, by omega, by omega, by
            rw [HNX.out]
            have h6 : (w8.drew).ownsRow w.heap.size 2 1 (.slice (some ⟨L, 0, none⟩) n n) n (iv u3) := own8
            exact u_store h6 b y, hB8.drew.setCell (by simp; omega) _, by
            rw [World.cell?_setCell_other _ _ _ _ (fun e => by have := congrArg Addr.block e; simp only at this; omega)]; exact rp⟩
          generalize u3.getD b 0 = y1 at *
          generalize u3.getD k 0 = y2 at *
          clear own8 hy hB8 hul3 HNX
          go_wp2_with fail
          go_still_tail 11, (by kernel_rfl)
          change wpList _ _ _ _ _ w8.drew
          go_wp2_with fail
          go_roundw
          case rel => first | exact HST2.out | ((repeat apply Exists.intro); exact ⟨HST2.out, rfl⟩)
          case measure => simp [intOf] <;> omega
        · have HK := Lib.hid (fun W => kind_letter gs[k] h0 W)
          unfold uStep at hnx
          rw [if_neg h0] at hnx
          have HNX := Lib.hid hnx
          have HO4 := Lib.hid hown2
          have HB4 := Lib.hid hB2
          have HC4 := Lib.hid hcp2
          have HT := tu_lp
          clear hnx hul hown2 hB2 h0
          go_wp2_with fail
          refine (HK.out _).mono ?_
          rintro e w5 ⟨rfl, hB5⟩
          have hs5 := (HB4.out.trans (hB5.mono HB4.out.size)).size
          have HB5 := Lib.hid (HB4.out.trans (hB5.mono HB4.out.size))
          have HO5 := Lib.hid (own_below HO4.out hB5 (Nat.le_refl _))
          have HC5 := Lib.hid ((hB5.cell (p := ⟨w.heap.size, 0, none⟩) (lt_of_cell HC4.out)).trans HC4.out)
          have HST2 : Hid (∀ o : Obj, ∃ (m : Nat) (v : Int), Value.int .i64 ((k : Int) - 1) = .int .i64 v ∧ v + 1 = m ∧ m ≤ n ∧ (w5.alloc o).ownsRow w.heap.size 2 1 (.slice (some ⟨L, 0, none⟩) n n) n (iv (preU gs m)) ∧ Below w.heap.size w (w5.alloc o) ∧ (w5.alloc o).cell? ⟨w.heap.size, 0, none⟩ = some (.slice (some ⟨g, 0, none⟩) n c)) := Lib.hid fun o => ⟨k, (k : Int) - 1, rfl, by omega, by omega, by
            rw [HNX.out]; exact World.ownsRow.alloc HO5.out o, HB5.out.alloc hs5 o, (((Below.refl _ w5).alloc (Nat.le_refl _) o).cell (p := ⟨w.heap.size, 0, none⟩) (lt_of_cell HC5.out)).trans HC5.out⟩
          clear b0 b1 b2 hcp2 hB5
          go_wp2_with fail
          go_roundw
          case rel => first | exact HST2.out _ | ((repeat apply Exists.intro); exact ⟨HST2.out _, rfl⟩)
          case measure => simp [intOf] <;> omega

theorem implUsesOf (v : Value) (gs : List Rl) (w : World) (hf : FewR gs) (hr : Rules w v gs) :
    Calls Try.prog 106 #[.agg #[v]] w fun e w' => ∃ x, e = .returned (.tuple #[x, .int .i64 (intsUsesOf gs).2]) ∧ OwnsI w' w.heap.size x (intsUsesOf gs).1 ∧ Below w.heap.size w w' := by
  have hr0 := hr
  obtain ⟨A, c, rfl, _⟩ := hr
  unfold intsUsesOf
  cases hok : gOk gs
  · have hb := (Below.refl _ w).alloc (Nat.le_refl _) (.cells #[.slice A gs.length c] 45)
    have h1 := implValidGrammar (.slice A gs.length c) gs _ hf (hr0.kept hb)
    rw [hok] at h1
    have H1 := Lib.hid h1
    have HB := Lib.hid hb
    clear h1 hb hok hr0
    go_enter Try.func106, Try.ntmps106
    go_wp2_with fail
    refine H1.out.mono ?_
    rintro e w1 ⟨rfl, hB1⟩
    have HB1 := Lib.hid (HB.out.trans (hB1.mono (by simp)))
    clear hB1
    go_wp2_with fail
    go_ret2
    exact ⟨_, rfl, World.ownsRow_nil _ _ _ _, HB1.out⟩
  · exact implUsesOf_ok A c gs w hf hr0 hok
end Go.Proofs.Ytbenlbfommodiaa
