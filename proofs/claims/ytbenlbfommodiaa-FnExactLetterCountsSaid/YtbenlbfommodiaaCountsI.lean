/-
  Walk: impl.LetterCounts.
-/
import Derived.Test.YtbenlbfommodiaaCounts
import Derived.Test.YtbenlbfommodiaaUsesI
import Derived.Test.YtbenlbfommodiaaGPair
import Derived.Test.YtbenlbfommodiaaShelf
namespace Go.Proofs.Ytbenlbfommodiaa
open Go.RowKit
open Wd
set_option linter.unusedVariables false

theorem tl_ll (v : Value) (w : World) : (Instr.typeAssert (.iface 131 v) 134 131 true).run Try.prog w = .ok (.tuple #[v, .bool true]) w := by kernel_rfl
theorem tl_pl (v : Value) (w : World) : (Instr.typeAssert (.iface 153 v) 134 131 true).run Try.prog w = .ok (.tuple #[.agg #[.string ⟨#[]⟩, .int .i64 0, .int .i64 0], .bool false]) w := by kernel_rfl

theorem index_letter (b : UInt8) (d : Nat) (hb : (b.toNat : Int) = (d : Int) + 97) (hd : d < 4) (w : World) :
    Calls Try.prog 108 #[.string ⟨#[97, 98, 99, 100]⟩, .string ⟨#[b]⟩] w fun e w' => e = .returned (.int .i64 (d : Int)) ∧ w' = w := by
  refine (Try.strings_Index_one ⟨#[97, 98, 99, 100]⟩ b w).mono fun e w' he => ⟨he.1.trans (ret_int ?_), he.2⟩
  obtain rfl : b = UInt8.ofNat (d + 97) := by
    apply UInt8.toNat_inj.1
    simp
    omega
  match d, hd with
  | 0, _ => rfl
  | 1, _ => rfl
  | 2, _ => rfl
  | 3, _ => rfl

/-- what holds between two rounds -/
def CiRel (gs : List Rl) (us : List Int) (w : World) (M : Nat) (U : Value) (i : Value) (wr : World) : Prop :=
  ∃ k : Nat, k ≤ gs.length ∧ i = .int .i64 k ∧ wr.ownsRow w.heap.size 2 1 (.slice (some ⟨M, 0, none⟩) 4 4) 4 (iv (cAt gs us k)) ∧ wr.ownsRow w.heap.size 2 1 U gs.length (iv us) ∧ Below w.heap.size w wr

set_option maxRecDepth 100000 in
set_option maxHeartbeats 6400000 in
theorem implCounts_ok (A : Option Addr) (c : Nat) (gs : List Rl) (w : World) (hf : FewR gs) (hr : Rules w (.slice A gs.length c) gs) (hok : gOk gs = true) :
    Calls Try.prog 52 #[.agg #[.slice A gs.length c]] w fun e w' => ∃ x, e = .returned (.tuple #[x, .int .i64 0]) ∧ OwnsI w' w.heap.size x (cAt gs (usesOf gs) gs.length) ∧ Below w.heap.size w w' := by
  obtain ⟨i0, hi, hz0, hz1, hz2⟩ := info_parts Try.info_i64
  have hb := (Below.refl _ w).alloc (Nat.le_refl _) (.cells #[.slice A gs.length c] 45)
  have h1 := implUsesOf (.slice A gs.length c) gs _ hf (hr.kept hb)
  unfold intsUsesOf at h1
  rw [hok, if_pos rfl] at h1
  have H1 := Lib.hid h1
  have HB := Lib.hid hb
  have HC := Lib.hid (cell_new w (.slice A gs.length c) 45)
  have hn := gOk_len hok
  have HF := Lib.hid (gOk_iff.1 hok).2.1
  obtain ⟨A', c', e', hr⟩ := hr
  injection e' with eA _ ec
  subst eA ec
  have HUL := Lib.hid (usesOf_len gs)
  obtain ⟨us, hus⟩ : ∃ us, us = usesOf gs := ⟨_, rfl⟩
  rw [← hus] at HUL H1 ⊢
  obtain ⟨n, hng⟩ : ∃ n, n = gs.length := ⟨_, rfl⟩
  rw [← hng] at hn HB HC HUL H1 ⊢
  have HN := Lib.hid hng
  have HR := Lib.hid hr
  clear hng hr hf hok h1 hb hus
  go_enter Try.func52, Try.ntmps52
  go_wp2_with fail
  refine H1.out.mono ?_
  rintro e w2 ⟨x, rfl, ho, hB2⟩
  have HB2 := Lib.hid (HB.out.trans (hB2.mono (by simp)))
  have HC2 := Lib.hid ((hB2.cell (p := ⟨w.heap.size, 0, none⟩) (by simp)).trans HC.out)
  have ho' : w2.ownsRow w.heap.size 2 1 x n (iv us) := by
    have h9 := own_lower ho (C := w.heap.size) (by simp)
    rw [← HUL.out]; exact h9
  have hs2 := HB2.out.size
  obtain ⟨Ax, cx, rfl⟩ := own_slice ho'
  have HO := Lib.hid ho'
  have hc2 := HC2.out
  clear hB2 ho ho'
  go_wp2_with (refine wpList_make_full _ rfl _ _ 64 rfl w.heap.size 2 i0 (.int .i64 0) 1 Try.underlying64 hi hz0 hz1 .i64 .i64 _ _ 4 rfl rfl rfl rfl (by rw [hz2]; omega) (by unfold maxLen; omega) hs2 ?_)
  intro w3 hown hgr
  rw [made_i64] at hown
  have hB3 := below_of_grown hgr
  have HST : Hid (CiRel gs us w w2.heap.size (.slice Ax n cx) (.int .i64 0) w3) := Lib.hid
    ⟨0, Nat.zero_le _, rfl, by rw [cAt]; exact hown, by rw [← HN.out]; exact own_below HO.out hB3 (Nat.le_refl _), HB2.out.trans (hB3.mono hs2)⟩
  have hc3 := (hB3.cell (p := ⟨w.heap.size, 0, none⟩) (lt_of_cell HC2.out)).trans HC2.out
  have HMU : Hid (∀ g, Ax = some ⟨g, 0, none⟩ → g < w2.heap.size) := Lib.hid (fun g e => by subst e; exact (HO.out.lt g rfl).2)
  have HMP : Hid (w.heap.size < w2.heap.size) := Lib.hid (lt_of_cell HC2.out)
  obtain ⟨M, hM⟩ : ∃ M, M = w2.heap.size := ⟨_, rfl⟩
  rw [← hM] at HST HMU HMP ⊢
  clear hown hgr hB3 hM hc2
  go_wp2_with fail
  go_loopw [7, 8, 9, 10, 23] (fun _ _ _ _ i wr => CiRel gs us w M (.slice Ax n cx) i wr) (fun _ _ _ _ i _ => n - (intOf i).toNat)
  case atStart => exact HST.out
  case round =>
    obtain ⟨k, hk, rfl, hown, hu, hB⟩ := hrel
    obtain ⟨wo, rfl⟩ : ∃ wo : World, wo = wr := ⟨_, rfl⟩
    rw [← HN.out] at hk
    clear hc3
    by_cases hkn : k < n
    · have hkg : k < gs.length := by rw [← HN.out]; exact hkn
      have hnx := cAt_next gs us k hkg
      have hcl := cAt_len gs us k
      rcases HR.out with hn0 | ⟨g, rfl, hg, hc⟩
      · rw [hn0] at hkg; simp at hkg
      obtain ⟨a0, a1, a2⟩ := rules_cells hc hkg
      rw [← hB.cell (p := ⟨g, k * 3, none⟩) hg] at a0
      rw [← hB.cell (p := ⟨g, k * 3 + 1, none⟩) hg] at a1
      rw [← hB.cell (p := ⟨g, k * 3 + 2, none⟩) hg] at a2
      rw [← HN.out] at hu
      obtain ⟨U, rfl, hU1, hU2⟩ := own_addr hu (by omega)
      have hUM := HMU.out U rfl
      generalize hcs : cAt gs us k = cs at *
      have hM1 : M < wo.heap.size := (hown.lt M rfl).2
      have hfit := fits_at HF.out k hkg
      clear hc
      by_cases h0 : gs[k].L.size = 0
      · have HK := Lib.hid (fun W => kind_pair gs[k] h0 W)
        have HT := tl_pl
        unfold cStep at hnx
        rw [if_pos h0] at hnx
        have HNX := Lib.hid hnx
        have HO4 := Lib.hid hown
        have HU4 := Lib.hid hu
        have HB4 := Lib.hid hB
        have hs4 := hB.size
        generalize gs[k] = R at *
        clear hnx hown hu hB h0 hcl hcs hfit
        go_wp2_with fail
        refine (HK.out _).mono ?_
        rintro e w5 ⟨rfl, hB5⟩
        have hb5 := ((Below.refl _ wo).alloc (Nat.le_refl _) (.cells #[.string R.L, .int .i64 R.l, .int .i64 R.r] 117)).trans (hB5.mono (by simp))
        have HST2 : Hid (∀ o, CiRel gs us w M (.slice (some ⟨U, 0, none⟩) n cx) (.int .i64 ((k : Int) + 1)) (w5.alloc o)) := Lib.hid fun o => by
          have hb6 := hb5.alloc hb5.size o
          exact ⟨k + 1, by omega, by go_num, by rw [HNX.out]; exact own_below HO4.out hb6 (Nat.le_refl _), by rw [← HN.out]; exact own_below HU4.out hb6 (Nat.le_refl _), HB4.out.trans (hb6.mono hs4)⟩
        clear hB5 hb5 a0 a1 a2
        go_wp2_with fail
        go_roundw
        case rel => first | exact HST2.out _ | ((repeat apply Exists.intro); exact ⟨HST2.out _, rfl⟩)
        case measure => (first | (simp [intOf]; done) | (simp [intOf]; omega))
      · obtain ⟨b, hL, hb1, hb2, hno⟩ := letter_byte h0 hfit
        have HK := Lib.hid (fun W => kind_letter gs[k] h0 W)
        have HT := tl_ll
        unfold cStep at hnx
        rw [if_neg h0, hno] at hnx
        obtain ⟨d, hd⟩ : ∃ d : Nat, d = b.toNat - 97 := ⟨_, rfl⟩
        rw [← hd] at hnx
        have hd1 : (b.toNat : Int) = (d : Int) + 97 := by omega
        have hd4 : d < 4 := by omega
        have HIX := Lib.hid (fun W => index_letter b d hd1 hd4 W)
        have HNX := Lib.hid hnx
        have HO4 := Lib.hid hown
        have HU4 := Lib.hid hu
        have HB4 := Lib.hid hB
        have HLB := Lib.hid hL
        have hs4 := hB.size
        have HCL := Lib.hid hcl
        generalize gs[k] = R at *
        clear hnx hown hu hB h0 hcl hcs hfit hd hno hL hd1 hb1 hb2
        go_wp2_with fail
        refine (HK.out _).mono ?_
        rintro e w5 ⟨rfl, hB5⟩
        have hb5 := ((Below.refl _ wo).alloc (Nat.le_refl _) (.cells #[.string R.L, .int .i64 R.l, .int .i64 R.r] 117)).trans (hB5.mono (by simp))
        have HB5 := Lib.hid hb5
        have hs5 := hb5.size
        clear hB5 hb5 a0 a1 a2
        go_wp2_with fail
        have kc : (w5.alloc (.cells #[.string R.L, .int .i64 R.l, .int .i64 R.r] 131)).cell? ⟨w5.heap.size, 0, none⟩ = some (.string ⟨#[b]⟩) := by rw [cell_of_row _ _ _ _ _ _ (heap_alloc_new w5 _), ← HLB.out]; rfl
        have hb6 := HB5.out.alloc HB5.out.size (.cells #[.string R.L, .int .i64 R.l, .int .i64 R.r] 131)
        have own6 := own_below HO4.out hb6 (Nat.le_refl _)
        have hu6 := own_below HU4.out hb6 (Nat.le_refl _)
        have hB6 := HB4.out.trans (hb6.mono hs4)
        obtain ⟨K, hK⟩ : ∃ K, K = w5.heap.size := ⟨_, rfl⟩
        rw [← hK] at kc ⊢
        have hKM : M < K := by omega
        generalize w5.alloc (.cells #[.string R.L, .int .i64 R.l, .int .i64 R.r] 131) = w6 at *
        clear hb6 hK hs5
        have o1 : w6.cell? ⟨M, d, none⟩ = some (.int .i64 (cs.getD d 0)) := by rw [own6.cellAt d (by omega)]; exact iv_atU (by rw [HCL.out]; omega)
        have o2 : w6.cell? ⟨U, k, none⟩ = some (.int .i64 (us.getD k 0)) := by rw [hu6.cellAt k (by omega)]; exact iv_atU (by rw [HUL.out]; exact hkn)
        have f1 : w6.frozen? ⟨M, d, none⟩ = false := own6.frozenAt _
        obtain ⟨z, hz⟩ : ∃ z, z = add64 (cs.getD d 0) (us.getD k 0) := ⟨_, rfl⟩
        have hw : IntKind.i64.wrap (cs.getD d 0 + us.getD k 0) = z := hz.symm
        have own7 := u_store own6 d z
        have hne : (Value.slice (some (⟨U, 0, none⟩ : Addr)) n cx).ownBlock ≠ some M := fun e => by
          have : U = M := by simpa [Value.ownBlock] using e
          omega
        have hu7 : (w6.setCell ⟨M, d, none⟩ (.int .i64 z)).ownsRow w.heap.size 2 1 (.slice (some ⟨U, 0, none⟩) n cx) n (iv us) :=
          World.ownsRow.kept hu6 (only_setCell (World.grownBy.refl w6 (some M)) (p := ⟨M, d, none⟩) (.inl rfl) _) (.inr hne)
        have hnx := HNX.out
        rw [← hz] at hnx
        have HST2 : Hid (CiRel gs us w M (.slice (some ⟨U, 0, none⟩) n cx) (.int .i64 ((k : Int) + 1)) (w6.drew.setCell ⟨M, d, none⟩ (.int .i64 z))) := Lib.hid
          ⟨k + 1, by omega, by go_num, by rw [hnx]; exact own7, by rw [← HN.out]; exact hu7, hB6.drew.setCell (p := ⟨M, d, none⟩) (Nat.le_of_lt HMP.out) (.int .i64 z)⟩
        generalize cs.getD d 0 = x1 at *
        generalize us.getD k 0 = x2 at *
        have hs0 : (0 : Int) ≤ (d : Int) := by omega
        have hs4' : (d : Int) < 4 := by omega
        have q6 : 0 ≤ (k : Int) := by omega
        have q7 : (k : Int) < (n : Int) := by omega
        clear hnx own6 hu6 hB6 hz own7 hu7 hne
        go_wp2_with fail
        refine wp_region_still_tail 12 (by kernel_rfl) (by kernel_rfl) ?_
        simp only [List.take_succ_cons, List.take_zero, List.drop_succ_cons, List.drop_zero]
        still_step
        still_step
        still_step
        still_call (HIX.out _)
        repeat still_step
        refine wpStill_nil ?_
        change wpList _ _ _ _ _ w6.drew
        go_wp2_with fail
        go_roundw
        case rel => first | exact HST2.out | ((repeat apply Exists.intro); exact ⟨HST2.out, rfl⟩)
        case measure => (first | (simp [intOf]; done) | (simp [intOf]; omega))
    · obtain rfl : k = n := by omega
      have HO : Hid (OwnsI wo w.heap.size (.slice (some ⟨M, 0, none⟩) 4 4) (cAt gs us gs.length)) := Lib.hid (by
        unfold OwnsI
        rw [cAt_len, ← HN.out]
        exact hown)
      clear hown hu
      go_wp2_with fail
      go_ret2
      exact ⟨_, rfl, by rw [HN.out]; exact HO.out, hB⟩

theorem implLetterCounts (v : Value) (gs : List Rl) (w : World) (hf : FewR gs) (hr : Rules w v gs) :
    Calls Try.prog 52 #[.agg #[v]] w fun e w' => ∃ x, e = .returned (.tuple #[x, .int .i64 (intsLetterCounts gs).2]) ∧ OwnsI w' w.heap.size x (intsLetterCounts gs).1 ∧ Below w.heap.size w w' := by
  unfold intsLetterCounts
  cases hok : gOk gs
  · have hb := (Below.refl _ w).alloc (Nat.le_refl _) (.cells #[v] 45)
    have h1 := implUsesOf v gs _ hf (hr.kept hb)
    unfold intsUsesOf at h1
    rw [hok, if_neg (by simp)] at h1
    have H1 := Lib.hid h1
    have HB := Lib.hid hb
    obtain ⟨A, c, rfl, _⟩ := hr
    clear hok h1 hb
    go_enter Try.func52, Try.ntmps52
    go_wp2_with fail
    refine H1.out.mono ?_
    rintro e w1 ⟨x, rfl, _, hB1⟩
    have HB1 := Lib.hid (HB.out.trans (hB1.mono (by simp)))
    clear hB1
    go_wp2_with fail
    go_ret2
    exact ⟨_, rfl, World.ownsRow_nil _ _ _ _, HB1.out⟩
  · obtain ⟨A, c, rfl, hr'⟩ := hr
    exact implCounts_ok A c gs w hf ⟨A, c, rfl, hr'⟩ hok
end Go.Proofs.Ytbenlbfommodiaa
