/-
  Walk: spec.LetterCounts; how letters are counted, as lists.
-/
import Derived.Test.YtbenlbfommodiaaUses
import Derived.Test.YtbenlbfommodiaaGVar
import Derived.StillTailTactics
namespace Go.Proofs.Ytbenlbfommodiaa
open Go.RowKit
open Wd
set_option linter.unusedVariables false
namespace Wd
/-- the number of a letter -/
def ltNo (x : Rl) : Nat := (x.L.data.toList.headD 97).toNat - 97
/-- one rule's part -/
def cStep (x : Rl) (k : Nat) (us c : List Int) : List Int := if x.L.size = 0 then c else c.set (ltNo x) (add64 (c.getD (ltNo x) 0) (us.getD k 0))
/-- the counts behind k rules -/
def cAt (gs : List Rl) (us : List Int) : Nat → List Int
  | 0 => List.replicate 4 0
  | k + 1 => match gs[k]? with | some x => cStep x k us (cAt gs us k) | none => cAt gs us k
theorem cStep_len (x : Rl) (k : Nat) (us c : List Int) : (cStep x k us c).length = c.length := by unfold cStep; split <;> simp
theorem cAt_len (gs : List Rl) (us : List Int) : ∀ k, (cAt gs us k).length = 4
  | 0 => by simp [cAt]
  | k + 1 => by
    rw [cAt]
    split
    · rw [cStep_len]; exact cAt_len gs us k
    · exact cAt_len gs us k
theorem cAt_next (gs : List Rl) (us : List Int) (k : Nat) (h : k < gs.length) : cAt gs us (k + 1) = cStep gs[k] k us (cAt gs us k) := by
  rw [cAt, List.getElem?_eq_getElem h]
/-- the answer -/
def intsLetterCounts (gs : List Rl) : List Int × Int := if gOk gs then (cAt gs (usesOf gs) gs.length, 0) else ([], 1)
theorem intsLetterCounts_len (gs : List Rl) (hf : FewR gs) : (intsLetterCounts gs).1.length ≤ 1000000 := by
  unfold intsLetterCounts
  split
  · rw [show (cAt gs (usesOf gs) gs.length, (0 : Int)).1 = cAt gs (usesOf gs) gs.length from rfl, cAt_len]; omega
  · simp
/-- a letter as its one byte -/
theorem letter_byte {x : Rl} {n : Nat} (h0 : x.L.size ≠ 0) (h : x.ok n = true) : ∃ c : UInt8, x.L = ⟨#[c]⟩ ∧ 97 ≤ (c.toNat : Int) ∧ (c.toNat : Int) ≤ 100 ∧ ltNo x = c.toNat - 97 := by
  obtain ⟨⟨h1, h2⟩, _⟩ := (ok_letter h0).1 h
  obtain ⟨⟨⟨l⟩⟩, a, b⟩ := x
  match l, h1 with
  | [c], _ =>
    have h3 := of_lt (okL_at h2 (i := 0) (by simp))
    exact ⟨c, rfl, by simpa using h3.1, by simpa using h3.2, rfl⟩
theorem own_addr {w : World} {B e s n c : Nat} {A : Option Addr} {xs : List Value} (h : w.ownsRow B e s (.slice A n c) n xs) (hn : 0 < n) : ∃ g, A = some ⟨g, 0, none⟩ ∧ B ≤ g ∧ g < w.heap.size := by
  rcases h.2 with ⟨_, h0⟩ | ⟨g, cap, cur, hv, hb, hg, _⟩
  · omega
  · injection hv with hv
    exact ⟨g, hv, hb, (Array.getElem?_eq_some_iff.1 hg).1⟩
end Wd
theorem cell_far0 {w : World} {a b i j : Nat} (h : a ≠ b) (u : Value) : (w.setCell ⟨b, j, none⟩ u).cell? ⟨a, i, none⟩ = w.cell? ⟨a, i, none⟩ :=
  World.cell?_of_block (a := ⟨a, i, none⟩) (Below.heap_setCell w ⟨b, j, none⟩ u a h)
/-- what holds between two rounds -/
def CtRel (gs : List Rl) (us : List Int) (w : World) (M : Nat) (U : Value) (P : Nat) (pv : Value) (i : Value) (wr : World) : Prop :=
  ∃ k : Nat, k ≤ gs.length ∧ i = .int .i64 k ∧ wr.ownsRow w.heap.size 2 1 (.slice (some ⟨M, 0, none⟩) 4 4) 4 (iv (cAt gs us k)) ∧ wr.ownsRow w.heap.size 2 1 U gs.length (iv us) ∧ Below w.heap.size w wr ∧ wr.cell? ⟨P, 0, none⟩ = some pv
theorem made_i64c (n : Nat) : (madeCells #[.int .i64 0] n).toList = iv (List.replicate n 0) := made_i64 n

set_option maxRecDepth 100000 in
set_option maxHeartbeats 6400000 in
theorem specCounts_ok (A : Option Addr) (c : Nat) (gs : List Rl) (w : World) (hf : FewR gs) (hr : Rules w (.slice A gs.length c) gs) (hok : gOk gs = true) :
    Calls Try.prog 51 #[.agg #[.slice A gs.length c]] w fun e w' => ∃ x, e = .returned (.tuple #[x, .int .i64 0]) ∧ OwnsI w' w.heap.size x (cAt gs (usesOf gs) gs.length) ∧ Below w.heap.size w w' := by
  obtain ⟨i0, hi, hz0, hz1, hz2⟩ := info_parts Try.info_i64
  have hg := rules_gpT hr 45
  have h1 := l02Ok_any w.heap.size gs _ hf hg
  rw [hok] at h1
  have H1 := Lib.hid h1
  have H2 := Lib.hid (fun W (hW : GP W w.heap.size gs) => specUses w.heap.size gs W hok hf hW)
  have HG := Lib.hid hg
  have hb := (Below.refl _ w).alloc (Nat.le_refl _) (.cells #[.slice A gs.length c] 45)
  have HB := Lib.hid hb
  have HC := Lib.hid (cell_new w (.slice A gs.length c) 45)
  have hn := gOk_len hok
  have HF := Lib.hid (gOk_iff.1 hok).2.1
  obtain ⟨A', c', e', hr⟩ := hr
  injection e' with eA _ ec
  subst eA ec
  have HUL := Lib.hid (usesOf_len gs)
  obtain ⟨us, hus⟩ : ∃ us, us = usesOf gs := ⟨_, rfl⟩
  rw [← hus] at HUL H2 ⊢
  obtain ⟨n, hng⟩ : ∃ n, n = gs.length := ⟨_, rfl⟩
  rw [← hng] at hn HB HC HUL H1 HG ⊢
  have HN := Lib.hid hng
  have HR := Lib.hid hr
  clear hng hr hf hok h1 hb hg hus
  go_enter Try.func51, Try.ntmps51
  go_wp2_with fail
  refine H1.out.mono ?_
  rintro e w1 ⟨rfl, hB1⟩
  have HB1' := Lib.hid hB1
  have HB1 := Lib.hid (HB.out.trans (hB1.mono (by simp)))
  have HC1 := Lib.hid ((hB1.cell (p := ⟨w.heap.size, 0, none⟩) (by simp)).trans HC.out)
  clear hB1
  go_wp2_with fail
  refine (H2.out _ (HG.out.kept HB1'.out)).mono ?_
  rintro e w2 ⟨x, rfl, ho, hB2⟩
  have HB2 := Lib.hid (HB1.out.trans (hB2.mono HB1.out.size))
  have HC2 := Lib.hid ((hB2.cell (p := ⟨w.heap.size, 0, none⟩) (lt_of_cell HC1.out)).trans HC1.out)
  have ho' : w2.ownsRow w.heap.size 2 1 x n (iv us) := by rw [← HUL.out]; exact own_lower ho HB1.out.size
  have hs2 := HB2.out.size
  obtain ⟨Ax, cx, rfl⟩ := own_slice ho'
  have HO := Lib.hid ho'
  clear hB2 ho ho'
  go_wp2_with (refine wpList_make_full _ rfl _ _ 64 rfl w.heap.size 2 i0 (.int .i64 0) 1 Try.underlying64 hi hz0 hz1 .i64 .i64 _ _ 4 rfl rfl rfl rfl (by rw [hz2]; omega) (by unfold maxLen; omega) hs2 ?_)
  intro w3 hown hgr
  rw [made_i64] at hown
  have hB3 := below_of_grown hgr
  have HST : Hid (CtRel gs us w w2.heap.size (.slice Ax n cx) w.heap.size (.slice A n c) (.int .i64 0) w3) := Lib.hid
    ⟨0, Nat.zero_le _, rfl, by rw [cAt]; exact hown, by rw [← HN.out]; exact own_below HO.out hB3 (Nat.le_refl _), HB2.out.trans (hB3.mono hs2), (hB3.cell (p := ⟨w.heap.size, 0, none⟩) (lt_of_cell HC2.out)).trans HC2.out⟩
  have HMU : Hid (∀ g, Ax = some ⟨g, 0, none⟩ → g < w2.heap.size) := Lib.hid (fun g e => by subst e; exact (HO.out.lt g rfl).2)
  have HMP : Hid (w.heap.size < w2.heap.size) := Lib.hid (lt_of_cell HC2.out)
  obtain ⟨M, hM⟩ : ∃ M, M = w2.heap.size := ⟨_, rfl⟩
  rw [← hM] at HST HMU HMP ⊢
  clear hown hgr hB3 hM
  go_wp2_with fail
  go_loopw [6] (fun i wr => CtRel gs us w M (.slice Ax n cx) w.heap.size (.slice A n c) i wr) (fun i _ => n - (intOf i).toNat)
  case atStart => exact HST.out
  case round =>
    obtain ⟨k, hk, rfl, hown, hu, hB, hcp⟩ := hrel
    obtain ⟨wo, rfl⟩ : ∃ wo : World, wo = wr := ⟨_, rfl⟩
    rw [← HN.out] at hk
    by_cases hkn : k < n
    · have hkg : k < gs.length := by rw [← HN.out]; exact hkn
      have hnx := cAt_next gs us k hkg
      have hcl := cAt_len gs us k
      rcases HR.out with hn0 | ⟨g, rfl, hg, hc⟩
      · rw [hn0] at hkg; simp at hkg
      obtain ⟨a0, _, _⟩ := rules_cells hc hkg
      rw [← hB.cell (p := ⟨g, k * 3, none⟩) hg] at a0
      rw [← HN.out] at hu
      obtain ⟨U, rfl, hU1, hU2⟩ := own_addr hu (by omega)
      have hUM := HMU.out U rfl
      generalize hcs : cAt gs us k = cs at *
      clear hc
      by_cases h0 : gs[k].L.size = 0
      · have he := empty_arr h0
        rw [he] at a0
        unfold cStep at hnx
        rw [if_pos h0] at hnx
        have HST2 : Hid (CtRel gs us w M (.slice (some ⟨U, 0, none⟩) n cx) w.heap.size (.slice (some ⟨g, 0, none⟩) n c) (.int .i64 ((k : Int) + 1)) wo) := Lib.hid ⟨k + 1, by omega, by go_num, by rw [hnx]; exact hown, by rw [← HN.out]; exact hu, hB, hcp⟩
        clear hnx hown hu hB h0 hcl hcs he
        go_wp2_with fail
        go_roundw
        case rel => first | exact HST2.out | ((repeat apply Exists.intro); exact ⟨HST2.out, rfl⟩)
        case measure => (first | (simp [intOf]; done) | (simp [intOf]; omega))
      · obtain ⟨b, hL, hb1, hb2, hno⟩ := letter_byte h0 (fits_at HF.out k hkg)
        have he := full_list h0
        unfold cStep at hnx
        rw [if_neg h0, hno] at hnx
        rw [hL] at a0 he
        obtain ⟨d, hd⟩ : ∃ d : Nat, d = b.toNat - 97 := ⟨_, rfl⟩
        rw [← hd] at hnx
        have hd1 : (b.toNat : Int) = (d : Int) + 97 := by omega
        have hd4 : d < 4 := by omega
        have o1 : wo.cell? ⟨M, d, none⟩ = some (.int .i64 (cs.getD d 0)) := by rw [hown.cellAt d (by omega)]; exact iv_atU (by omega)
        have o2 : wo.cell? ⟨U, k, none⟩ = some (.int .i64 (us.getD k 0)) := by rw [hu.cellAt k (by omega)]; exact iv_atU (by rw [HUL.out]; exact hkn)
        have f1 : wo.frozen? ⟨M, d, none⟩ = false := hown.frozenAt _
        obtain ⟨z, hz⟩ : ∃ z, z = add64 (cs.getD d 0) (us.getD k 0) := ⟨_, rfl⟩
        have hw : IntKind.i64.wrap (cs.getD d 0 + us.getD k 0) = z := hz.symm
        have own2 := u_store hown d z
        rw [← hz] at hnx
        have hB2 := hB.setCell (p := ⟨M, d, none⟩) (Nat.le_of_lt HMP.out) (.int .i64 z)
        have hne : (Value.slice (some (⟨U, 0, none⟩ : Addr)) n cx).ownBlock ≠ some M := fun e => by
          have : U = M := by simpa [Value.ownBlock] using e
          omega
        have hu2 : (wo.setCell ⟨M, d, none⟩ (.int .i64 z)).ownsRow w.heap.size 2 1 (.slice (some ⟨U, 0, none⟩) n cx) n (iv us) :=
          World.ownsRow.kept hu (only_setCell (World.grownBy.refl wo (some M)) (p := ⟨M, d, none⟩) (.inl rfl) _) (.inr hne)
        have hc2 : (wo.setCell ⟨M, d, none⟩ (.int .i64 z)).cell? ⟨w.heap.size, 0, none⟩ = some (.slice (some ⟨g, 0, none⟩) n c) := by
          refine (cell_far0 ?_ _).trans hcp
          have := HMP.out
          exact Nat.ne_of_lt this
        have HST2 : Hid (CtRel gs us w M (.slice (some ⟨U, 0, none⟩) n cx) w.heap.size (.slice (some ⟨g, 0, none⟩) n c) (.int .i64 ((k : Int) + 1)) (wo.drew.setCell ⟨M, d, none⟩ (.int .i64 z))) := Lib.hid
          ⟨k + 1, by omega, by go_num, by rw [hnx]; exact own2, by rw [← HN.out]; exact hu2, hB.drew.setCell (p := ⟨M, d, none⟩) (Nat.le_of_lt HMP.out) (.int .i64 z), hc2⟩
        generalize cs.getD d 0 = x1 at *
        generalize us.getD k 0 = x2 at *
        have hi8 : (⟨#[b]⟩ : ByteArray).size = 1 := rfl
        have hs0 : (0 : Int) ≤ (d : Int) := by omega
        have hs4 : (d : Int) < 4 := by omega
        have q6 : 0 ≤ (k : Int) := by omega
        have q7 : (k : Int) < (n : Int) := by omega
        have hsub : IntKind.u8.wrap ((((⟨#[b]⟩ : ByteArray)[0]'(Nat.zero_lt_one)).toNat : Int) - 97) = (d : Int) := by
          show IntKind.u8.wrap ((b.toNat : Int) - 97) = d
          rw [hd1, show (d : Int) + 97 - 97 = d from by omega]
          exact IntWalk.u8_in _ (by omega)
        clear hnx hown hu hB h0 hcl hcs hz own2 hB2 hu2 hc2 hd hno hL hne
        go_wp2_with fail
        go_still_tail 17, (by kernel_rfl)
        change wpList _ _ _ _ _ wo.drew
        go_wp2_with fail
        go_roundw
        case rel => first | exact HST2.out | ((repeat apply Exists.intro); exact ⟨HST2.out, rfl⟩)
        case measure => (first | (simp [intOf]; done) | (simp [intOf]; omega))
    · obtain rfl : k = n := by omega
      have HO : Hid (OwnsI wo w.heap.size (.slice (some ⟨M, 0, none⟩) 4 4) (cAt gs us gs.length)) := Lib.hid (by
        unfold OwnsI
        rw [cAt_len, ← HN.out]
        exact hown)
      clear hown hu
      go_wp2_with fail
      go_ret2
      exact ⟨_, rfl, by rw [HN.out]; exact HO.out, hB⟩

theorem specLetterCounts (v : Value) (gs : List Rl) (w : World) (hf : FewR gs) (hr : Rules w v gs) :
    Calls Try.prog 51 #[.agg #[v]] w fun e w' => ∃ x, e = .returned (.tuple #[x, .int .i64 (intsLetterCounts gs).2]) ∧ OwnsI w' w.heap.size x (intsLetterCounts gs).1 ∧ Below w.heap.size w w' := by
  unfold intsLetterCounts
  cases hok : gOk gs
  · have hg := rules_gpT hr 45
    have h1 := l02Ok_any w.heap.size gs _ hf hg
    rw [hok] at h1
    have H1 := Lib.hid h1
    obtain ⟨A, c, rfl, _⟩ := hr
    have HB := Lib.hid ((Below.refl _ w).alloc (Nat.le_refl _) (.cells #[.slice A gs.length c] 45))
    clear hok h1 hg
    go_enter Try.func51, Try.ntmps51
    go_wp2_with fail
    refine H1.out.mono ?_
    rintro e w1 ⟨rfl, hB1⟩
    have HB1 := Lib.hid (HB.out.trans (hB1.mono (by simp)))
    clear hB1
    go_wp2_with fail
    go_ret2
    exact ⟨_, rfl, World.ownsRow_lit w1 #[] 0 HB1.out.size (by decide) rfl, HB1.out.alloc HB1.out.size _⟩
  · obtain ⟨A, c, rfl, hr'⟩ := hr
    exact specCounts_ok A c gs w hf ⟨A, c, rfl, hr'⟩ hok
end Go.Proofs.Ytbenlbfommodiaa
