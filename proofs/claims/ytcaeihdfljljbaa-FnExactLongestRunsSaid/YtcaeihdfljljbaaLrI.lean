/-
  Walk: impl.LongestRuns.
-/
import Derived.Test.YtcaeihdfljljbaaLrW
namespace Go.Proofs.Ytcaeihdfljljbaa
open Go.RowKit
open Wd
set_option linter.unusedVariables false
namespace Wd
/-- the longest run of a letter -/
def lrG (l : Nat) (gs : List Rl) : Int := (stPart l gs 0 (wordLen gs)).getD 3 0
/-- the longest runs of the first letters -/
def lrK (gs : List Rl) : Nat → List Int
  | 0 => [0, 0, 0, 0]
  | k + 1 => (lrK gs k).set k (lrG k gs)
theorem lrK_len (gs : List Rl) : ∀ k, (lrK gs k).length = 4
  | 0 => rfl
  | k + 1 => by rw [lrK, List.length_set]; exact lrK_len gs k
/-- the answer -/
def intsLongestRuns (gs : List Rl) : List Int × Int := if gOk gs then (lrK gs 4, 0) else ([], 1)
end Wd
theorem field_st (a b c d : Int) (w : World) : (Instr.field 115 (.agg #[.int .i64 a, .int .i64 b, .int .i64 c, .int .i64 d]) 3).run Try.prog w = .ok (.int .i64 d) w := by kernel_rfl
/-- between two letters -/
def LrRel (gs : List Rl) (v : Value) (w : World) (M : Nat) (i : Value) (wr : World) : Prop :=
  ∃ k : Nat, k ≤ 4 ∧ i = .int .i64 k ∧ (0 < k → gOk gs = true) ∧ wr.ownsRow w.heap.size 2 1 (.slice (some ⟨M, 0, none⟩) 4 4) 4 (iv (lrK gs k)) ∧ Below w.heap.size w wr ∧ wr.cell? ⟨w.heap.size, 0, none⟩ = some v
set_option maxRecDepth 100000 in
set_option maxHeartbeats 6400000 in
theorem implLongestRuns (v : Value) (gs : List Rl) (w : World) (hf : FewR gs) (hr : Rules w v gs) :
    Calls Try.prog 22 #[.agg #[v]] w fun e w' => ∃ x, e = .returned (.tuple #[x, .int .i64 (intsLongestRuns gs).2]) ∧ OwnsI w' w.heap.size x (intsLongestRuns gs).1 ∧ Below w.heap.size w w' := by
  obtain ⟨i0, hi, hz0, hz1, hz2⟩ := info_parts Try.info_i64
  have hb := (Below.refl _ w).alloc (Nat.le_refl _) (.cells #[v] 48)
  have HB := Lib.hid hb
  have HC := Lib.hid (cell_new w v 48)
  have HRU := Lib.hid (fun W (hb : Below w.heap.size w W) => hr.kept hb)
  have HFW := Lib.hid hf
  obtain ⟨A, c, rfl, _⟩ := hr
  have hs1 : (w.alloc (.cells #[.slice A gs.length c] 48)).heap.size = w.heap.size + 1 := by simp
  have hle : w.heap.size ≤ (w.alloc (.cells #[.slice A gs.length c] 48)).heap.size := by omega
  clear hb
  obtain ⟨an, han⟩ : ∃ an, an = intsLongestRuns gs := ⟨_, rfl⟩
  rw [← han]
  have HAN := Lib.hid han
  clear han
  go_enter Try.func22, Try.ntmps22
  go_wp2_with (refine wpList_make_full _ rfl _ _ 43 rfl w.heap.size 2 i0 (.int .i64 0) 1 Try.underlying43 hi hz0 hz1 .i64 .i64 _ _ 4 rfl rfl rfl rfl (by rw [hz2]; omega) (by unfold maxLen; omega) hle ?_)
  intro w1 hown hgr
  rw [made_i64] at hown
  have hB1 := below_of_grown hgr
  try rw [hs1] at hown
  have HST : Hid (LrRel gs (.slice A gs.length c) w (w.heap.size + 1) (.int .i64 0) w1) := Lib.hid
    ⟨0, by omega, rfl, fun h => absurd h (by omega), hown, HB.out.trans (hB1.mono hle), (hB1.cell (p := ⟨w.heap.size, 0, none⟩) (by show w.heap.size < _; omega)).trans HC.out⟩
  clear hown hgr hB1 hs1 hle
  go_wp2_with fail
  go_loopw [5, 6, 7, 11] (fun _ _ _ i wr => LrRel gs (.slice A gs.length c) w (w.heap.size + 1) i wr) (fun _ _ _ i _ => 4 - (intOf i).toNat)
  case atStart => exact HST.out
  case round =>
    obtain ⟨k, hk, rfl, hk0, hown, hB, hcg⟩ := hrel
    obtain ⟨wo, rfl⟩ : ∃ wo : World, wo = wr := ⟨_, rfl⟩
    by_cases hlt : k < 4
    · have hb2 := (Below.refl _ wo).alloc (Nat.le_refl _) (.cells #[.int .i64 (k : Int)] 3)
      have hc2 := cell_new wo (.int .i64 (k : Int)) 3
      have hg2 := (hb2.cell (p := ⟨w.heap.size, 0, none⟩) (lt_of_cell hcg)).trans hcg
      have hBB := hB.trans (hb2.mono hB.size)
      have H1 := Lib.hid (lrFold_any _ gs wo.heap.size k _ HFW.out (HRU.out _ hBB) hc2)
      go_wp2_with fail
      have HBB := Lib.hid hBB
      have HOW := Lib.hid (own_below hown hb2 (Nat.le_refl _))
      have HC2 := Lib.hid (And.intro hc2 hg2)
      have hMl : w.heap.size + 1 < wo.heap.size := (hown.lt _ rfl).2
      have hs2 : (wo.alloc (.cells #[.int .i64 (k : Int)] 3)).heap.size = wo.heap.size + 1 := by simp
      clear hb2 hc2 hg2 hBB hcg hB hown
      obtain ⟨bl, hbl⟩ : ∃ bl, bl = wo.heap.size := ⟨_, rfl⟩
      rw [← hbl] at H1 HC2 hMl hs2 ⊢
      generalize wo.alloc (.cells #[.int .i64 (k : Int)] 3) = w2 at *
      clear hbl
      refine H1.out.mono ?_
      rintro e w3 ⟨fv, rfl, hy, hz, hB3⟩
      have HB3 := Lib.hid (HBB.out.trans (hB3.mono HBB.out.size))
      cases hok : gOk gs
      · obtain rfl := hz hok
        have hI : an = ([], 1) := by rw [HAN.out]; unfold intsLongestRuns; rw [hok]; rfl
        clear hy hz hB3
        go_wp2_with fail
        go_ret2
        exact ⟨.slice none 0 0, by rw [hI]; rfl, by rw [hI]; exact World.ownsRow_nil _ _ _ _, HB3.out.alloc HB3.out.size _⟩
      · have hy := hy hok
        obtain ⟨A1, c1, A2, c2, he, _, _⟩ := hy.shape
        injection he with he
        subst he
        have hcs : (lrAll bl (.slice A gs.length c) (.slice A1 gs.length c1) (.slice A2 gs.length c2)) = ([.int .i64 0, .int .i64 0, .int .i64 0, .int .i64 0, lrL bl, lrT, .slice A gs.length c, .slice A1 gs.length c1, .slice A2 gs.length c2] : List Value).toArray := rfl
        have hb4 := (Below.refl _ w3).alloc (Nat.le_refl _) (.cells (lrAll bl (.slice A gs.length c) (.slice A1 gs.length c1) (.slice A2 gs.length c2)) 122)
        have hb24 := hB3.trans (hb4.mono hB3.size)
        have HW := Lib.hid (fun W (h : Below w3.heap.size w3 W) => lrWhole_any _ _ gs _ bl k W hok (HRU.out _ (HB3.out.trans (h.mono HB3.out.size))) (hy.kept h))
        have HR4 := Lib.hid (range_rows (heap_alloc_new w3 (.cells (lrAll bl (.slice A gs.length c) (.slice A1 gs.length c1) (.slice A2 gs.length c2)) 122)))
        have HC4 := Lib.hid ((hb24.cell (p := ⟨bl, 0, none⟩) (lt_of_cell HC2.out.1)).trans HC2.out.1)
        have HG4 := Lib.hid ((hb24.cell (p := ⟨w.heap.size, 0, none⟩) (lt_of_cell HC2.out.2)).trans HC2.out.2)
        have HO4 := Lib.hid (own_below HOW.out hb24 (Nat.le_refl _))
        have HB4 := Lib.hid (HBB.out.trans (hb24.mono HBB.out.size))
        have HSZ9 := Lib.hid (show (Try.prog.info? 122).map (·.size) = some ([.int .i64 0, .int .i64 0, .int .i64 0, .int .i64 0, lrL bl, lrT, .slice A gs.length c, .slice A1 gs.length c1, .slice A2 gs.length c2] : List Value).length from size_lrFold bl (.slice A gs.length c) (.slice A1 gs.length c1) (.slice A2 gs.length c2))
        obtain ⟨d, hu, hd⟩ := und_lrFold
        have HU := Lib.hid (And.intro hu hd)
        have k0 : (0 : Int) ≤ (k : Int) := by omega
        have k1 : (k : Int) < 4 := by omega
        have HB34 := Lib.hid hb4
        have hFM : w.heap.size + 1 < w3.heap.size := by have := hB3.size; omega
        have hbM : w.heap.size + 1 < bl := hMl
        clear hy hz hB3 hcs hu hd hb4 hb24
        go_wp2_with fail
        obtain ⟨F, hF⟩ : ∃ F, F = w3.heap.size := ⟨_, rfl⟩
        rw [← hF] at HR4 hFM ⊢
        generalize w3.alloc (.cells (lrAll bl (.slice A gs.length c) (.slice A1 gs.length c1) (.slice A2 gs.length c2)) 122) = w4 at *
        have HS0 : Hid (w4.drew.rangeAt F 0 [.int .i64 0, .int .i64 0, .int .i64 0, .int .i64 0, lrL bl, lrT, .slice A gs.length c, .slice A1 gs.length c1, .slice A2 gs.length c2] ∧ w4.drew.cell? ⟨bl, 0, none⟩ = some (.int .i64 (k : Int))) := Lib.hid ⟨HR4.out, HC4.out⟩
        have HW4 := Lib.hid (HW.out w4.drew HB34.out.drew)
        clear hF
        refine wp_region_held_drew (S := fun w' : World => w'.rangeAt F 0 [.int .i64 0, .int .i64 0, .int .i64 0, .int .i64 0, lrL bl, lrT, .slice A gs.length c, .slice A1 gs.length c1, .slice A2 gs.length c2] ∧ w'.cell? ⟨bl, 0, none⟩ = some (.int .i64 (k : Int))) (by kernel_rfl) HS0.out (fun hHeld => ?_)
        refine takeH (i := 0) (dst := some 23) (v := ?_) rfl (by kernel_rfl) (by kernel_rfl) (by kernel_rfl) (fun _ _ _ h => h) (Or.inl ⟨by rfl, ?_⟩) (by assumption) ?_
        rotate_left 1
        · (intro w hSw; (try dsimp only at hSw); go_simp; try (with_reducible rfl))
        try simp only [Act.put, List.setIfInBounds_toArray, List.set_cons_zero, List.set_cons_succ]
        refine takeH (i := 1) (dst := some 24) (v := ?_) rfl (by kernel_rfl) (by kernel_rfl) (by kernel_rfl) (fun _ _ _ h => h) (Or.inl ⟨by rfl, ?_⟩) (by assumption) ?_
        rotate_left 1
        · (intro w hSw; (try dsimp only at hSw); go_simp; try (with_reducible rfl))
        try simp only [Act.put, List.setIfInBounds_toArray, List.set_cons_zero, List.set_cons_succ]
        refine takeH (i := 2) (dst := some 25) (v := .agg ([.int .i64 0, .int .i64 0, .int .i64 0, .int .i64 0, lrL bl, lrT, .slice A gs.length c, .slice A1 gs.length c1, .slice A2 gs.length c2]).toArray) rfl (by kernel_rfl) (by kernel_rfl) (by kernel_rfl) (fun _ _ _ h => h) (yieldsIf_load_mid (by rfl) _ _ rfl F 0 rfl ([.int .i64 0, .int .i64 0, .int .i64 0, .int .i64 0, lrL bl, lrT, .slice A gs.length c, .slice A1 gs.length c1, .slice A2 gs.length c2]) _ (fun w hw => hw.1) HU.out.1 (rowD_isRows HU.out.2) HSZ9.out) (by assumption) ?_
        try simp only [Act.put, List.setIfInBounds_toArray, List.set_cons_zero, List.set_cons_succ]
        refine wpAnyH_ready (rs := [3]) (by kernel_rfl) (by simp) ?_
        refine AllReadyH.cons (o := ⟨some 26, _, _, _, _, none⟩) rfl (fun K hK => ?_) AllReadyH.nil
        go_simp
        go_at_call 72
        refine (HW4.out).mono ?_
        rintro e w5 ⟨rfl, hB5⟩
        have HB5 := Lib.hid ((Below.refl _ w4).drew.trans hB5)
        have HS5 : Hid (w5.rangeAt F 0 [.int .i64 0, .int .i64 0, .int .i64 0, .int .i64 0, lrL bl, lrT, .slice A gs.length c, .slice A1 gs.length c1, .slice A2 gs.length c2] ∧ w5.cell? ⟨bl, 0, none⟩ = some (.int .i64 (k : Int))) := Lib.hid ⟨rangeAt_belows HR4.out HB5.out, (HB5.out.cell (p := ⟨bl, 0, none⟩) (lt_of_cell HC4.out)).trans HC4.out⟩
        clear hB5
        refine hK.out _ _ (HS5.out) (fun hHeld => ?_)
        clear hK K
        try simp only [Act.put, List.setIfInBounds_toArray, List.set_cons_zero, List.set_cons_succ]
        refine takeH (i := 4) (dst := some 27) (v := .int .i64 (lrG k gs)) rfl (by kernel_rfl) (by kernel_rfl) (by kernel_rfl) (fun _ _ _ h => h) (Or.inl ⟨by rfl, ?_⟩) (by assumption) ?_
        · (intro w hSw; (try dsimp only at hSw); go_simp; rw [field_st]; rfl)
        try simp only [Act.put, List.setIfInBounds_toArray, List.set_cons_zero, List.set_cons_succ]
        refine takeH (i := 5) (dst := some 28) (v := ?_) rfl (by kernel_rfl) (by kernel_rfl) (by kernel_rfl) (fun _ _ _ h => h) (Or.inl ⟨by rfl, ?_⟩) (by assumption) ?_
        rotate_left 1
        · (intro w hSw; (try dsimp only at hSw); go_simp; try (with_reducible rfl))
        try simp only [Act.put, List.setIfInBounds_toArray, List.set_cons_zero, List.set_cons_succ]
        have HO5 := Lib.hid (own_below HO4.out HB5.out (Nat.le_refl _))
        have HG5 := Lib.hid ((HB5.out.cell (p := ⟨w.heap.size, 0, none⟩) (lt_of_cell HG4.out)).trans HG4.out)
        have o1 : w5.cell? ⟨w.heap.size + 1, k, none⟩ = some (.int .i64 ((lrK gs k).getD k 0)) := by rw [HO5.out.cellAt k (by omega)]; exact iv_at (by rw [lrK_len]; exact hlt)
        have f1 : w5.frozen? ⟨w.heap.size + 1, k, none⟩ = false := HO5.out.frozenAt _
        have HST2 : Hid (LrRel gs (.slice A gs.length c) w (w.heap.size + 1) (.int .i64 ((k : Int) + 1)) (w5.setCell ⟨w.heap.size + 1, k, none⟩ (.int .i64 (lrG k gs)))) := Lib.hid
          ⟨k + 1, by omega, by go_num, fun _ => hok, by rw [lrK]; exact u_store HO5.out k (lrG k gs), (HB4.out.trans (HB5.out.mono HB4.out.size)).setCell (by simp only; omega) _, (cell_far0 (by omega) _).trans HG5.out⟩
        have HS6 : Hid ((w5.setCell ⟨w.heap.size + 1, k, none⟩ (.int .i64 (lrG k gs))).rangeAt F 0 [.int .i64 0, .int .i64 0, .int .i64 0, .int .i64 0, lrL bl, lrT, .slice A gs.length c, .slice A1 gs.length c1, .slice A2 gs.length c2] ∧ (w5.setCell ⟨w.heap.size + 1, k, none⟩ (.int .i64 (lrG k gs))).cell? ⟨bl, 0, none⟩ = some (.int .i64 (k : Int))) := Lib.hid
          ⟨fun j v hv => cell_far1 (HS5.out.1 j v hv) (by simp only; omega), cell_far1 HS5.out.2 (by simp only; omega)⟩
        refine wpAnyH_ready (rs := [6]) (by kernel_rfl) (by simp) ?_
        refine AllReadyH.cons (o := ⟨none, _, _, _, _, none⟩) rfl (fun K hK => ?_) AllReadyH.nil
        go_simp
        refine hK.out _ _ (HS6.out) (fun hHeld => ?_)
        clear hK K
        refine wpAnyH_done (by kernel_rfl) ?_ _
        go_wp2_with fail
        go_roundw
        all_goals first | exact HST2.out | ((repeat apply Exists.intro); exact ⟨HST2.out, rfl⟩) | (simp [intOf]; done) | (simp [intOf]; omega) | omega
    · obtain rfl : k = 4 := by omega
      have hok := hk0 (by omega)
      have hI : an = (lrK gs 4, 0) := by rw [HAN.out]; unfold intsLongestRuns; rw [if_pos hok]
      have HO := Lib.hid hown
      have HBX := Lib.hid hB
      clear hown hB hcg hk0
      go_wp2_with fail
      go_ret2
      exact ⟨.slice (some ⟨w.heap.size + 1, 0, none⟩) 4 4, by rw [hI]; rfl, by rw [hI]; unfold OwnsI; rw [lrK_len]; exact HO.out, HBX.out⟩
end Go.Proofs.Ytcaeihdfljljbaa
