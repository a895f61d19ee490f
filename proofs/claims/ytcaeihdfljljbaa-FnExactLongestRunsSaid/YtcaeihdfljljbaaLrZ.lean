/-
  Walk: spec.LongestRuns.
-/
import Derived.Test.YtcaeihdfljljbaaLrI
import Derived.Test.YtcaeihdfljljbaaLrS
import Derived.Test.YtcaeihdfljljbaaInts
import Derived.Laws.MakeOwn
namespace Go.Proofs.Ytcaeihdfljljbaa
open Go.RowKit
open Wd
set_option linter.unusedVariables false
namespace Wd
theorem lrG_at {l : Nat} {gs : List Rl} (hok : gOk gs = true) (hg : 0 < gs.length) : lrG l gs = (r3At l gs (gs.length - 1)).getD 2 0 := by
  unfold lrG
  rw [stPart_whole hok hg]
  rfl
theorem lrG_nil {l : Nat} {gs : List Rl} (hg : gs.length = 0) : lrG l gs = 0 := by
  unfold lrG stPart
  rw [if_pos (wordLen_zero hg).symm]
  rfl
theorem lrK_nil {gs : List Rl} (hg : gs.length = 0) : ∀ k, k ≤ 4 → lrK gs k = [0, 0, 0, 0]
  | 0, _ => rfl
  | k + 1, h => by
    rw [lrK, lrK_nil hg k (by omega), lrG_nil hg]
    obtain rfl | rfl | rfl | rfl : k = 0 ∨ k = 1 ∨ k = 2 ∨ k = 3 := by omega
    all_goals rfl
theorem intsLongestRuns_len (gs : List Rl) (_ : FewR gs) : (intsLongestRuns gs).1.length ≤ 1000000 := by
  unfold intsLongestRuns
  split
  · show (lrK gs 4).length ≤ _
    rw [lrK_len]
    decide
  · decide
end Wd
set_option maxRecDepth 100000 in
set_option maxHeartbeats 6400000 in
theorem specLongestRuns (v : Value) (gs : List Rl) (w : World) (hf : FewR gs) (hr : Rules w v gs) :
    Calls Try.prog 20 #[.agg #[v]] w fun e w' => ∃ x, e = .returned (.tuple #[x, .int .i64 (intsLongestRuns gs).2]) ∧ OwnsI w' w.heap.size x (intsLongestRuns gs).1 ∧ Below w.heap.size w w' := by
  obtain ⟨i0, hi, hz0, hz1, hz2⟩ := info_parts Try.info_i64
  have hb := (Below.refl _ w).alloc (Nat.le_refl _) (.cells #[v] 48)
  have hg : GP (w.alloc (.cells #[v] 48)) w.heap.size gs := ⟨v, cell_new w v 48, hr.kept hb⟩
  have HB := Lib.hid hb
  have HGP := Lib.hid (fun W (hb : Below (w.alloc (.cells #[v] 48)).heap.size (w.alloc (.cells #[v] 48)) W) => hg.kept hb)
  have HC := Lib.hid (cell_new w v 48)
  have HOKC := Lib.hid (l02Ok_any w.heap.size gs _ hf hg)
  have HFW := Lib.hid hf
  obtain ⟨A, c, rfl, _⟩ := hr
  have hs1 : (w.alloc (.cells #[.slice A gs.length c] 48)).heap.size = w.heap.size + 1 := by simp
  have HS1 := Lib.hid hs1
  clear hb hg hf hs1
  obtain ⟨an, han⟩ : ∃ an, an = intsLongestRuns gs := ⟨_, rfl⟩
  rw [← han]
  have HAN := Lib.hid han
  clear han
  cases hok : gOk gs
  · rw [hok] at HOKC
    have hI : an = ([], 1) := by rw [HAN.out]; unfold intsLongestRuns; rw [hok]; rfl
    subst hI
    clear hok
    go_enter Try.func20, Try.ntmps20
    go_wp2_with fail
    refine HOKC.out.mono ?_
    rintro e w1 ⟨rfl, hB1⟩
    have HB1 := Lib.hid (HB.out.trans (hB1.mono (by rw [HS1.out]; omega)))
    have hs := HB1.out.size
    clear hB1
    go_wp2_with fail
    go_ret2
    exact ⟨_, rfl, World.ownsRow_lit (base := w.heap.size) (e := 2) (size := 1) w1 #[] 0 hs (by decide) rfl, HB1.out.alloc hs _⟩
  · rw [hok] at HOKC
    have hI : an = (lrK gs 4, 0) := by rw [HAN.out]; unfold intsLongestRuns; rw [hok]; rfl
    have HI := Lib.hid hI
    have HOK := Lib.hid hok
    obtain ⟨N, hN⟩ : ∃ N, N = gs.length := ⟨_, rfl⟩
    rw [← hN] at HB HC HOKC HS1 HGP ⊢
    have HN := Lib.hid hN
    have hn4 := gOk_len hok
    rw [← hN] at hn4
    clear hok hI hN
    go_enter Try.func20, Try.ntmps20
    go_wp2_with fail
    refine HOKC.out.mono ?_
    rintro e w1 ⟨rfl, hB1⟩
    have hG1 := HGP.out w1 hB1
    have HBG := Lib.hid hB1
    have hc1 := (hB1.cell (p := ⟨w.heap.size, 0, none⟩) (by rw [HS1.out]; simp)).trans HC.out
    have HB1 := Lib.hid (HB.out.trans (hB1.mono (by rw [HS1.out]; omega)))
    have hs1 : w.heap.size + 1 ≤ w1.heap.size := by have := hB1.size; rw [HS1.out] at this; exact this
    clear hB1
    go_wp2_with (refine wpList_make_full _ rfl _ _ 43 rfl w.heap.size 2 i0 (.int .i64 0) 1 Try.underlying43 hi hz0 hz1 .i64 .i64 _ _ 4 rfl rfl rfl rfl (by rw [hz2]; omega) (by unfold maxLen; omega) (by omega) ?_)
    intro w2 hown hgr
    rw [made_i64] at hown
    have hB2 := below_of_grown hgr
    have hG2 := hG1.kept hB2
    have hc2 := (hB2.cell (p := ⟨w.heap.size, 0, none⟩) (by show w.heap.size < _; omega)).trans hc1
    have HB2 := Lib.hid (HB1.out.trans (hB2.mono (by omega)))
    have HLE := Lib.hid (lengths_any w.heap.size gs w2 HFW.out hG2)
    have hM : w1.heap.size < w2.heap.size := (hown.lt _ rfl).2
    obtain ⟨M, hMe⟩ : ∃ M, M = w1.heap.size := ⟨_, rfl⟩
    rw [← hMe] at hown hM hs1 ⊢
    have HOW2 := Lib.hid hown
    have HGW : Hid (∀ W, Below M w1 W → GP W w.heap.size gs) := Lib.hid (fun W hb => hG1.kept (by rw [← hMe]; exact hb))
    have HCW : Hid (∀ W, Below M w1 W → W.cell? ⟨w.heap.size, 0, none⟩ = some (.slice A N c)) := Lib.hid (fun W hb => (hb.cell (p := ⟨w.heap.size, 0, none⟩) (by show w.heap.size < M; omega)).trans hc1)
    have HM2 : Hid (Below M w1 w2) := Lib.hid (by rw [hMe]; exact hB2)
    clear hB2 hgr hG1 hG2 hown hc1 hc2 hMe
    go_wp2_with fail
    refine HLE.out.mono ?_
    rintro e w3 ⟨x, he, hx, hB3⟩
    rw [HOK.out] at he
    obtain rfl := he
    have hx := hx HOK.out
    have hLN : ∀ W, OwnsI W w2.heap.size x (lens gs) → LnC W x gs := fun W hx => by
      rcases hx.shape with ⟨rfl, h'⟩ | ⟨gx, cx, rfl, _⟩
      · have := lens_len gs
        rw [h'] at this
        simp at this
        exact ⟨none, 0, by rw [← this], fun j hj => by omega⟩
      · refine ⟨_, cx, by rw [lens_len], fun j hj => ⟨gx, rfl, ?_⟩⟩
        have := hx.cell j (by rw [lens_len]; exact hj)
        rw [this, List.getD_eq_getElem?_getD, List.getElem?_eq_getElem (by rw [lens_len]; exact hj), Option.getD_some]
    have hO3 := own_below HOW2.out hB3 (Nat.le_refl _)
    have HM3 : Hid (Below M w1 w3) := Lib.hid (HM2.out.trans (hB3.mono (by omega)))
    have HB3 := Lib.hid (HB2.out.trans (hB3.mono HB2.out.size))
    have HLG := Lib.hid (fun W (hb : Below M w1 W) (hx : OwnsI W w2.heap.size x (lens gs)) l (hl : l < 4) => l05Longest_any w.heap.size l x gs W hl HOK.out (HGW.out W hb) (hLN W hx))
    have hM3 : M < w3.heap.size := by have := hB3.size; omega
    have HX3 := Lib.hid hx
    obtain ⟨Ax, cx, rfl, _⟩ := hLN w3 hx
    rw [← HN.out] at HLG HX3 ⊢
    have hc3 := HCW.out w3 HM3.out
    have HST : Hid (∃ k : Nat, k ≤ 4 ∧ Value.int .i64 0 = .int .i64 k ∧ (0 < k → 0 < N) ∧ w3.ownsRow w.heap.size 2 1 (.slice (some ⟨M, 0, none⟩) 4 4) 4 (iv (lrK gs k)) ∧ Below w.heap.size w w3 ∧ Below M w1 w3 ∧ OwnsI w3 w2.heap.size (.slice Ax N cx) (lens gs)) := Lib.hid ⟨0, by omega, rfl, fun h => absurd h (by omega), hO3, HB3.out, HM3.out, HX3.out⟩
    clear hx hB3 hLN hO3
    go_wp2_with fail
    go_loopw [7] (fun i wr => ∃ k : Nat, k ≤ 4 ∧ i = .int .i64 k ∧ (0 < k → 0 < N) ∧ wr.ownsRow w.heap.size 2 1 (.slice (some ⟨M, 0, none⟩) 4 4) 4 (iv (lrK gs k)) ∧ Below w.heap.size w wr ∧ Below M w1 wr ∧ OwnsI wr w2.heap.size (.slice Ax N cx) (lens gs)) (fun i _ => 4 - (intOf i).toNat)
    case atStart => exact HST.out
    case round =>
      obtain ⟨k, hk, rfl, hkN, hown, hB, hBM, hx⟩ := hrel
      obtain ⟨wo, rfl⟩ : ∃ wo : World, wo = wr := ⟨_, rfl⟩
      have hcg := HCW.out wo hBM
      have HOW := Lib.hid hown
      have HBX := Lib.hid hB
      have HBM := Lib.hid hBM
      have HX := Lib.hid hx
      clear hown hB hBM hx
      by_cases hlt : k < 4
      · by_cases hN0 : 0 < N
        · obtain ⟨m, hm⟩ : ∃ m : Nat, N = m + 1 := ⟨N - 1, by omega⟩
          have HM := Lib.hid hm
          have m0 : (0 : Int) ≤ (m : Int) := by omega
          have m1 : (m : Int) < (N : Int) := by omega
          have k0 : (0 : Int) ≤ (k : Int) := by omega
          have k1 : (k : Int) < 4 := by omega
          have hsub : IntKind.i64.wrap ((N : Int) - 1) = (m : Int) := by rw [IntKind.wrap_i64]; omega
          have hNp : decide ((0 : Int) < (N : Int)) = true := decide_eq_true (by omega)
          have hNp2 : decide (0 < N) = true := decide_eq_true hN0
          have HL1 := Lib.hid (fun W hb hx => HLG.out W hb hx k hlt)
          have HLK : Hid (lrG k gs = (r3At k gs m).getD 2 0) := Lib.hid (by
            have := lrG_at (l := k) HOK.out (by have := HN.out; omega : 0 < gs.length)
            rw [this, show gs.length - 1 = m from by have := HN.out; omega])
          have HNN : Hid (0 < N) := Lib.hid hN0
          clear hm hkN hN0
          go_upto_region 8 with fail
          go_region_with
            (first
              | (go_at_call 66
                 refine (HL1.out _ (by first | exact HBM.out | exact HBM.out.drew | exact below_drewN HBM.out _) (by first | exact HX.out | exact own_drewN HX.out 1 | exact own_drewN HX.out _)).mono ?_
                 rintro e w6 ⟨y, rfl, hst⟩
                 obtain ⟨hown, hB⟩ := hst
                 have hB6 : Below wo.heap.size wo w6 := by have := below_undrew hB; simpa using this
                 obtain ⟨Ay, cy, rfl⟩ := own_slice hown
                 obtain ⟨gy, rfl, hgy, hgl⟩ := own_addr hown (show 0 < N by exact HNN.out)
                 obtain ⟨_, _, x2⟩ := lsSt_cells hown (show m < N by have := HM.out; omega)
                 rw [← HLK.out] at x2
                 have hM6 : M < wo.heap.size := (HOW.out.lt M rfl).2
                 have HO6 := Lib.hid (own_below HOW.out hB6 (Nat.le_refl _))
                 have o1 : w6.cell? ⟨M, k, none⟩ = some (.int .i64 ((lrK gs k).getD k 0)) := by rw [HO6.out.cellAt k (by omega)]; exact iv_at (by rw [lrK_len]; exact hlt)
                 have f1 : w6.frozen? ⟨M, k, none⟩ = false := HO6.out.frozenAt _
                 have hp6 := (hB6.cell (p := ⟨w.heap.size, 0, none⟩) (lt_of_cell hcg)).trans hcg
                 have HNX : Hid (∃ j : Nat, j ≤ 4 ∧ Value.int .i64 ((k : Int) + 1) = .int .i64 j ∧ (0 < j → 0 < N) ∧ (w6.setCell ⟨M, k, none⟩ (.int .i64 (lrG k gs))).ownsRow w.heap.size 2 1 (.slice (some ⟨M, 0, none⟩) 4 4) 4 (iv (lrK gs j)) ∧ Below w.heap.size w (w6.setCell ⟨M, k, none⟩ (.int .i64 (lrG k gs))) ∧ Below M w1 (w6.setCell ⟨M, k, none⟩ (.int .i64 (lrG k gs))) ∧ OwnsI (w6.setCell ⟨M, k, none⟩ (.int .i64 (lrG k gs))) w2.heap.size (.slice Ax N cx) (lens gs)) := Lib.hid
                   ⟨k + 1, by omega, by go_num, fun _ => HNN.out, by rw [lrK]; exact u_store HO6.out k (lrG k gs), (HBX.out.trans (hB6.mono HBX.out.size)).setCell (by simp only; omega) _, (HBM.out.trans (hB6.mono (by omega))).setCell (Nat.le_refl _) _, own_setLow (own_below HX.out hB6 (Nat.le_refl _)) _ _ (by simp only; omega)⟩
                 clear hown hB hB6 hM6 hgy))
          all_goals
            go_wp2_with fail
            go_roundw
            all_goals first | exact HNX.out | ((repeat apply Exists.intro); exact ⟨HNX.out, rfl⟩) | (simp [intOf]; done) | (simp [intOf]; omega) | omega
        · obtain rfl : k = 0 := by omega
          have hN00 : N = 0 := by omega
          have hNp : decide ((0 : Int) < (N : Int)) = false := decide_eq_false (by omega)
          have hNp2 : decide (0 < N) = false := decide_eq_false hN0
          have HE : Hid (lrK gs 4 = lrK gs 0) := Lib.hid (by rw [lrK_nil (by have := HN.out; omega) 4 (by omega)]; rfl)
          clear hN00 hN0
          go_wp2_with fail
          go_ret2
          exact ⟨.slice (some ⟨M, 0, none⟩) 4 4, by rw [HI.out]; rfl, by rw [HI.out]; unfold OwnsI; show World.ownsRow _ _ _ _ _ (lrK gs 4).length (iv (lrK gs 4)); rw [lrK_len, HE.out]; exact HOW.out, HBX.out⟩
      · obtain rfl : k = 4 := by omega
        go_wp2_with fail
        go_ret2
        exact ⟨.slice (some ⟨M, 0, none⟩) 4 4, by rw [HI.out]; rfl, by rw [HI.out]; unfold OwnsI; show World.ownsRow _ _ _ _ _ (lrK gs 4).length (iv (lrK gs 4)); rw [lrK_len]; exact HOW.out, HBX.out⟩
end Go.Proofs.Ytcaeihdfljljbaa
