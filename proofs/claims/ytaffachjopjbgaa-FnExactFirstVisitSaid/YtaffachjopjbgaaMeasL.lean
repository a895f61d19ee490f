/-
  The walk of the closure of impl.measured at a pair, its join being that of impl.validLengths.
-/
import Derived.Test.YtaffachjopjbgaaMeas
namespace Go.Proofs.Ytaffachjopjbgaa.len
open Go.RowKit
open Wd
set_option linter.unusedVariables false

/-- the join of lengths -/
abbrev joinV : Value := .func (.func 211) #[] #[]

set_option maxRecDepth 100000 in
set_option maxHeartbeats 6400000 in
/-- a pair, out of its two rules -/
theorem meas_pair (B bm br bj bf M : Nat) (gs : List Rl) (V : Nat → Int) (k a b : Nat) (w : World) (hk : k < gs.length) (hn : gs.length ≤ 1048576) (hI : MInv B bm br bj bf M joinV gs V w)
    (h0 : gs[k].L.size = 0) (ha : gs[k].l = a) (hb : gs[k].r = b) (hak : a < k) (hbk : b < k)
    (hz : w.cell? ⟨M, k, none⟩ = some (.int .i64 0))
    (hA : ∀ W, MInv B bm br bj bf M joinV gs V W → MeasCalls B bm br bj bf M joinV gs V a W)
    (hB : ∀ W, MInv B bm br bj bf M joinV gs V W → MeasCalls B bm br bj bf M joinV gs V b W)
    (hJ : ∀ W, Calls Try.prog 211 #[.int .i64 (V a), .int .i64 (V b)] W fun e w' => e = .returned (.int .i64 (V k)) ∧ W = w') :
    MeasCalls B bm br bj bf M joinV gs V k w := by
  have hst := hI.1
  have hm1 := hst.m
  obtain ⟨v, hv, A, c, rfl, hr⟩ := hst.r
  rcases hr with hr | ⟨g, rfl, hg, hcc⟩
  · rw [hr] at hk; simp at hk
  obtain ⟨a0, a1, a2⟩ := rules_cells hcc hk
  have HK := Lib.hid (fun W => kind_pair gs[k] h0 W)
  have he := empty_arr h0
  rw [ha] at a1
  rw [hb] at a2
  have HX := Lib.hid (show agg3 gs[k] = .agg #[.string ⟨#[]⟩, .int .i64 a, .int .i64 b] by unfold agg3; rw [he, ha, hb])
  have HTP := ta_pp
  have HTL := ta_pl
  obtain ⟨n, hng⟩ : ∃ n, n = gs.length := ⟨_, rfl⟩
  have HN := Lib.hid hng
  have hkn : k < n := by omega
  rw [← hng] at hm1 hv hn
  rw [he] at a0
  rw [HX.out] at HK
  have HI := Lib.hid hI
  have HA := Lib.hid hA
  have HB := Lib.hid hB
  have HJ := Lib.hid hJ
  have HS := Lib.hid hst
  clear hng hcc ha hb he hI hst hA hB hJ
  go_enter Try.func226, Try.ntmps226
  go_wp2_with fail
  refine (HK.out _).mono ?_
  rintro e w1 ⟨rfl, hB1⟩
  have HI1 := Lib.hid (HI.out.below hB1)
  have hm2 := HI1.out.1.m
  rw [← HN.out] at hm2
  have hj2 := HI1.out.1.j
  have hf2 := HI1.out.1.f
  have l1 := lt_of_cell hm2
  have l2 := lt_of_cell hj2
  have l3 := lt_of_cell hf2
  clear a0 a1 a2 hv hm1 hz
  go_wp2_with fail
  have hB2 := hB1.alloc hB1.size (.cells #[.string ⟨#[]⟩, .int .i64 a, .int .i64 b] 198)
  have HI2 := Lib.hid (HI.out.below hB2)
  obtain ⟨K, hKe⟩ : ∃ K, K = w1.heap.size := ⟨_, rfl⟩
  have c1 : (w1.alloc (.cells #[.string ⟨#[]⟩, .int .i64 a, .int .i64 b] 198)).cell? ⟨K, 1, none⟩ = some (.int .i64 a) := by rw [hKe, cell_of_row _ _ _ _ _ _ (heap_alloc_new w1 _)]; rfl
  have c2 : (w1.alloc (.cells #[.string ⟨#[]⟩, .int .i64 a, .int .i64 b] 198)).cell? ⟨K, 2, none⟩ = some (.int .i64 b) := by rw [hKe, cell_of_row _ _ _ _ _ _ (heap_alloc_new w1 _)]; rfl
  have hKM : K ≠ M := by
    obtain ⟨z, hz⟩ := (HI1.out.slot hk).1
    have := lt_of_cell hz
    simp only at this
    omega
  rw [← hKe]
  generalize w1.alloc (.cells #[.string ⟨#[]⟩, .int .i64 a, .int .i64 b] 198) = w2 at *
  have HH := Lib.hid (fun w' (h : MInv B bm br bj bf M joinV gs V w') (hg : w2.grownBy w' (some M)) => h.held hg HN.out hKM c1 c2)
  have HS2 := Lib.hid (HH.out _ HI2.out (World.grownBy.refl _ _))
  clear hm2 hj2 hf2 l1 l2 l3 hKe
  obtain ⟨t1, t2, t3, t4, t5⟩ := HS2.out
  clear c1 c2
  go_region_held3 (fun w' => w'.cell? ⟨bm, 0, none⟩ = some (.slice (some ⟨M, 0, none⟩) n n) ∧ w'.cell? ⟨bj, 0, none⟩ = some (.func (.func 211) #[] #[]) ∧ w'.cell? ⟨bf, 0, none⟩ = some (measV bm br bj bf) ∧ w'.cell? ⟨K, 1, none⟩ = some (.int .i64 a) ∧ w'.cell? ⟨K, 2, none⟩ = some (.int .i64 b))
    (first | go_keep | exact hSA | exact hSB | exact HSC.out)
    (first
      | (go_at_call_of 226 (Value.int .i64 a); refine (HA.out _ (HI2.out.drewN _)).mono ?_; rintro e wA ⟨rfl, hIA, hgA⟩; have hSA := HH.out _ hIA (grownBy_undrew hgA))
      | (go_at_call_of 226 (Value.int .i64 b); refine (HB.out _ hIA).mono ?_; rintro e wB ⟨rfl, hIB, hgB⟩; have hSB := HH.out _ hIB (gbTrans (grownBy_undrew hgA) hgB); obtain ⟨⟨zB, hzB⟩, hfB⟩ := hIB.slot hk; have hstB := Lib.hid (hIB.store (k := k)); have hgB2 := Lib.hid (gbTrans (gbTrans (grownBy_undrew hgA) hgB) hstB.out.2); have HSC := Lib.hid (HH.out _ hstB.out.1 hgB2.out))
      | (go_at_call 211; refine (HJ.out _).mono ?_; rintro e wJ ⟨rfl, rfl⟩))
  have q1 := HSC.out.1
  have q2 : (wB.setCell ⟨M, k, none⟩ (.int .i64 (V k))).cell? ⟨M, k, none⟩ = some (.int .i64 (V k)) := World.cell?_setCell_same _ _ _ hzB
  have HF := Lib.hid (gbTrans (gbOf hB2 (some M)) hgB2.out)
  clear hSA hSB t1 t2 t3 t4 t5 hzB hfB hgA hgB hIA hIB
  go_wp2_with fail
  go_ret
  exact ⟨rfl, hstB.out.1, HF.out⟩

theorem join_any (a b : Int) (w : World) (h1 : 1 ≤ a) (h2 : a ≤ 1000000000000000) (h3 : 1 ≤ b) (h4 : b ≤ 1000000000000000) :
    Calls Try.prog 211 #[.int .i64 a, .int .i64 b] w fun e w' => e = .returned (.int .i64 (a + b)) ∧ w = w' := by
  go_enter Try.func211, Try.ntmps211
  go_wp2
  go_ret
  exact ⟨rfl, rfl⟩

/-- the length of a word, out of those below -/
def lenV (gs : List Rl) (j : Nat) : Int := (lens gs).getD j 0
theorem meas_any (B bm br bj bf M : Nat) (gs : List Rl) (hn : gs.length ≤ 1048576) : ∀ m k, k < m → (hk : k < gs.length) → UpTo gs k → gs[k].ok k = true → ∀ W, MInv B bm br bj bf M joinV gs (lenV gs) W → MeasCalls B bm br bj bf M joinV gs (lenV gs) k W
  | 0, k, hm, _, _, _, _, _ => by omega
  | m + 1, k, hm, hk, hu, hok, W, hI => by
    have hpos : 1 ≤ lenV gs k := lens_pos hk fun j hj hjk => by
      by_cases e : j = k
      · subst e; exact hok
      · exact (hu j hj (by omega)).1
    obtain ⟨hst, mem, hl, hmem, hown⟩ := hI
    rcases hmem k (by omega) with h2 | h2
    · by_cases h0 : gs[k].L.size = 0
      · obtain ⟨a, b, ha, hb, hak, hbk, hsum, pa1, pa2, pb1, pb2⟩ := lens_next hk hu hok h0
        have hz : W.cell? ⟨M, k, none⟩ = some (.int .i64 0) := by rw [hown.cellAt k (by omega), iv_at (by omega), h2]
        refine meas_pair B bm br bj bf M gs (lenV gs) k a b W hk hn ⟨hst, mem, hl, hmem, hown⟩ h0 ha hb hak hbk hz ?_ ?_ ?_
        · exact fun W' hI' => meas_any B bm br bj bf M gs hn m a (by omega) (by omega) (fun j hj hja => hu j hj (by omega)) (hu a (by omega) hak).1 W' hI'
        · exact fun W' hI' => meas_any B bm br bj bf M gs hn m b (by omega) (by omega) (fun j hj hjb => hu j hj (by omega)) (hu b (by omega) hbk).1 W' hI'
        · intro W'
          have := join_any (lenV gs a) (lenV gs b) W' pa1 pa2 pb1 pb2
          rw [← show lenV gs k = lenV gs a + lenV gs b from hsum] at this
          exact this
      · exact (meas_letter B bm br bj bf M joinV gs (lenV gs) k W hk hn hst mem hl hmem hown (vals_letter _ gs k hk h0) h2 h0).mono fun e w' h => h.inv hst
    · exact (meas_known B bm br bj bf M joinV gs (lenV gs) k W hk hn hst mem hl hmem hown (by omega) h2).mono fun e w' h => h.inv hst
end Go.Proofs.Ytaffachjopjbgaa.len
