/-
  Walks: impl.factorLength, factorFits, validFactorsLength.
-/
import Derived.Test.YtcaeihdfljljbaaDoorFacM
import Derived.Test.YtcaeihdfljljbaaDoorGramSpec
namespace Go.Proofs.YtcaeihdfljljbaaDoor
open Go.RowKit
open Wd
set_option linter.unusedVariables false

theorem factorLength_any (x : Rl) (w : World) :
    Calls Tryd.prog 92 #[agg3 x] w fun e w' => e = .returned (.int .i64 (facLn x)) ∧ Below w.heap.size w w' := by
  obtain ⟨L, l, r⟩ := x
  unfold facLn
  simp only
  by_cases h0 : L.size = 0
  · rw [if_pos h0]
    obtain rfl := empty_arr h0
    clear h0
    go_enter Tryd.func92, Tryd.ntmps92
    go_wp2
    go_ret
    exact ⟨rfl, (Below.refl _ _).alloc (Nat.le_refl _) _⟩
  · rw [if_neg h0]
    have h1 := full_list h0
    clear h0
    go_enter Tryd.func92, Tryd.ntmps92
    go_wp2
    go_ret
    exact ⟨rfl, (Below.refl _ _).alloc (Nat.le_refl _) _⟩
theorem factorFits_any (x : Rl) (n : Int) (w : World) (hx : -9223372036854775808 ≤ x.l ∧ x.l ≤ 9223372036854775807) (hn : 0 ≤ n ∧ n ≤ 1000000000000000) :
    Calls Tryd.prog 91 #[agg3 x, .int .i64 n] w fun e w' => e = .returned (.bool (facFits x n)) ∧ Below w.heap.size w w' := by
  obtain ⟨L, l, r⟩ := x
  unfold facFits
  simp only at hx ⊢
  by_cases h0 : L.size = 0
  · rw [if_pos h0]
    obtain rfl := empty_arr h0
    clear h0
    by_cases hl : 0 ≤ l
    · have hw : IntKind.i64.wrap (n - l) = n - l := IntWalk.i64_in _ (by omega)
      by_cases hr : 1 ≤ r
      · by_cases hq : r ≤ n - l
        all_goals
          go_enter Tryd.func91, Tryd.ntmps91
          go_wp2
          go_ret
          exact ⟨ret_bool (by rw [Bool.eq_iff_iff]; simp; omega), (Below.refl _ _).alloc (Nat.le_refl _) _⟩
      · go_enter Tryd.func91, Tryd.ntmps91
        go_wp2
        go_ret
        exact ⟨ret_bool (by rw [Bool.eq_iff_iff]; simp; omega), (Below.refl _ _).alloc (Nat.le_refl _) _⟩
    · go_enter Tryd.func91, Tryd.ntmps91
      go_wp2
      go_ret
      exact ⟨ret_bool (by rw [Bool.eq_iff_iff]; simp; omega), (Below.refl _ _).alloc (Nat.le_refl _) _⟩
  · rw [if_neg h0]
    have h1 := full_list h0
    have c1 := fun W => isLetter_any L h0 W
    have hb : isL L = (decide (L.size = 1) && okL L.data.toList) := rfl
    rw [hb]
    generalize (decide (L.size = 1) && okL L.data.toList) = b at c1
    have C1 := Lib.hid c1
    clear h0 c1 hb
    cases b
    all_goals
      go_enter Tryd.func91, Tryd.ntmps91
      go_wp2_with (go_at_call 112; refine (C1.out _).mono ?_; rintro e w' ⟨rfl, rfl⟩)
      all_goals (go_ret; refine ⟨ret_bool ?_, (Below.refl _ _).alloc (Nat.le_refl _) _⟩; first | (simp; done) | (rw [Bool.eq_iff_iff]; simp; done) | (rw [Bool.eq_iff_iff]; simp; omega))

/-- between two factors -/
def FvRel (gs : List Rl) (w : World) (R : Option Int) (nv iv' : Value) (wr : World) : Prop :=
  ∃ (k : Nat) (n : Int), k ≤ gs.length ∧ iv' = .int .i64 k ∧ nv = .int .i64 n ∧ 0 ≤ n ∧ n ≤ 1000000000000000 ∧ facF (gs.drop k) n = R ∧ Below w.heap.size w wr
set_option maxRecDepth 100000 in
set_option maxHeartbeats 3200000 in
theorem vfl_any (v : Value) (gs : List Rl) (w : World) (hf : FewR gs) (hr : Rules w v gs) (hw : WfF gs) :
    Calls Tryd.prog 66 #[v] w fun e w' => e = .returned (.tuple #[.int .i64 (facN gs), .bool (facOk gs)]) ∧ Below w.heap.size w w' := by
  have hn := hf.len
  obtain ⟨A, c, rfl, hr⟩ := hr
  obtain ⟨n, hng⟩ : ∃ n, n = gs.length := ⟨_, rfl⟩
  rw [← hng] at hn ⊢
  have HN := Lib.hid hng
  have HR := Lib.hid hr
  have HW := Lib.hid hw
  by_cases hlong : 120 < n
  · obtain ⟨e1, e2⟩ := fac_no (facR_long (gs := gs) (by omega))
    rw [e1, e2]
    clear hr hw hng e1 e2
    go_enter Tryd.func66, Tryd.ntmps66
    go_wp2
    go_ret2
    exact ⟨rfl, Below.refl _ _⟩
  · obtain ⟨R, hR⟩ : ∃ R, R = facR gs := ⟨_, rfl⟩
    have hR0 : facF (gs.drop 0) 0 = R := by rw [hR, facR_short (by omega)]
    have HNO := Lib.hid (fun (h : R = none) => fac_no (gs := gs) (hR ▸ h))
    have HYES := Lib.hid (fun m (h : R = some m) => fac_yes (gs := gs) (n := m) (hR ▸ h))
    have HR0 := Lib.hid hR0
    generalize facOk gs = ok at *
    generalize facN gs = N at *
    clear hr hw hng hR hR0
    go_enter Tryd.func66, Tryd.ntmps66
    go_wp2
    go_loopw [4, 6, 12] (fun nv _ iv' wr => FvRel gs w R nv iv' wr) (fun _ _ i _ => n - (intOf i).toNat)
    case atStart => exact ⟨0, 0, Nat.zero_le _, rfl, rfl, by omega, by omega, HR0.out, Below.refl _ _⟩
    case round =>
      obtain ⟨k, m, hk, rfl, rfl, hm0, hm1, hF, hB⟩ := hrel
      obtain ⟨wo, rfl⟩ : ∃ wo : World, wo = wr := ⟨_, rfl⟩
      by_cases hlt : k < n
      · have hkg : k < gs.length := by rw [← HN.out]; exact hlt
        rcases HR.out with h | ⟨g, rfl, hg, hc⟩
        · rw [h] at hkg; simp at hkg
        obtain ⟨a0, a1, a2⟩ := rules_cells hc hkg
        rw [← hB.cell (p := ⟨g, k * 3, none⟩) hg] at a0
        rw [← hB.cell (p := ⟨g, k * 3 + 1, none⟩) hg] at a1
        rw [← hB.cell (p := ⟨g, k * 3 + 2, none⟩) hg] at a2
        rw [facF_drop m hkg] at hF
        have HFI := Lib.hid (fun W => factorFits_any gs[k] m W (HW.out k hkg).1 ⟨hm0, hm1⟩)
        have HFL := Lib.hid (fun W => factorLength_any gs[k] W)
        have HBD := Lib.hid (fun (h : facFits gs[k] m = true) => facLn_bd h hm0)
        have HB := Lib.hid hB
        have hbs := hB.size
        have t1 : (0 : Int) ≤ (k : Int) := by omega
        have t2 : (k : Int) < (n : Int) := by omega
        clear hc hB hk
        cases hfit : facFits gs[k] m
        · rw [hfit] at HFI hF
          rw [if_neg (by decide)] at hF
          obtain ⟨e1, e2⟩ := HNO.out hF.symm
          have HE := Lib.hid (And.intro e1 e2)
          clear hF hfit e1 e2
          go_wp2_with fail
          refine (HFI.out _).mono ?_
          rintro e w1 ⟨rfl, hB1⟩
          have HB1 := Lib.hid ((HB.out.alloc hbs _).trans (hB1.mono (by simp; omega)))
          clear hB1
          go_wp2_with fail
          go_ret2
          exact ⟨by rw [HE.out.1, HE.out.2]; rfl, HB1.out⟩
        · rw [hfit] at HFI hF
          rw [if_pos rfl] at hF
          obtain ⟨b1, b2⟩ := HBD.out hfit
          obtain ⟨q, hq⟩ : ∃ q, q = facLn gs[k] := ⟨_, rfl⟩
          rw [← hq] at HFL hF b1 b2
          have hwr : IntKind.i64.wrap (m + q) = m + q := IntWalk.i64_in _ (by omega)
          have hwB := (Below.refl wo.heap.size wo).alloc (Nat.le_refl _) (.cells #[.string gs[k].L, .int .i64 gs[k].l, .int .i64 gs[k].r] 74)
          have hX0 := heap_alloc_new wo (.cells #[.string gs[k].L, .int .i64 gs[k].l, .int .i64 gs[k].r] 74)
          have x0 : (wo.alloc (.cells #[.string gs[k].L, .int .i64 gs[k].l, .int .i64 gs[k].r] 74)).cell? ⟨wo.heap.size, 0, none⟩ = some (.string gs[k].L) := by rw [cell_of_row _ _ _ _ _ _ hX0]; rfl
          have x1 : (wo.alloc (.cells #[.string gs[k].L, .int .i64 gs[k].l, .int .i64 gs[k].r] 74)).cell? ⟨wo.heap.size, 1, none⟩ = some (.int .i64 gs[k].l) := by rw [cell_of_row _ _ _ _ _ _ hX0]; rfl
          have x2 : (wo.alloc (.cells #[.string gs[k].L, .int .i64 gs[k].l, .int .i64 gs[k].r] 74)).cell? ⟨wo.heap.size, 2, none⟩ = some (.int .i64 gs[k].r) := by rw [cell_of_row _ _ _ _ _ _ hX0]; rfl
          have HX := Lib.hid (And.intro x0 (And.intro x1 x2))
          have HQ := Lib.hid hq
          clear hfit hq hwB hX0 x0 x1 x2
          go_wp2_with fail
          refine (HFI.out _).mono ?_
          rintro e w1 ⟨rfl, hB1⟩
          have HB1 := Lib.hid ((HB.out.alloc hbs _).trans (hB1.mono (by simp; omega)))
          have c0 := (hB1.cell (p := ⟨wo.heap.size, 0, none⟩) (by simp)).trans HX.out.1
          have c1 := (hB1.cell (p := ⟨wo.heap.size, 1, none⟩) (by simp)).trans HX.out.2.1
          have c2 := (hB1.cell (p := ⟨wo.heap.size, 2, none⟩) (by simp)).trans HX.out.2.2
          clear hB1
          go_wp2_with fail
          refine (HFL.out _).mono ?_
          rintro e w2 ⟨rfl, hB2⟩
          have HB2 := Lib.hid (HB1.out.trans (hB2.mono HB1.out.size))
          clear hB2 c0 c1 c2
          by_cases hbig : 1000000000000000 < m + q
          · rw [if_neg (by omega)] at hF
            obtain ⟨e1, e2⟩ := HNO.out hF.symm
            have HE := Lib.hid (And.intro e1 e2)
            clear hF e1 e2
            go_wp2_with fail
            go_ret2
            exact ⟨by rw [HE.out.1, HE.out.2]; rfl, HB2.out⟩
          · rw [if_pos (by omega)] at hF
            have HST : Hid (FvRel gs w R (.int .i64 (m + q)) (.int .i64 ((k + 1 : Nat) : Int)) w2) := Lib.hid ⟨k + 1, m + q, by omega, rfl, rfl, by omega, by omega, hF, HB2.out⟩
            clear hF
            go_wp2_with fail
            go_roundw
            all_goals first | exact HST.out | ((repeat apply Exists.intro); exact ⟨HST.out, rfl⟩) | (simp [intOf]; done) | (simp [intOf]; omega) | omega
      · have hkn : k = n := by have := HN.out; omega
        rw [facF_end m (by rw [← HN.out]; omega)] at hF
        obtain ⟨e1, e2⟩ := HYES.out m hF.symm
        have HE := Lib.hid (And.intro e1 e2)
        clear hF e1 e2
        go_wp2
        go_ret2
        exact ⟨by rw [HE.out.1, HE.out.2]; rfl, hB⟩
end Go.Proofs.YtcaeihdfljljbaaDoor
