/-
  Walks: spec.l08Ok, spec.ValidDepot; slices.IndexFunc, slices.ContainsFunc over grammars, impl.ValidDepot.
-/
import Derived.Test.YtcaeihdfljljbaaDpB
import Derived.Test.YtcaeihdfljljbaaDdM
import Derived.Test.YtcaeihdfljljbaaGOo
import Derived.Test.YtcaeihdfljljbaaGValid
import Derived.Laws.EntriesVeiled
namespace Go.Proofs.Ytcaeihdfljljbaa
open Go.RowKit
open Wd
set_option linter.unusedVariables false
theorem dp_all {gss : List (List Rl)} (h : ∀ j (hj : j < gss.length), gOk gss[j] = true) : gss.all gOk = true := by
  rw [List.all_eq_true]
  intro r hr
  obtain ⟨j, hj, e⟩ := List.getElem_of_mem hr
  rw [← e]
  exact h j hj
theorem dp_not {gss : List (List Rl)} {k : Nat} (hk : k < gss.length) (h : gOk gss[k] = false) : gss.all gOk = false := by
  rw [List.all_eq_false]
  exact ⟨gss[k], List.getElem_mem hk, by simp [h]⟩
set_option maxRecDepth 100000 in
set_option maxHeartbeats 6400000 in
theorem l08Ok_any (pb : Nat) (x : Dp) (v : Value) (w : World) (hP : w.heap[pb]? = some (.cells #[.int .i64 x.sv, .int .i64 x.nm, v] 35 (0, 0))) (hv : IsGs w v x.gss) (hf : FewD x) :
    Calls Try.prog 57 #[.pointer (some ⟨pb, 0, none⟩)] w fun e w' => e = .returned (.bool (dpOk x)) ∧ Below w.heap.size w w' := by
  obtain ⟨sv, nm, gss⟩ := x
  obtain ⟨hf1, hf2⟩ := hf
  simp only at hP hv hf1 hf2
  have HIS := Lib.hid (fun W => inD_any sv 1 4 W)
  have HIN := Lib.hid (fun W => inD_any nm 1 4 W)
  have HPB : Hid (pb < w.heap.size) := Lib.hid (by
    rcases Nat.lt_or_ge pb w.heap.size with h | h
    · exact h
    · rw [Array.getElem?_eq_none h] at hP; cases hP)
  have HP := Lib.hid hP
  have HF2 := Lib.hid hf2
  obtain ⟨A, c, rfl, hin⟩ := hv
  have HI := Lib.hid hin
  obtain ⟨R, hR⟩ : ∃ R, R = dpOk ⟨sv, nm, gss⟩ := ⟨_, rfl⟩
  rw [← hR]
  unfold dpOk at hR
  simp only at hR
  obtain ⟨n, hn⟩ : ∃ n, n = gss.length := ⟨_, rfl⟩
  rw [← hn] at hf1 hR HP hP
  have HN := Lib.hid hn
  obtain ⟨⟨p0, p1, p2⟩, _⟩ := pd_cells hP
  clear hin hn hP hf2
  by_cases h1 : 1 ≤ sv ∧ sv ≤ 4
  case neg =>
    rw [decide_eq_false h1, Bool.false_and] at hR
    rw [decide_eq_false h1] at HIS
    subst hR
    clear h1
    go_enter Try.func57, Try.ntmps57
    go_wp2_with fail
    refine (HIS.out _).mono ?_
    rintro e w1 ⟨rfl, rfl⟩
    go_wp2_with fail
    go_ret
    exact ⟨rfl, Below.refl _ _⟩
  rw [decide_eq_true h1, Bool.true_and] at hR
  rw [decide_eq_true h1] at HIS
  clear h1
  by_cases h2 : 1 ≤ nm ∧ nm ≤ 4
  case neg =>
    rw [decide_eq_false h2, Bool.false_and] at hR
    rw [decide_eq_false h2] at HIN
    subst hR
    clear h2
    go_enter Try.func57, Try.ntmps57
    go_wp2_with fail
    refine (HIS.out _).mono ?_
    rintro e w1 ⟨rfl, rfl⟩
    go_wp2_with fail
    refine (HIN.out _).mono ?_
    rintro e w1 ⟨rfl, rfl⟩
    go_wp2_with fail
    go_ret
    exact ⟨rfl, Below.refl _ _⟩
  rw [decide_eq_true h2, Bool.true_and] at hR
  rw [decide_eq_true h2] at HIN
  clear h2
  by_cases h3 : n ≤ 8
  case neg =>
    rw [decide_eq_false h3, Bool.false_and] at hR
    subst hR
    have h8 : decide ((8 : Int) < (n : Int)) = true := decide_eq_true (by omega)
    have h8' : decide (8 < n) = true := decide_eq_true (by omega)
    clear h3
    go_enter Try.func57, Try.ntmps57
    go_wp2_with fail
    refine (HIS.out _).mono ?_
    rintro e w1 ⟨rfl, rfl⟩
    go_wp2_with fail
    refine (HIN.out _).mono ?_
    rintro e w1 ⟨rfl, rfl⟩
    go_wp2_with fail
    go_ret
    exact ⟨rfl, Below.refl _ _⟩
  rw [decide_eq_true h3, Bool.true_and] at hR
  have HR := Lib.hid hR
  have h8 : decide ((8 : Int) < (n : Int)) = false := decide_eq_false (by omega)
  have h8' : decide (8 < n) = false := decide_eq_false (by omega)
  clear hR h3
  go_enter Try.func57, Try.ntmps57
  go_wp2_with fail
  refine (HIS.out _).mono ?_
  rintro e w1 ⟨rfl, hw1⟩
  obtain rfl := hw1.symm
  go_wp2_with fail
  refine (HIN.out _).mono ?_
  rintro e w1 ⟨rfl, hw1⟩
  obtain rfl := hw1.symm
  go_wp2_with fail
  go_loopw [3] (fun i wr => ∃ k : Nat, k ≤ n ∧ i = .int .i64 k ∧ (∀ j (hj : j < gss.length), j < k → gOk gss[j] = true) ∧ Below w.heap.size w wr) (fun i _ => n - (intOf i).toNat)
  case atStart => exact ⟨0, Nat.zero_le _, rfl, fun j hj h => by omega, Below.refl _ _⟩
  case round =>
    obtain ⟨k, hk, rfl, hall, hB⟩ := hrel
    obtain ⟨wo, rfl⟩ : ∃ wo : World, wo = wr := ⟨_, rfl⟩
    clear p0 p1 p2
    have hPo := (hB.block pb HPB.out).trans HP.out
    obtain ⟨⟨p0, p1, p2⟩, _⟩ := pd_cells hPo
    have HB := Lib.hid hB
    have HA := Lib.hid hall
    clear hPo hB hall
    by_cases hlt : k < n
    · have hkg : k < gss.length := by rw [← HN.out]; exact hlt
      rcases HI.out with hn | ⟨g, rfl, hc⟩
      · rw [hn] at hkg; simp at hkg
      obtain ⟨u, c0, hu⟩ := hc k hkg
      have d0 := (HB.out.cell (lt_of_cell c0)).trans c0
      have k0 : (0 : Int) ≤ (k : Int) := by omega
      have k1 : (k : Int) < (n : Int) := by omega
      have HOK := Lib.hid (l02OkO_any g k gss[k] wo (HF2.out _ (List.getElem_mem hkg)) ⟨u, d0, hu.kept HB.out |> fun h => by exact h⟩)
      cases hok : gOk gss[k]
      · rw [hok] at HOK
        have HNO := Lib.hid (dp_not hkg hok)
        clear hok hc c0 d0 hu
        go_wp2_with fail
        refine HOK.out.mono ?_
        rintro e w2 ⟨rfl, hB2⟩
        have HB2 := Lib.hid (HB.out.trans (hB2.mono HB.out.size))
        clear hB2
        go_wp2_with fail
        go_ret
        exact ⟨by rw [HR.out, HNO.out]; rfl, HB2.out⟩
      · rw [hok] at HOK
        have HNX : Hid (∀ j (hj : j < gss.length), j < k + 1 → gOk gss[j] = true) := Lib.hid (fun j hj hjk => by
          by_cases e : j = k
          · subst e; exact hok
          · exact HA.out j hj (by omega))
        clear hok hc c0 d0 hu
        go_wp2_with fail
        refine HOK.out.mono ?_
        rintro e w2 ⟨rfl, hB2⟩
        have HB2 := Lib.hid (HB.out.trans (hB2.mono HB.out.size))
        clear hB2
        go_wp2_with fail
        go_roundw
        all_goals first | exact ⟨k + 1, by omega, by go_num, HNX.out, HB2.out⟩ | ((repeat apply Exists.intro); exact ⟨⟨k + 1, by omega, by go_num, HNX.out, HB2.out⟩, rfl⟩) | (simp [intOf]; done) | (simp [intOf]; omega) | omega
    · obtain rfl : k = n := by omega
      have HY : Hid (gss.all gOk = true) := Lib.hid (dp_all (fun j hj => HA.out j hj (by have := HN.out; omega)))
      go_wp2_with fail
      go_ret
      exact ⟨by rw [HR.out, HY.out]; rfl, HB.out⟩
set_option maxHeartbeats 1600000 in
theorem specValidDepot (v : Value) (x : Dp) (w : World) (hf : FewD x) (h : IsDp w v x) :
    Calls Try.prog 15 #[v] w fun e w' => e = .returned (.bool (dpOk x)) ∧ Below w.heap.size w w' := by
  obtain ⟨u, rfl, hu⟩ := h
  have hb := (Below.refl _ w).alloc (Nat.le_refl _) (.cells #[.int .i64 x.sv, .int .i64 x.nm, u] 35)
  have HC := Lib.hid (l08Ok_any w.heap.size x u _ (heap_alloc_new w _) (hu.kept hb) hf)
  have HB := Lib.hid hb
  clear hu hb
  generalize dpOk x = R at *
  go_enter Try.func15, Try.ntmps15
  go_wp2_with fail
  refine HC.out.mono ?_
  rintro e w1 ⟨rfl, hB1⟩
  have HB1 := Lib.hid (HB.out.trans (hB1.mono HB.out.size))
  clear hB1
  go_wp2_with fail
  go_ret
  exact ⟨rfl, HB1.out⟩
theorem wrongD_any (u : Value) (gs : List Rl) (w : World) (hf : FewR gs) (hr : Rules w u gs) :
    Calls Try.prog 59 #[.agg #[u]] w fun e w' => e = .returned (.bool (!gOk gs)) ∧ Below w.heap.size w w' := by
  have hb := (Below.refl _ w).alloc (Nat.le_refl _) (.cells #[u] 48)
  have HC := Lib.hid (implValidGrammar u gs _ hf (hr.kept hb))
  obtain ⟨A, c, rfl, _⟩ := hr
  have HB := Lib.hid hb
  clear hb
  generalize gOk gs = R at *
  cases R
  all_goals
    go_enter Try.func59, Try.ntmps59
    go_wp2_with fail
    refine HC.out.mono ?_
    rintro e w1 ⟨rfl, hB1⟩
    have HB1 := Lib.hid (HB.out.trans (hB1.mono HB.out.size))
    clear hB1
    go_wp2_with fail
    go_ret
    exact ⟨rfl, HB1.out⟩
set_option maxRecDepth 100000 in
set_option maxHeartbeats 3200000 in
theorem indexD_any (v : Value) (gss : List (List Rl)) (w : World) (hl : gss.length ≤ 1048576) (ht : ∀ r ∈ gss, FewR r) (h : IsGs w v gss) :
    Calls Try.prog 119 #[v, .func (.func 59) #[] #[]] w fun e w' => ∃ y, e = .returned (.int .i64 y) ∧ Below w.heap.size w w' ∧ ((gss.all gOk = true ∧ y = -1) ∨ (gss.all gOk = false ∧ 0 ≤ y)) := by
  obtain ⟨A, c, rfl, hin⟩ := h
  have HI := Lib.hid hin
  obtain ⟨N, hN⟩ : ∃ N, N = gss.length := ⟨_, rfl⟩
  rw [← hN] at hl ⊢
  have HN := Lib.hid hN
  have HT := Lib.hid ht
  clear hin hN ht
  go_enter Try.func119, Try.ntmps119
  go_wp2_with fail
  go_loopw [8] (fun i wr => ∃ k : Nat, k ≤ N ∧ i = .int .i64 k ∧ (∀ j (hj : j < gss.length), j < k → gOk gss[j] = true) ∧ Below w.heap.size w wr) (fun i _ => N - (intOf i).toNat)
  case atStart => exact ⟨0, Nat.zero_le _, rfl, fun j hj h => by omega, Below.refl _ _⟩
  case round =>
    obtain ⟨k, hk, rfl, hall, hB⟩ := hrel
    obtain ⟨wo, rfl⟩ : ∃ wo : World, wo = wr := ⟨_, rfl⟩
    have HA := Lib.hid hall
    have HB := Lib.hid hB
    clear hall hB
    by_cases hlt : k < N
    · have hkg : k < gss.length := by rw [← HN.out]; exact hlt
      rcases HI.out with hn | ⟨g, rfl, hc⟩
      · rw [hn] at hkg; simp at hkg
      obtain ⟨u, c0, hu⟩ := hc k hkg
      have d0 := (HB.out.cell (lt_of_cell c0)).trans c0
      have HW := Lib.hid (wrongD_any u gss[k] wo (HT.out _ (List.getElem_mem hkg)) (hu.kept HB.out |> fun h => by exact h))
      obtain ⟨A3, c3, rfl, _⟩ := id hu
      cases hok : gOk gss[k]
      · rw [hok] at HW
        have HNO := Lib.hid (dp_not hkg hok)
        clear hok hc c0 hu
        go_wp2_with fail
        refine HW.out.mono ?_
        rintro e w5 ⟨rfl, hB5⟩
        have HB5 := Lib.hid (HB.out.trans (hB5.mono HB.out.size))
        clear hB5
        go_wp2_with fail
        go_ret
        exact ⟨_, rfl, HB5.out, .inr ⟨HNO.out, by omega⟩⟩
      · rw [hok] at HW
        have HNX : Hid (∀ j (hj : j < gss.length), j < k + 1 → gOk gss[j] = true) := Lib.hid (fun j hj hjk => by
          by_cases e : j = k
          · subst e; exact hok
          · exact HA.out j hj (by omega))
        clear hok hc c0 hu
        go_wp2_with fail
        refine HW.out.mono ?_
        rintro e w5 ⟨rfl, hB5⟩
        have HB5 := Lib.hid (HB.out.trans (hB5.mono HB.out.size))
        clear hB5
        go_wp2_with fail
        go_roundw
        all_goals first | exact ⟨k + 1, by omega, by go_num, HNX.out, HB5.out⟩ | ((repeat apply Exists.intro); exact ⟨⟨k + 1, by omega, by go_num, HNX.out, HB5.out⟩, rfl⟩) | (simp [intOf]; done) | (simp [intOf]; omega) | omega
    · obtain rfl : k = N := by omega
      have HY : Hid (gss.all gOk = true) := Lib.hid (dp_all (fun j hj => HA.out j hj (by have := HN.out; omega)))
      go_wp2_with fail
      go_ret
      exact ⟨_, rfl, HB.out, .inl ⟨HY.out, rfl⟩⟩
theorem containsD_any (v : Value) (gss : List (List Rl)) (w : World) (hl : gss.length ≤ 1048576) (ht : ∀ r ∈ gss, FewR r) (h : IsGs w v gss) :
    Calls Try.prog 61 #[v, .func (.func 59) #[] #[]] w fun e w' => e = .returned (.bool (!gss.all gOk)) ∧ Below w.heap.size w w' := by
  have HX := Lib.hid (indexD_any v gss w hl ht h)
  obtain ⟨A, c, rfl, _⟩ := h
  clear ht
  go_enter Try.func61, Try.ntmps61
  go_wp2_with fail
  refine HX.out.mono ?_
  rintro e w5 ⟨y, rfl, hB5, ⟨ha, rfl⟩ | ⟨ha, hy⟩⟩
  · have HA := Lib.hid ha
    have HB5 := Lib.hid hB5
    clear ha hB5
    go_wp2_with fail
    go_ret
    exact ⟨by rw [HA.out] <;> rfl, HB5.out⟩
  · have HA := Lib.hid ha
    have HB5 := Lib.hid hB5
    have hd : decide (0 ≤ y) = true := decide_eq_true hy
    clear ha hB5
    go_wp2_with fail
    go_ret
    exact ⟨by rw [HA.out] <;> first | rfl | (simp; done) | simp [hd], HB5.out⟩
set_option maxRecDepth 100000 in
set_option maxHeartbeats 3200000 in
theorem implValidDepot (v : Value) (x : Dp) (w : World) (hf : FewD x) (h : IsDp w v x) :
    Calls Try.prog 17 #[v] w fun e w' => e = .returned (.bool (dpOk x)) ∧ Below w.heap.size w w' := by
  obtain ⟨u, rfl, hu⟩ := h
  obtain ⟨sv, nm, gss⟩ := x
  obtain ⟨hf1, hf2⟩ := hf
  simp only at hu hf1 hf2
  have hb := (Below.refl _ w).alloc (Nat.le_refl _) (.cells #[.int .i64 sv, .int .i64 nm, u] 35)
  have HC := Lib.hid (containsD_any u gss _ hf1 hf2 (hu.kept hb))
  have HB := Lib.hid hb
  obtain ⟨A, c, rfl, hin0⟩ := hu
  obtain ⟨R, hR⟩ : ∃ R, R = dpOk ⟨sv, nm, gss⟩ := ⟨_, rfl⟩
  rw [← hR]
  unfold dpOk at hR
  simp only at hR
  clear hin0 hf1 hf2 hb
  generalize gss.length = n at *
  generalize gss.all gOk = T at *
  have HYES : Hid (1 ≤ sv → sv ≤ 4 → 1 ≤ nm → nm ≤ 4 → n ≤ 8 → R = T) := Lib.hid (fun a b c d e => by rw [hR, decide_eq_true ⟨a, b⟩, decide_eq_true ⟨c, d⟩, decide_eq_true e]; rfl)
  have HNO : Hid (¬ ((1 ≤ sv ∧ sv ≤ 4) ∧ (1 ≤ nm ∧ nm ≤ 4) ∧ n ≤ 8) → R = false) := Lib.hid (fun h => by
    cases hRR : R with
    | false => rfl
    | true =>
      exfalso
      rw [hR] at hRR
      simp only [Bool.and_eq_true, decide_eq_true_iff] at hRR
      exact h ⟨hRR.1, hRR.2.1, hRR.2.2.1⟩)
  clear hR
  by_cases h8 : n ≤ 8
  · have h8a : decide ((n : Int) ≤ 8) = true := decide_eq_true (by omega)
    have h8b : decide (n ≤ 8) = true := decide_eq_true h8
    by_cases hin : (1 ≤ sv ∧ sv ≤ 4) ∧ (1 ≤ nm ∧ nm ≤ 4)
    · have a1 : decide (sv < 1) = false := decide_eq_false (by omega)
      have a2 : decide (4 < sv) = false := decide_eq_false (by omega)
      have a3 : decide (nm < 1) = false := decide_eq_false (by omega)
      have a4 : decide (4 < nm) = false := decide_eq_false (by omega)
      have HY := Lib.hid (HYES.out hin.1.1 hin.1.2 hin.2.1 hin.2.2 h8)
      clear hin
      cases T
      all_goals
        go_enter Try.func17, Try.ntmps17
        go_wp2_with fail
        refine HC.out.mono ?_
        rintro e w5 ⟨rfl, hB5⟩
        have HB5 := Lib.hid (HB.out.trans (hB5.mono HB.out.size))
        clear hB5
        go_wp2_with fail
        go_ret
        exact ⟨by rw [HY.out] <;> rfl, HB5.out⟩
    · go_enter Try.func17, Try.ntmps17
      go_wp2_with fail
      all_goals first
        | (exfalso; omega)
        | (go_ret; exact ⟨by rw [HNO.out (by omega)] <;> rfl, HB.out⟩)
  · have h8a : decide ((n : Int) ≤ 8) = false := decide_eq_false (by omega)
    have h8b : decide (n ≤ 8) = false := decide_eq_false h8
    have HY := Lib.hid (HNO.out (by omega))
    go_enter Try.func17, Try.ntmps17
    go_wp2_with fail
    all_goals
      go_ret
      exact ⟨by rw [HY.out] <;> rfl, HB.out⟩
end Go.Proofs.Ytcaeihdfljljbaa
