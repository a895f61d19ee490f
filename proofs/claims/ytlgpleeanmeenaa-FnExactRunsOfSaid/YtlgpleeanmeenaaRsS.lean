/-
  Walks: spec.l01Runs, spec.RunsOf.
-/
import Derived.Test.YtlgpleeanmeenaaRsM
import Derived.Test.YtlgpleeanmeenaaOk
import Derived.OwnWalk
import Derived.Deep.QuietTactic
import Derived.BigQuiet
namespace Go.Proofs.Ytlgpleeanmeenaa
open Go.RowKit
open Wd
set_option linter.unusedVariables false
set_option maxRecDepth 100000 in
set_option maxHeartbeats 6400000 in
theorem l01Runs_any (s : ByteArray) (w : World) (hs : s.size ≤ 2000) :
    Calls Try.prog 85 #[.string s] w fun e w' => ∃ y, e = .returned y ∧ OwnsU w' w.heap.size y (rsK s.data.toList s.size) ∧ Below w.heap.size w w' := by
  obtain ⟨i0, hi, hz0, hz1, hz2⟩ := info_parts Try.info_run
  go_enter Try.func85, Try.ntmps85
  go_wp2
  go_loopw [3, 4] (fun v i wr => ∃ k : Nat, k ≤ s.size ∧ i = .int .i64 k ∧ OwnsU wr w.heap.size v (rsK s.data.toList k) ∧ Below w.heap.size w wr) (fun _ i _ => s.size - (intOf i).toNat)
  case atStart => exact ⟨0, Nat.zero_le _, rfl, World.ownsRow_lit w #[] 0 (Nat.le_refl _) (by decide) rfl, (Below.refl _ _).alloc (Nat.le_refl _) _⟩
  case round =>
    obtain ⟨k, hk, rfl, hown, hB⟩ := hrel
    obtain ⟨wo, rfl⟩ : ∃ wo : World, wo = wr := ⟨_, rfl⟩
    have hsz := hB.size
    by_cases hlt : k < s.size
    · have hkl : k < s.data.toList.length := by simpa using hlt
      have hgk : s.data.toList.getD k 0 = s[k] := by
        rw [List.getD_eq_getElem?_getD, List.getElem?_eq_getElem hkl, Option.getD_some]; rfl
      have hlen := rsK_len s.data.toList k
      by_cases hpos : 0 < k
      · obtain ⟨m, hkm⟩ : ∃ m, k = m + 1 := ⟨k - 1, by omega⟩
        have hml : m < s.data.toList.length := by simp at hkl ⊢; omega
        have hms : m < s.size := by omega
        have hgm : s.data.toList.getD (k - 1) 0 = s[m] := by
          rw [show k - 1 = m from by omega, List.getD_eq_getElem?_getD, List.getElem?_eq_getElem hml, Option.getD_some]; rfl
        by_cases heq : s[k] = s[m]
        · have hrs := rsK_pos s.data.toList k (by omega)
          have HX : Hid (rsK s.data.toList (k + 1) = incL (rsK s.data.toList k)) := Lib.hid (by
            rw [rsK, if_pos ⟨by omega, by rw [hgk, hgm, heq]⟩])
          have hcnt := rsK_cnt s.data.toList k
          generalize rsK s.data.toList k = rs at *
          obtain ⟨p, hp⟩ : ∃ p, rs.length = p + 1 := ⟨rs.length - 1, by omega⟩
          have hpl : p < rs.length := by omega
          have hc2 := hcnt _ (List.getElem_mem hpl)
          rcases hown.2 with ⟨_, h0⟩ | ⟨g, cap, cur, rfl, _⟩
          · omega
          have c1 : wo.cell? ⟨g, p * 2 + 1, none⟩ = some (.int .i64 rs[p].l) := by
            rw [hown.cellAt (p * 2 + 1) (by omega)]; exact uv_get rs p hpl 1 (by omega)
          have f1 : wo.frozen? ⟨g, p * 2 + 1, none⟩ = false := hown.frozenAt _
          have hst := (hown.stored (p * 2 + 1) (.int .i64 (rs[p].l + 1))).1
          rw [uv_set1 rs p hpl] at hst
          have HO8 : Hid (OwnsU (wo.setCell ⟨g, p * 2 + 1, none⟩ (.int .i64 (rs[p].l + 1))) w.heap.size (.slice (some ⟨g, 0, none⟩) rs.length cap) (rsK s.data.toList (k + 1))) := Lib.hid (by
            unfold OwnsU
            rw [HX.out, incL_at (by omega)]
            have e : rs.length - 1 = p := by omega
            simp only [e, List.length_set]
            exact hst)
          have hgw : w.heap.size ≤ g := (hown.lt g rfl).1
          have HB8 : Hid (Below w.heap.size w (wo.setCell ⟨g, p * 2 + 1, none⟩ (.int .i64 (rs[p].l + 1)))) := Lib.hid (hB.setCell hgw _)
          have heq' : ((s[k].toNat : Int) == (s[m].toNat : Int)) = true := by rw [heq]; simp
          have hd1 : decide ((0 : Int) < (k : Int)) = true := decide_eq_true (by omega)
          have hd3 : decide (0 < k) = true := decide_eq_true (by omega)
          have hwr : IntKind.i64.wrap ((k : Int) - 1) = (m : Int) := by rw [IntKind.wrap_i64]; omega
          have hwp : IntKind.i64.wrap ((rs.length : Int) - 1) = (p : Int) := by rw [IntKind.wrap_i64]; omega
          have hm0 : (0 : Int) ≤ (m : Int) := by omega
          have hm1 : (m : Int) < (s.size : Int) := by omega
          have hk0 : (0 : Int) ≤ (k : Int) := by omega
          have hkl1 : (k : Int) < (s.size : Int) := by omega
          have HKM := Lib.hid hkm
          clear hkm
          have hp0 : (0 : Int) ≤ (p : Int) := by omega
          generalize rs[p].l = y at *
          obtain ⟨N, hN⟩ : ∃ N, N = rs.length := ⟨_, rfl⟩
          rw [← hN] at HO8 hwp ⊢
          have hp1 : (p : Int) < (N : Int) := by omega
          clear hown hB hst hcnt heq hp hpl hrs hN
          go_wp2_with fail
          go_quiet (fail)
          have d1 : (wo.drewN nq).cell? ⟨g, p * 2 + 1, none⟩ = some (.int .i64 y) := c1
          have g1 : (wo.drewN nq).frozen? ⟨g, p * 2 + 1, none⟩ = false := f1
          have HO9 : Hid (OwnsU ((wo.drewN nq).setCell ⟨g, p * 2 + 1, none⟩ (.int .i64 (y + 1))) w.heap.size (.slice (some ⟨g, 0, none⟩) N cap) (rsK s.data.toList (k + 1))) := Lib.hid HO8.out
          have HB9 : Hid (Below w.heap.size w ((wo.drewN nq).setCell ⟨g, p * 2 + 1, none⟩ (.int .i64 (y + 1)))) := Lib.hid (below_drewN HB8.out nq)
          clear c1 f1 heq' hd1 hwr
          generalize wo.drewN nq = w5 at *
          go_wp2_with fail
          go_roundw
          all_goals first | exact ⟨k + 1, by omega, by go_num, HO9.out, HB9.out⟩ | ((repeat apply Exists.intro); exact ⟨⟨k + 1, by omega, by go_num, HO9.out, HB9.out⟩, rfl⟩) | (simp [intOf]; done) | (simp [intOf]; omega) | omega
        · have HX : Hid (rsK s.data.toList (k + 1) = rsK s.data.toList k ++ [⟨s.extract k (k + 1), 1⟩]) := Lib.hid (by
            rw [rsK, if_neg (fun h => heq (by rw [← hgk, ← hgm]; exact h.2)), hgk]
            have : s.extract k (k + 1) = oneB s[k] := ByteArray.ext (Array.toList_inj.1 (extract_one s k hlt))
            rw [this])
          have heq' : ((s[k].toNat : Int) == (s[m].toNat : Int)) = false := by
            rw [beq_eq_false_iff_ne]
            intro h
            exact heq (UInt8.toNat_inj.1 (by omega))
          have hd1 : decide ((0 : Int) < (k : Int)) = true := decide_eq_true (by omega)
          have hd3 : decide (0 < k) = true := decide_eq_true (by omega)
          have hwr : IntKind.i64.wrap ((k : Int) - 1) = (m : Int) := by rw [IntKind.wrap_i64]; omega
          have hm0 : (0 : Int) ≤ (m : Int) := by omega
          have hm1 : (m : Int) < (s.size : Int) := by omega
          have hk0 : (0 : Int) ≤ (k : Int) := by omega
          have hkl1 : (k : Int) < (s.size : Int) := by omega
          have HKM := Lib.hid hkm
          clear hkm
          go_wp2_with fail
          go_quiet (fail)
          have hown5 : OwnsU (wo.drewN nq) w.heap.size _ (rsK s.data.toList k) := hown
          have hB5 := below_drewN hB nq
          clear hown hB heq' hd1 hwr
          generalize wo.drewN nq = w5 at *
          have HNW := Lib.hid (news2 w5 ⟨s.extract k (k + 1), 1⟩ 73)
          have hb5 := hB5.size
          have HO5 := Lib.hid hown5
          have HB5 := Lib.hid hB5
          obtain ⟨A, c, rfl⟩ := own_slice hown5
          have hk1 : ((k : Nat) : Int) + 1 ≤ (s.size : Int) := by omega
          clear hown5 hB5
          generalize rsK s.data.toList k = rs at *
          go_wp2_with (first | (at_builtin; refine wpList_append_own _ rfl _ _ 39 rfl w.heap.size 73 i0 (.agg #[.string ⟨#[]⟩, .int .i64 0]) 2 24 Try.underlying39 hi hz0 hz1 hz2 rfl (by decide) _ _ _ rfl (World.ownsRow.alloc HO5.out _) ⟨w5.heap.size, 0, none⟩ 1 1 (uc ⟨s.extract k (k + 1), 1⟩) rfl rfl HNW.out (uc_cell _) (by unfold maxLen; omega) (by omega) (by simp; omega) ?_))
          intro v8 w8 hown8 hgrow _
          have HO8 : Hid (OwnsU w8 w.heap.size v8 (rsK s.data.toList (k + 1))) := Lib.hid (by
            unfold OwnsU
            rw [HX.out, uv_app, uv_one, List.length_append]
            exact hown8)
          have HB8 : Hid (Below w.heap.size w w8) := Lib.hid ((HB5.out.alloc hb5 _).grown hgrow (by simp; omega) (fun q hq => (HO5.out.lt q hq).1))
          clear hown8 hgrow
          go_wp2_with fail
          go_roundw
          all_goals first | exact ⟨k + 1, by omega, by go_num, HO8.out, HB8.out⟩ | ((repeat apply Exists.intro); exact ⟨⟨k + 1, by omega, by go_num, HO8.out, HB8.out⟩, rfl⟩) | (simp [intOf]; done) | (simp [intOf]; omega) | omega
      · obtain rfl : k = 0 := by omega
        have HX : Hid (rsK s.data.toList (0 + 1) = rsK s.data.toList 0 ++ [⟨s.extract 0 (0 + 1), 1⟩]) := Lib.hid (by
          rw [show rsK s.data.toList (0 + 1) = (if 0 < 0 ∧ s.data.toList.getD 0 0 = s.data.toList.getD (0 - 1) 0 then incL (rsK s.data.toList 0) else rsK s.data.toList 0 ++ [⟨oneB (s.data.toList.getD 0 0), 1⟩]) from rfl, if_neg (fun h => by omega), hgk]
          have : s.extract 0 (0 + 1) = oneB s[0] := ByteArray.ext (Array.toList_inj.1 (extract_one s 0 hlt))
          rw [this])
        go_wp2_with fail
        go_quiet (fail)
        have hown5 : OwnsU (wo.drewN nq) w.heap.size _ (rsK s.data.toList 0) := hown
        have hB5 := below_drewN hB nq
        clear hown hB
        generalize wo.drewN nq = w5 at *
        have HNW := Lib.hid (news2 w5 ⟨s.extract 0 (0 + 1), 1⟩ 73)
        have hb5 := hB5.size
        have HO5 := Lib.hid hown5
        have HB5 := Lib.hid hB5
        obtain ⟨A, c, rfl⟩ := own_slice hown5
        have hk1 : ((0 : Nat) : Int) + 1 ≤ (s.size : Int) := by omega
        clear hown5 hB5
        generalize rsK s.data.toList 0 = rs at *
        go_wp2_with (first | (at_builtin; refine wpList_append_own _ rfl _ _ 39 rfl w.heap.size 73 i0 (.agg #[.string ⟨#[]⟩, .int .i64 0]) 2 24 Try.underlying39 hi hz0 hz1 hz2 rfl (by decide) _ _ _ rfl (World.ownsRow.alloc HO5.out _) ⟨w5.heap.size, 0, none⟩ 1 1 (uc ⟨s.extract 0 (0 + 1), 1⟩) rfl rfl HNW.out (uc_cell _) (by unfold maxLen; omega) (by omega) (by simp; omega) ?_))
        intro v8 w8 hown8 hgrow _
        have HO8 : Hid (OwnsU w8 w.heap.size v8 (rsK s.data.toList (0 + 1))) := Lib.hid (by
          unfold OwnsU
          rw [HX.out, uv_app, uv_one, List.length_append]
          exact hown8)
        have HB8 : Hid (Below w.heap.size w w8) := Lib.hid ((HB5.out.alloc hb5 _).grown hgrow (by simp; omega) (fun q hq => (HO5.out.lt q hq).1))
        clear hown8 hgrow
        go_wp2_with fail
        go_roundw
        all_goals first | exact ⟨0 + 1, by omega, by go_num, HO8.out, HB8.out⟩ | ((repeat apply Exists.intro); exact ⟨⟨0 + 1, by omega, by go_num, HO8.out, HB8.out⟩, rfl⟩) | (simp [intOf]; done) | (simp [intOf]; omega) | omega
    · have hkn : k = s.size := by omega
      subst hkn
      obtain ⟨A, c, rfl⟩ := own_slice hown
      have HO := Lib.hid hown
      have HB := Lib.hid hB
      clear hown hB
      go_wp2_with fail
      go_ret
      exact ⟨_, rfl, HO.out, HB.out⟩
theorem specRunsOf (s : ByteArray) (w : World) (hs : s.size ≤ maxLen) :
    Calls Try.prog 27 #[.string s] w fun e w' => ∃ y, e = .returned (.tuple #[y, .int .i64 (rsA s).2]) ∧ OwnsU w' w.heap.size y (rsA s).1 ∧ Below w.heap.size w w' := by
  have HOK := Lib.hid (specOk s w hs)
  unfold rsA
  cases hok : okL s.data.toList
  · rw [hok] at HOK
    rw [if_neg (by decide)]
    clear hok
    have HB := Lib.hid ((Below.refl _ w).alloc (Nat.le_refl _) (.cells #[] 73))
    have HO := Lib.hid (show OwnsU (w.alloc (.cells #[] 73)) w.heap.size (.slice (some ⟨w.heap.size, 0, none⟩) 0 0) [] from World.ownsRow_lit w #[] 0 (Nat.le_refl _) (by decide) rfl)
    go_enter Try.func27, Try.ntmps27
    go_wp2_with fail
    refine HOK.out.mono ?_
    rintro e w1 ⟨rfl, rfl⟩
    go_wp2_with fail
    go_ret2
    exact ⟨_, rfl, HO.out, HB.out⟩
  · have hs2 : s.size ≤ 2000 := by
      rcases Nat.lt_or_ge 2000 s.size with h | h
      · rw [okL_long (by simpa using h)] at hok; cases hok
      · exact h
    rw [hok] at HOK
    rw [if_pos rfl]
    have HR := Lib.hid (l01Runs_any s w hs2)
    clear hok
    go_enter Try.func27, Try.ntmps27
    go_wp2_with fail
    refine HOK.out.mono ?_
    rintro e w1 ⟨rfl, rfl⟩
    go_wp2_with fail
    refine HR.out.mono ?_
    rintro e w2 ⟨y, rfl, ho, hB⟩
    obtain ⟨A, c, rfl⟩ := own_slice ho
    have HO := Lib.hid ho
    have HB := Lib.hid hB
    clear ho hB
    go_wp2_with fail
    go_ret2
    exact ⟨_, rfl, HO.out, HB.out⟩
end Go.Proofs.Ytlgpleeanmeenaa
