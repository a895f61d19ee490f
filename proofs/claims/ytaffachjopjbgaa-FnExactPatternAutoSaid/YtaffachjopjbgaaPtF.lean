/-
  Walks: spec.l04Fit, spec.l04Asked.
-/
import Derived.Test.YtaffachjopjbgaaPtM
import Derived.Test.YtaffachjopjbgaaGramOk
import Derived.Test.YtaffachjopjbgaaOk
import Derived.Lib.Strings
import Derived.Outline
import Derived.Deep.QuietTactic
import Derived.BigQuiet
namespace Go.Proofs.Ytaffachjopjbgaa
open Go.RowKit
open Wd
set_option linter.unusedVariables false
theorem mnP_any (a b : Nat) (w : World) : Calls Try.prog 203 #[.int .i64 (a : Int), .int .i64 (b : Int)] w fun e w' => e = .returned (.int .i64 ((min a b : Nat) : Int)) ∧ w' = w := by
  by_cases h : (a : Int) < b
  · have hm : ((min a b : Nat) : Int) = a := by omega
    rw [hm]
    go_enter Try.func203, Try.ntmps203
    go_wp2_with fail
    go_ret
    exact ⟨rfl, rfl⟩
  · have hm : ((min a b : Nat) : Int) = b := by omega
    rw [hm]
    go_enter Try.func203, Try.ntmps203
    go_wp2_with fail
    go_ret
    exact ⟨rfl, rfl⟩
theorem extract_listP (s : ByteArray) (a b : Nat) : (s.extract a b).data.toList = (s.data.toList.drop a).take (b - a) := by
  rw [ByteArray.data_extract, Array.toList_extract, List.extract_eq_take_drop]
theorem suffix_extract (p u : ByteArray) (j m : Nat) (hj : u.size = j + m) (hm : m ≤ p.size) : ((u.extract j u.size).toList == (p.extract 0 m).toList) = (p.data.toList.take m).isSuffixOf u.data.toList := by
  have hl : u.data.toList.length = u.size := by simp
  rw [ByteArray.toList_eq, ByteArray.toList_eq, extract_listP, extract_listP, suffix_drop (by simpa using hm) (by rw [hl]; omega), hl, show u.size - m = j from by omega, List.drop_zero, Nat.sub_zero]
  rw [List.take_of_length_le (by rw [List.length_drop, hl]; omega)]
  rw [Bool.eq_iff_iff]
  simp
set_option maxRecDepth 100000 in
set_option maxHeartbeats 1600000 in
theorem l04Fit_any (p u : ByteArray) (w : World) (hp : p.size ≤ 2000) (hu : u.size ≤ 4000) :
    Calls Try.prog 159 #[.string p, .string u] w fun e w' => e = .returned (.int .i64 ((fitN p.data.toList u.data.toList : Nat) : Int)) ∧ ∃ q, w' = w.drewN q := by
  have HMN := Lib.hid (fun W => mnP_any p.size u.size W)
  obtain ⟨R, hR⟩ : ∃ R, R = fitN p.data.toList u.data.toList := ⟨_, rfl⟩
  rw [← hR]
  have hR2 : fitL p.data.toList u.data.toList (min p.size u.size) = R := by rw [hR]; unfold fitN; simp
  have HR := Lib.hid hR2
  clear hR hR2
  have hmin1 : min p.size u.size ≤ p.size := Nat.min_le_left _ _
  have hmin2 : min p.size u.size ≤ u.size := Nat.min_le_right _ _
  generalize min p.size u.size = mm at *
  go_enter Try.func159, Try.ntmps159
  go_wp2_with fail
  refine (HMN.out _).mono ?_
  rintro e w1 ⟨rfl, rfl⟩
  go_wp2_with fail
  go_loopw [5] (fun i wr => ∃ m : Nat, m ≤ p.size ∧ m ≤ u.size ∧ i = .int .i64 m ∧ fitL p.data.toList u.data.toList m = R ∧ ∃ q, wr = w1.drewN q) (fun i _ => (intOf i).toNat)
  case atStart => exact ⟨mm, hmin1, hmin2, rfl, HR.out, 0, rfl⟩
  case round =>
    obtain ⟨m, hmp, hmu, rfl, hfit, q, rfl⟩ := hrel
    by_cases hm : 0 < m
    · obtain ⟨k, hk⟩ : ∃ k, m = k + 1 := ⟨m - 1, by omega⟩
      obtain ⟨j, hj⟩ : ∃ j, u.size = j + m := ⟨u.size - m, by omega⟩
      have hw1 : IntKind.i64.wrap ((u.size : Int) - (m : Int)) = (j : Int) := by rw [IntKind.wrap_i64]; omega
      have hw2 : IntKind.i64.wrap ((m : Int) - 1) = (k : Int) := by rw [IntKind.wrap_i64]; omega
      have hb := suffix_extract p u j m hj hmp
      have hm0 : (0 : Int) < (m : Int) := by omega
      have b1 : (0 : Int) ≤ (j : Int) := by omega
      have b2 : (j : Int) ≤ (u.size : Int) := by omega
      have b3 : (0 : Int) ≤ (m : Int) := by omega
      have b4 : (m : Int) ≤ (p.size : Int) := by omega
      have HK := Lib.hid hk
      cases hs : (p.data.toList.take m).isSuffixOf u.data.toList
      · rw [hs] at hb
        have HN : Hid (fitL p.data.toList u.data.toList k = R) := Lib.hid (by rw [← hfit, hk, fitL_no (by rw [← hk]; exact hs)])
        clear hs hfit hj hk hm
        go_upto_region 4 with fail
        go_quiet (fail)
        go_wp2_with fail
        go_roundw
        all_goals first | exact ⟨k, by have := HK.out; omega, by have := HK.out; omega, rfl, HN.out, _, rfl⟩ | ((repeat apply Exists.intro); exact ⟨⟨k, by have := HK.out; omega, by have := HK.out; omega, rfl, HN.out, _, rfl⟩, rfl⟩) | (have := HK.out; simp [intOf]; omega)
      · rw [hs] at hb
        have HN : Hid (m = R) := Lib.hid (by rw [← hfit, hk, fitL_yes (by rw [← hk]; exact hs)])
        clear hs hfit hj hk hm
        go_upto_region 4 with fail
        go_quiet (fail)
        go_wp2_with fail
        go_ret
        exact ⟨by rw [HN.out]; rfl, _, World.drewN_drewN _ _ _⟩
    · obtain rfl : m = 0 := by omega
      have HN : Hid (0 = R) := Lib.hid (by rw [← hfit]; rfl)
      clear hfit hm
      go_wp2_with fail
      go_ret
      exact ⟨by rw [← HN.out]; rfl, _, rfl⟩
namespace Wd
/-- the code of a grammar and a pattern -/
def askN (g p : Bool) (n : Nat) : Int := if g = true ∧ p = true then (if n = 0 then 4 else if 20 < n then 3 else 0) else 1
end Wd
set_option maxRecDepth 100000 in
set_option maxHeartbeats 1600000 in
theorem l04Asked_any (pg : Nat) (gs : List Rl) (p : ByteArray) (w : World) (hfr : FewR gs) (hpm : p.size ≤ maxLen) (hg : GP w pg gs) :
    Calls Try.prog 93 #[.pointer (some ⟨pg, 0, none⟩), .string p] w fun e w' => e = .returned (.int .i64 (askN (gOk gs) (okL p.data.toList) p.size)) ∧ Below w.heap.size w w' := by
  have HG := Lib.hid (l02Ok_any pg gs w hfr hg)
  have HW := Lib.hid (fun W => specOk p W hpm)
  unfold askN
  cases hok : gOk gs
  · rw [hok] at HG
    rw [if_neg (by simp)]
    clear hok
    go_enter Try.func93, Try.ntmps93
    go_wp2_with fail
    refine HG.out.mono ?_
    rintro e w3 ⟨rfl, hB3⟩
    have HB3 := Lib.hid hB3
    clear hB3
    go_wp2_with fail
    go_ret
    exact ⟨rfl, HB3.out⟩
  · rw [hok] at HG
    cases ho : okL p.data.toList
    · rw [ho] at HW
      rw [if_neg (by simp)]
      clear hok ho
      go_enter Try.func93, Try.ntmps93
      go_wp2_with fail
      refine HG.out.mono ?_
      rintro e w3 ⟨rfl, hB3⟩
      have HB3 := Lib.hid hB3
      clear hB3
      go_wp2_with fail
      refine (HW.out _).mono ?_
      rintro e w4 ⟨rfl, hw4⟩
      subst hw4
      go_wp2_with fail
      go_ret
      exact ⟨rfl, HB3.out⟩
    · rw [ho] at HW
      rw [if_pos ⟨rfl, rfl⟩]
      clear hok ho
      by_cases h0 : p.size = 0
      · rw [if_pos h0]
        have he : p = ⟨#[]⟩ := by
          have : p.data.size = 0 := h0
          obtain ⟨d⟩ := p
          simp only at this
          rw [Array.eq_empty_of_size_eq_zero this]
        subst he
        go_enter Try.func93, Try.ntmps93
        go_wp2_with fail
        refine HG.out.mono ?_
        rintro e w3 ⟨rfl, hB3⟩
        have HB3 := Lib.hid hB3
        clear hB3
        go_wp2_with fail
        refine (HW.out _).mono ?_
        rintro e w4 ⟨rfl, hw4⟩
        subst hw4
        go_wp2_with fail
        go_ret
        exact ⟨rfl, HB3.out⟩
      · rw [if_neg h0]
        have hne : (p.toList == (⟨#[]⟩ : ByteArray).toList) = false := by
          rw [ByteArray.toList_eq, ByteArray.toList_eq, beq_eq_false_iff_ne]
          intro e
          have h9 : p.data.toList.length = 0 := by rw [e]; rfl
          exact h0 (by simpa using h9)
        have hne2 : (p.toList == ([] : List UInt8)) = false := by
          rw [ByteArray.toList_eq, beq_eq_false_iff_ne]
          intro e
          have h9 : p.data.toList.length = 0 := by rw [e]; rfl
          exact h0 (by simpa using h9)
        by_cases h20 : 20 < p.size
        · rw [if_pos h20]
          have hd : (20 : Int) < (p.size : Int) := by omega
          clear h0
          go_enter Try.func93, Try.ntmps93
          go_wp2_with fail
          refine HG.out.mono ?_
          rintro e w3 ⟨rfl, hB3⟩
          have HB3 := Lib.hid hB3
          clear hB3
          go_wp2_with fail
          refine (HW.out _).mono ?_
          rintro e w4 ⟨rfl, hw4⟩
          subst hw4
          go_wp2_with fail
          go_ret
          exact ⟨rfl, HB3.out⟩
        · rw [if_neg h20]
          have hd : ¬ (20 : Int) < (p.size : Int) := by omega
          clear h0
          go_enter Try.func93, Try.ntmps93
          go_wp2_with fail
          refine HG.out.mono ?_
          rintro e w3 ⟨rfl, hB3⟩
          have HB3 := Lib.hid hB3
          clear hB3
          go_wp2_with fail
          refine (HW.out _).mono ?_
          rintro e w4 ⟨rfl, hw4⟩
          subst hw4
          go_wp2_with fail
          go_ret
          exact ⟨rfl, HB3.out⟩
end Go.Proofs.Ytaffachjopjbgaa
