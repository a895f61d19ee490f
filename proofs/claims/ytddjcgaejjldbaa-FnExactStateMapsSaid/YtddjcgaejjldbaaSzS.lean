/-
  What an automaton costs of a purse, exactly.
-/
import Derived.Test.YtddjcgaejjldbaaMat2
namespace Go.Proofs.Ytddjcgaejjldbaa
open Go.RowKit
open Wd
set_option linter.unusedVariables false
set_option maxRecDepth 100000 in
set_option maxHeartbeats 1600000 in
theorem szLLs_any (v : Value) (xss : List (List Int)) (left : Int) (w : World) (hn : xss.length ≤ maxLen) (hr : ∀ r ∈ xss, r.length ≤ maxLen) (h : IsLL w v xss) (h0 : 0 ≤ left) (h1 : left ≤ 1048576) :
    Calls Try.prog 54 #[v, .int .i64 left] w fun e w' => ∃ y, e = .returned (.int .i64 y) ∧ w = w' ∧ Paid left y ((xss.length : Int) + (pre xss xss.length : Nat) + y ≤ left ∧ xss.length ≤ 1048576 ∧ ∀ r ∈ xss, r.length ≤ 1048576) := by
  unfold maxLen at hn
  obtain ⟨A, c, rfl, hin⟩ := h
  by_cases hbig : left - (xss.length : Int) < 0
  · clear hin
    go_enter Try.func54, Try.ntmps54
    go_wp2_with fail
    go_ret
    exact ⟨_, rfl, rfl, .inl rfl⟩
  · have HI := Lib.hid hin
    have HR := Lib.hid hr
    clear hin hr
    go_enter Try.func54, Try.ntmps54
    go_wp2_with fail
    go_loopw [1, 5] (fun p i wr => ∃ k : Nat, k ≤ xss.length ∧ i = .int .i64 k ∧ (∃ q : Int, p = .int .i64 q ∧ 0 ≤ q ∧ (xss.length : Int) + (pre xss k : Nat) + q ≤ left) ∧ (∀ j (hj : j < xss.length), j < k → xss[j].length ≤ 1048576) ∧ w = wr) (fun _ i _ => xss.length - (intOf i).toNat)
    case atStart => exact ⟨0, Nat.zero_le _, rfl, ⟨_, rfl, by omega, by rw [pre_zero]; omega⟩, fun j hj h => by omega, rfl⟩
    case round =>
      obtain ⟨k, hk, rfl, ⟨q, rfl, hq0, hq1⟩, hle, rfl⟩ := hrel
      by_cases hlt : k < xss.length
      · rcases HI.out with hn' | ⟨a, rfl, hc⟩
        · rw [hn'] at hlt; simp at hlt
        obtain ⟨u, c0, hu⟩ := hc k hlt
        obtain ⟨A2, c2, rfl⟩ := hu.shape
        have hm := HR.out xss[k] (List.getElem_mem hlt)
        have HZ := Lib.hid (fun W => szI_any A2 xss[k].length c2 q W hm hq0 (by omega))
        have HLE := Lib.hid (fun (hh : xss[k].length ≤ 1048576) => (fun j (hj : j < xss.length) (h : j < k + 1) => by
          by_cases e : j = k
          · subst e; exact hh
          · exact hle j hj (by omega) : ∀ j (hj : j < xss.length), j < k + 1 → xss[j].length ≤ 1048576))
        have hps := pre_succ xss k hlt
        generalize xss[k].length = m at *
        generalize pre xss k = pk at *
        have HPS := Lib.hid hps
        clear hps
        clear hu hc hle
        by_cases hneg : q - (m : Int) < 0
        · rw [if_pos hneg] at HZ
          go_wp2_with fail
          refine (HZ.out _).mono ?_
          rintro e w2 ⟨rfl, rfl⟩
          go_wp2_with fail
          go_ret
          exact ⟨_, rfl, rfl, .inl rfl⟩
        · rw [if_neg hneg] at HZ
          go_wp2_with fail
          refine (HZ.out _).mono ?_
          rintro e w2 ⟨rfl, rfl⟩
          go_wp2_with fail
          go_roundw
          case rel => exact ⟨k + 1, by omega, by go_num, ⟨_, rfl, by omega, by rw [HPS.out]; omega⟩, HLE.out (by omega), by trivial⟩
          case measure => simp [intOf]; omega
      · obtain rfl : k = xss.length := by omega
        go_wp2_with fail
        go_ret
        exact ⟨_, rfl, rfl, .inr ⟨hq0, by omega, hq1, by omega, fun r hr => by obtain ⟨j, hj, e⟩ := List.getElem_of_mem hr; rw [← e]; exact hle j hj hj⟩⟩

set_option maxRecDepth 100000 in
set_option maxHeartbeats 1600000 in
theorem szAutoS_any (v : Value) (x : Au) (left : Int) (w : World) (hm : MaxA x) (h : IsAu w v x) (h0 : 0 ≤ left) (h1 : left ≤ 1048576) :
    Calls Try.prog 22 #[v, .int .i64 left] w fun e w' => ∃ y, e = .returned (.int .i64 y) ∧ Below w.heap.size w w' ∧ Paid left y (auN x + y ≤ left ∧ FewA x) := by
  obtain ⟨f, n, rfl, hf, hn⟩ := h
  obtain ⟨A, c, rfl⟩ := hf.shape
  have hfm := hm.fin
  have HZ := Lib.hid (fun W => szI_any A x.fin.length c left W hfm h0 h1)
  have HN := Lib.hid (hn.kept ((Below.refl _ w).alloc (Nat.le_refl _) (.cells #[.int .i64 x.st, .int .i64 x.go, .slice A x.fin.length c, n] 37)))
  have HM := Lib.hid hm
  have hB := (Below.refl _ w).alloc (Nat.le_refl _) (.cells #[.int .i64 x.st, .int .i64 x.go, .slice A x.fin.length c, n] 37)
  have HB := Lib.hid hB
  clear hf hn hm hB
  by_cases hneg : left - (x.fin.length : Int) < 0
  · rw [if_pos hneg] at HZ
    go_enter Try.func22, Try.ntmps22
    go_wp2_with fail
    refine (HZ.out _).mono ?_
    rintro e w2 ⟨rfl, rfl⟩
    go_wp2_with fail
    go_ret
    exact ⟨_, rfl, HB.out, .inl rfl⟩
  · rw [if_neg hneg] at HZ
    go_enter Try.func22, Try.ntmps22
    go_wp2_with fail
    refine (HZ.out _).mono ?_
    rintro e w2 ⟨rfl, rfl⟩
    go_wp2_with fail
    refine (szLLs_any n x.nx _ _ HM.out.nx HM.out.row HN.out (by omega) (by omega)).mono ?_
    rintro e w2 ⟨y, rfl, rfl, hp⟩
    rcases hp with rfl | ⟨hy0, hy1, hsum, hl, hr⟩
    · go_wp2_with fail
      go_ret
      exact ⟨_, rfl, HB.out, .inl rfl⟩
    · go_wp2_with fail
      go_ret
      exact ⟨_, rfl, HB.out, .inr ⟨hy0, by omega, by unfold auN; omega, by omega, hl, hr⟩⟩
end Go.Proofs.Ytddjcgaejjldbaa
