/-
  Walks: laws.szRule, szRuleS, szGrammar: what is left of a purse.
-/
import Derived.Test.YtaffachjopjbgaaKind
import Derived.StillTailTactics
namespace Go.Proofs.Ytaffachjopjbgaa
open Go.RowKit
open Wd
set_option linter.unusedVariables false

theorem add_next (x : Addr) (m j : Nat) (hj : 0 < j) : x.add (m + j) = ⟨(x.add m).block, (x.add m).off + j, none⟩ := by
  unfold Addr.add
  rw [if_neg (by omega)]
  split
  · subst_vars; simp
  · simp [Nat.add_assoc]

theorem szRule_any (x : Rl) (left : Int) (w : World) (hs : x.L.size ≤ maxLen) (h0 : 0 ≤ left) (h1 : left ≤ 1048576) :
    Calls Try.prog 150 #[agg3 x, .int .i64 left] w fun e w' => e = .returned (.int .i64 (if left - x.L.size < 0 then -1 else left - x.L.size)) ∧ Below w.heap.size w w' := by
  obtain ⟨L, l, r⟩ := x
  simp only at hs ⊢
  unfold maxLen at hs
  by_cases h : left - (L.size : Int) < 0
  all_goals
    go_enter Try.func150, Try.ntmps150
    go_wp2
    go_ret
    refine ⟨ret_int ?_, (Below.refl _ _).alloc (Nat.le_refl _) _⟩
    first | (rw [if_pos h]; done) | (rw [if_neg h]; done) | (rw [if_pos (by omega)]; done) | (rw [if_neg (by omega)]; done) | simp

set_option maxHeartbeats 800000 in
theorem szRuleS_any (A : Option Addr) (len cap : Nat) (gs : List Rl) (left : Int) (w : World) (hl : len ≤ maxLen) (h : InRules w A len gs) (h0 : 0 ≤ left) (h1 : left ≤ 1048576) :
    Calls Try.prog 77 #[.slice A len cap, .int .i64 left] w fun e w' => e = .returned (.int .i64 (purse left gs)) ∧ Below w.heap.size w w' := by
  unfold maxLen at hl
  obtain ⟨hlen, hin⟩ := h
  by_cases hbig : left - (len : Int) < 0
  · have hp := purse_no (left := left) (gs := gs) (by omega)
    have HP := Lib.hid hp
    clear hp hin hlen
    go_enter Try.func77, Try.ntmps77
    go_wp2
    go_ret
    exact ⟨ret_int HP.out.symm, Below.refl _ _⟩
  · have HI := Lib.hid hin
    have HLN := Lib.hid hlen
    clear hin hlen
    go_enter Try.func77, Try.ntmps77
    go_wp2
    go_loopw [1, 5] (fun p i wr => ∃ k : Nat, k ≤ len ∧ i = .int .i64 k ∧ p = .int .i64 (left - len - sumL (gs.take k)) ∧ 0 ≤ left - (len : Int) - sumL (gs.take k) ∧ Below w.heap.size w wr) (fun _ i _ => len - (intOf i).toNat)
    case atStart => exact ⟨0, Nat.zero_le _, rfl, by simp [sumL], by simp [sumL]; omega, Below.refl _ _⟩
    case round =>
      obtain ⟨k, hk, rfl, rfl, hpos, hB⟩ := hrel
      by_cases hlt : k < len
      · have hkg : k < gs.length := by rw [HLN.out]; exact hlt
        rcases HI.out with hn | ⟨x, rfl, hc⟩
        · rw [hn] at hkg; simp at hkg
        obtain ⟨⟨c0, c1, c2⟩, hsz⟩ := hc k hkg
        have d0 := (hB.cell (lt_of_cell c0)).trans c0
        have d1 := (hB.cell (lt_of_cell c1)).trans c1
        have d2 := (hB.cell (lt_of_cell c2)).trans c2
        clear c0 c1 c2 hc
        rw [add_next _ _ _ (by omega)] at d1 d2
        have hs := sumL_take gs k hkg
        have HZ := Lib.hid (fun W => szRule_any gs[k] (left - (len : Int) - sumL (gs.take k)) W hsz hpos (by omega))
        have HBD := Lib.hid (fun (h : left - (len : Int) - sumL (gs.take k) - gs[k].L.size < 0) => purse_bad (left := left) (gs := gs) hkg (by rw [HLN.out]; exact h))
        have HS := Lib.hid hs
        have HB := Lib.hid hB
        clear hs hsz hB
        by_cases hneg : left - (len : Int) - sumL (gs.take k) - gs[k].L.size < 0
        · have HN := Lib.hid hneg
          clear hneg
          go_wp2_with fail
          refine (HZ.out _).mono ?_; rintro e w' ⟨rfl, hB'⟩
          rw [if_pos HN.out]
          have HB' := Lib.hid hB'
          clear hB'
          go_wp2
          go_ret
          exact ⟨ret_int (HBD.out HN.out).symm, HB.out.trans (HB'.out.mono HB.out.size)⟩
        · have HN := Lib.hid hneg
          clear hneg
          go_wp2_with fail
          refine (HZ.out _).mono ?_; rintro e w' ⟨rfl, hB'⟩
          rw [if_neg (Int.not_lt.2 HN.out)]
          have HB' := Lib.hid hB'
          have hnn : 0 ≤ left - (len : Int) - sumL (gs.take k) - gs[k].L.size := by have := HN.out; omega
          clear hB'
          go_wp2
          go_roundw
          case rel => exact ⟨k + 1, by omega, by go_num, by rw [HS.out]; go_num, by rw [HS.out]; omega, HB.out.trans (HB'.out.mono HB.out.size)⟩
          case measure => simp [intOf]; omega
      · have hp : purse left gs = left - len - sumL (gs.take k) := by
          have hg := HLN.out
          rw [List.take_of_length_le (by omega)] at hpos ⊢
          rw [purse_ok (by omega), hg]
        have HP := Lib.hid hp
        clear hp
        go_wp2
        go_ret
        exact ⟨ret_int HP.out.symm, hB⟩

theorem szGrammar_any (A : Option Addr) (len cap : Nat) (gs : List Rl) (left : Int) (w : World) (hl : len ≤ maxLen) (h : InRules w A len gs) (h0 : 0 ≤ left) (h1 : left ≤ 1048576) :
    Calls Try.prog 18 #[.agg #[.slice A len cap], .int .i64 left] w fun e w' => e = .returned (.int .i64 (purse left gs)) ∧ Below w.heap.size w w' := by
  have HS := Lib.hid (fun W (hW : InRules W A len gs) => szRuleS_any A len cap gs left W hl hW h0 h1)
  have HI := Lib.hid h
  clear h
  by_cases hneg : purse left gs < 0
  all_goals
    have HN := Lib.hid hneg
    clear hneg
    go_enter Try.func18, Try.ntmps18
    go_wp2_with fail
    refine (HS.out _ (HI.out.kept ((Below.refl _ _).alloc (Nat.le_refl _) _))).mono ?_; rintro e w' ⟨rfl, hB⟩
  · have hp : purse left gs = -1 := by
      have := HN.out
      unfold purse at this ⊢
      split <;> simp_all <;> omega
    rw [hp]
    have HP := Lib.hid hp
    have HB := Lib.hid hB
    clear hp hB
    go_wp2
    go_ret
    exact ⟨ret_int HP.out.symm, ((Below.refl _ _).alloc (Nat.le_refl _) _).trans (HB.out.mono (by simp))⟩
  · have hp := HN.out
    have HB := Lib.hid hB
    clear hB
    go_wp2
    go_ret
    exact ⟨rfl, ((Below.refl _ _).alloc (Nat.le_refl _) _).trans (HB.out.mono (by simp))⟩
theorem purse_few {gs : List Rl} (h : ¬ purse 1048576 gs < 0) : gs.length + sumL gs ≤ 1048576 := by
  unfold purse at h
  split at h <;> omega
end Go.Proofs.Ytaffachjopjbgaa
