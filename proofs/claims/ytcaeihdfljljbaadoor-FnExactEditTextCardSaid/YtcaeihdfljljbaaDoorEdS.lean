/-
  Walks: spec.l07Ok, spec.ValidEdit.
-/
import Derived.Test.YtcaeihdfljljbaaDoorEdU
import Derived.Test.YtcaeihdfljljbaaDoorEdG
import Derived.Deep.QuietTactic
import Derived.BigQuiet
import Derived.Deep.RegionHeld3
namespace Go.Proofs.YtcaeihdfljljbaaDoor
open Go.RowKit
open Wd
set_option linter.unusedVariables false
theorem bytes_empty {m : ByteArray} (h : m.size = 0) : m = ⟨#[]⟩ := by
  obtain ⟨⟨l⟩⟩ := m
  have : l = [] := List.eq_nil_of_length_eq_zero h
  subst this
  rfl
theorem bytes_ne {m : ByteArray} (h : ¬ m.size = 0) : (m.data.toList == ([] : List UInt8)) = false := by
  obtain ⟨⟨l⟩⟩ := m
  cases l with
  | nil => exact absurd rfl h
  | cons a b => rfl
set_option maxRecDepth 100000 in
set_option maxHeartbeats 6400000 in
theorem l07Ok_any (pb : Nat) (x : Ed) (v : Value) (w : World) (hP : w.heap[pb]? = some (.cells #[.int .i64 x.k, .int .i64 x.i, .int .i64 x.j, .int .i64 x.t, v, .string x.m] 46 (0, 0))) (hr : Rules w v x.gs) (hf : FewE x) :
    Calls Tryd.prog 42 #[.pointer (some ⟨pb, 0, none⟩)] w fun e w' => e = .returned (.bool (edOk x)) ∧ Below w.heap.size w w' := by
  obtain ⟨k, i, j, t, gs, m⟩ := x
  obtain ⟨hf1, hf2⟩ := hf
  simp only at hP hr hf1 hf2
  have hn := hf1.len
  have HIN := Lib.hid (fun W => inE_any k 1 7 W)
  have HP := Lib.hid hP
  have HPB : Hid (pb < w.heap.size) := Lib.hid (by
    rcases Nat.lt_or_ge pb w.heap.size with h | h
    · exact h
    · rw [Array.getElem?_eq_none h] at hP; cases hP)
  obtain ⟨R, hR⟩ : ∃ R, R = edOk ⟨k, i, j, t, gs, m⟩ := ⟨_, rfl⟩
  rw [← hR]
  unfold edOk at hR
  simp only at hR
  obtain ⟨⟨p0, _⟩, _⟩ := blk6_cells hP
  by_cases hk : 1 ≤ k ∧ k ≤ 7
  case neg =>
    rw [decide_eq_false hk, Bool.false_and] at hR
    rw [decide_eq_false hk] at HIN
    subst hR
    clear hk hP hr hf1 hf2
    go_enter Tryd.func42, Tryd.ntmps42
    go_wp2_with fail
    refine (HIN.out _).mono ?_
    rintro e w1 ⟨rfl, rfl⟩
    go_wp2_with fail
    go_ret
    exact ⟨rfl, Below.refl _ _⟩
  case pos =>
    rw [decide_eq_true hk, Bool.true_and] at hR
    rw [decide_eq_true hk] at HIN
    have HU := Lib.hid (fun W => uses7_any k W hk)
    have HOK := Lib.hid (fun W (hb : Below w.heap.size w W) => l02Ok4_any pb gs W hf1 (GP4.kept ⟨v, (blk6_cells hP).1.2.2.2.2.1, hr⟩ hb))
    have HMS := Lib.hid (fun W => specOk m W (by unfold maxLen; omega))
    have HN1 := Lib.hid (fun W => number7_any i true W)
    have HN2 := Lib.hid (fun W => number7_any j (hasJ k) W)
    have HN3 := Lib.hid (fun W => number7_any t (hasK k) W)
    obtain ⟨⟨e1, e2⟩, e3, e4⟩ := edU_has hk
    have HH1 := fun W => has7_any (edU k) 74 W (edU_size k)
    have HH2 := fun W => has7_any (edU k) 75 W (edU_size k)
    have HH3 := fun W => has7_any (edU k) 80 W (edU_size k)
    have HH4 := fun W => has7_any (edU k) 77 W (edU_size k)
    rw [e1] at HH1
    rw [e2] at HH2
    rw [e3] at HH3
    rw [e4] at HH4
    obtain ⟨A, c, rfl, _⟩ := hr
    unfold mapOk at hR
    generalize edU k = U at *
    generalize numOk i true = n1 at *
    generalize numOk j (hasJ k) = n2 at *
    generalize numOk t (hasK k) = n3 at *
    generalize hasJ k = b1 at *
    generalize hasK k = b2 at *
    generalize hasP k = b3 at *
    generalize hasM k = b4 at *
    have HH1 := Lib.hid HH1
    have HH2 := Lib.hid HH2
    have HH3 := Lib.hid HH3
    have HH4 := Lib.hid HH4
    clear hk hP hf1 e1 e2 e3 e4
    go_enter Tryd.func42, Tryd.ntmps42
    go_wp2_with fail
    refine (HIN.out _).mono ?_
    rintro e w1 ⟨rfl, rfl⟩
    go_wp2_with fail
    refine (HU.out _).mono ?_
    rintro e w2 ⟨rfl, hB2⟩
    have HB2 := Lib.hid hB2
    have HP2 := Lib.hid ((hB2.block pb HPB.out).trans HP.out)
    have HPB2 : Hid (pb < w2.heap.size) := Lib.hid (Nat.lt_of_lt_of_le HPB.out hB2.size)
    obtain ⟨⟨q0, q1, q2, q3, q4, q5⟩, _⟩ := blk6_cells HP2.out
    clear hB2 p0
    go_wp2_with fail
    cases n1
    · rw [Bool.false_and, Bool.false_and] at hR
      subst hR
      go_quiet ((first
            | (go_at_call_of 70 (Value.int .i64 i); exact Calls.quiet_of_same (HN1.out _))
            | (go_at_call_of 70 (Value.int .i64 j); exact Calls.quiet_of_same (HN2.out _))
            | (go_at_call_of 70 (Value.int .i64 t); exact Calls.quiet_of_same (HN3.out _))
            | (go_at_call_of 45 (Value.int .u8 74); exact Calls.quiet_of_same (HH1.out _))
            | (go_at_call_of 45 (Value.int .u8 75); exact Calls.quiet_of_same (HH2.out _))))
      go_wp2_with fail
      go_ret
      exact ⟨rfl, below_drewN HB2.out _⟩
    cases n2
    · rw [Bool.false_and, Bool.and_false, Bool.false_and] at hR
      subst hR
      go_quiet ((first
            | (go_at_call_of 70 (Value.int .i64 i); exact Calls.quiet_of_same (HN1.out _))
            | (go_at_call_of 70 (Value.int .i64 j); exact Calls.quiet_of_same (HN2.out _))
            | (go_at_call_of 70 (Value.int .i64 t); exact Calls.quiet_of_same (HN3.out _))
            | (go_at_call_of 45 (Value.int .u8 74); exact Calls.quiet_of_same (HH1.out _))
            | (go_at_call_of 45 (Value.int .u8 75); exact Calls.quiet_of_same (HH2.out _))))
      go_wp2_with fail
      go_ret
      exact ⟨rfl, below_drewN HB2.out _⟩
    cases n3
    · rw [Bool.and_false, Bool.and_false, Bool.false_and] at hR
      subst hR
      go_quiet ((first
            | (go_at_call_of 70 (Value.int .i64 i); exact Calls.quiet_of_same (HN1.out _))
            | (go_at_call_of 70 (Value.int .i64 j); exact Calls.quiet_of_same (HN2.out _))
            | (go_at_call_of 70 (Value.int .i64 t); exact Calls.quiet_of_same (HN3.out _))
            | (go_at_call_of 45 (Value.int .u8 74); exact Calls.quiet_of_same (HH1.out _))
            | (go_at_call_of 45 (Value.int .u8 75); exact Calls.quiet_of_same (HH2.out _))))
      go_wp2_with fail
      go_ret
      exact ⟨rfl, below_drewN HB2.out _⟩
    by_cases hij : j < i ∧ b1 = true
    · obtain ⟨hij, rfl⟩ := hij
      rw [decide_eq_true hij, Bool.and_true, Bool.not_true, Bool.false_and, Bool.and_false] at hR
      subst hR
      go_quiet ((first
            | (go_at_call_of 70 (Value.int .i64 i); exact Calls.quiet_of_same (HN1.out _))
            | (go_at_call_of 70 (Value.int .i64 j); exact Calls.quiet_of_same (HN2.out _))
            | (go_at_call_of 70 (Value.int .i64 t); exact Calls.quiet_of_same (HN3.out _))
            | (go_at_call_of 45 (Value.int .u8 74); exact Calls.quiet_of_same (HH1.out _))
            | (go_at_call_of 45 (Value.int .u8 75); exact Calls.quiet_of_same (HH2.out _))))
      go_wp2_with fail
      go_ret
      exact ⟨rfl, below_drewN HB2.out _⟩
    have hR' : R = ((decide (0 < gs.length) == b3) && (gOk gs && if b4 = true then decide (m.size = 4) && okL m.data.toList else decide (m.size = 0))) := by
      rw [hR]
      cases b1
      · simp
      · have : ¬ j < i := fun h => hij ⟨h, rfl⟩
        simp [this]
    have hij' : b1 = true → decide (j < i) = false := fun h => decide_eq_false (fun h' => hij ⟨h', h⟩)
    clear hR hij
    cases b1
    case' true => have hij := hij' rfl
    all_goals
      clear hij'
      go_quiet ((first
      | (go_at_call_of 70 (Value.int .i64 i); exact Calls.quiet_of_same (HN1.out _))
      | (go_at_call_of 70 (Value.int .i64 j); exact Calls.quiet_of_same (HN2.out _))
      | (go_at_call_of 70 (Value.int .i64 t); exact Calls.quiet_of_same (HN3.out _))
      | (go_at_call_of 45 (Value.int .u8 74); exact Calls.quiet_of_same (HH1.out _))
      | (go_at_call_of 45 (Value.int .u8 75); exact Calls.quiet_of_same (HH2.out _))))
      go_wp2_with fail
    all_goals
      have hB3 := below_drewN HB2.out nq
      have r4 : (w2.drewN nq).cell? ⟨pb, 4, none⟩ = some (.slice A gs.length c) := q4
      have r5 : (w2.drewN nq).cell? ⟨pb, 5, none⟩ = some (.string m) := q5
      clear q0 q1 q2 q3 q4 q5 HB2 HP2 HPB2 HIN HU HN1 HN2 HN3 HH1 HH2
      generalize w2.drewN nq = w3 at *
      have HB3 := Lib.hid hB3
      have HOK3 := Lib.hid (fun n => HOK.out (w3.drewN n) (below_drewN hB3 n))
      clear hB3 HOK
      by_cases h0 : 0 < gs.length
      · have hx : decide ((0 : Int) < (gs.length : Int)) = true := by simpa using h0
        have hx2 : decide (0 < gs.length) = true := by simpa using h0
        rw [decide_eq_true h0] at hR'
        clear h0
        cases b3
        · rw [show (true == false) = false from rfl, Bool.false_and] at hR'
          subst hR'
          refine wp_region_quiet_lit (by kernel_rfl) (by kernel_rfl) ?_
          repeat (quiet_step (fail))
          refine wpQuiet_step (fun K hK => ?_)
          go_simp
          apply Exists.intro
          refine ⟨fun _ => ?_, hK _ ?_⟩
          (exact Calls.quiet_of_same (HH3.out _))
          clear hK K
          repeat (quiet_step (fail))
          refine wpQuiet_nil ?_
          intro _ hw'
          obtain ⟨nq2, hw''⟩ := hw'
          subst hw''
          go_wp2_with fail
          go_ret
          exact ⟨rfl, below_drewN HB3.out _⟩
        · cases hok : gOk gs
          all_goals
            rw [hok] at HOK3 hR'
            clear hok
            go_region_held3 (fun w' => w'.cell? ⟨pb, 4, none⟩ = some (.slice A gs.length c)) (first | exact r4 | exact HC7.out | go_keep)
              (first
                | (go_at_call 45; refine (HH3.out _).mono ?_; rintro e w7 ⟨rfl, rfl⟩; have HC7 := Lib.hid r4)
                | (go_at_call 71; refine (HOK3.out _).mono ?_; rintro e w8 ⟨rfl, hB8⟩; have hB8' := below_undrew hB8; have HB8 := Lib.hid (HB3.out.trans (hB8'.mono HB3.out.size)); have HC7 := Lib.hid ((hB8'.cell (p := ⟨pb, 4, none⟩) (lt_of_cell r4)).trans r4); have s5 := (hB8'.cell (p := ⟨pb, 5, none⟩) (lt_of_cell r5)).trans r5; clear hB8 hB8'))
          · rw [Bool.false_and, Bool.and_false] at hR'
            subst hR'
            go_wp2_with fail
            go_ret
            exact ⟨rfl, HB8.out⟩
          · rw [Bool.true_and, show (true == true) = true from rfl, Bool.true_and] at hR'
            go_wp2_with fail
            refine (HH4.out _).mono ?_
            rintro e w9 ⟨rfl, rfl⟩
            cases b4
            · rw [if_neg (by decide)] at hR'
              by_cases hm : m.size = 0
              · obtain rfl := bytes_empty hm
                rw [decide_eq_true hm] at hR'
                subst hR'
                go_wp2_with fail
                go_ret
                exact ⟨by first | rfl | simp, HB8.out⟩
              · rw [decide_eq_false hm] at hR'
                subst hR'
                have hme := bytes_ne hm
                go_wp2_with fail
                go_ret
                exact ⟨by first | rfl | (simp; rw [ByteArray.toList_eq]; intro h; rw [h] at hme; cases hme), HB8.out⟩
            · rw [if_pos rfl] at hR'
              by_cases hm : m.size = 4
              · rw [decide_eq_true hm, Bool.true_and] at hR'
                subst hR'
                have hm' : ((m.size : Int) == 4) = true := by simp [hm]
                go_wp2_with fail
                refine (HMS.out _).mono ?_
                rintro e w10 ⟨rfl, rfl⟩
                go_wp2_with fail
                go_ret
                exact ⟨rfl, HB8.out⟩
              · rw [decide_eq_false hm, Bool.false_and] at hR'
                subst hR'
                have hm' : ((m.size : Int) == 4) = false := by simp; omega
                go_wp2_with fail
                go_ret
                exact ⟨rfl, HB8.out⟩
      · have hx : decide ((0 : Int) < (gs.length : Int)) = false := by simpa using h0
        have hx2 : decide (0 < gs.length) = false := by simpa using h0
        rw [decide_eq_false h0] at hR'
        clear h0
        cases b3
        · cases hok : gOk gs
          all_goals
            rw [hok] at HOK3 hR'
            clear hok
            go_region_held3 (fun w' => w'.cell? ⟨pb, 4, none⟩ = some (.slice A gs.length c)) (first | exact r4 | exact HC7.out | go_keep)
              (first
                | (go_at_call 45; refine (HH3.out _).mono ?_; rintro e w7 ⟨rfl, rfl⟩; have HC7 := Lib.hid r4)
                | (go_at_call 71; refine (HOK3.out _).mono ?_; rintro e w8 ⟨rfl, hB8⟩; have hB8' := below_undrew hB8; have HB8 := Lib.hid (HB3.out.trans (hB8'.mono HB3.out.size)); have HC7 := Lib.hid ((hB8'.cell (p := ⟨pb, 4, none⟩) (lt_of_cell r4)).trans r4); have s5 := (hB8'.cell (p := ⟨pb, 5, none⟩) (lt_of_cell r5)).trans r5; clear hB8 hB8'))
          · rw [Bool.false_and, Bool.and_false] at hR'
            subst hR'
            go_wp2_with fail
            go_ret
            exact ⟨rfl, HB8.out⟩
          · rw [Bool.true_and, show (false == false) = true from rfl, Bool.true_and] at hR'
            go_wp2_with fail
            refine (HH4.out _).mono ?_
            rintro e w9 ⟨rfl, rfl⟩
            cases b4
            · rw [if_neg (by decide)] at hR'
              by_cases hm : m.size = 0
              · obtain rfl := bytes_empty hm
                rw [decide_eq_true hm] at hR'
                subst hR'
                go_wp2_with fail
                go_ret
                exact ⟨by first | rfl | simp, HB8.out⟩
              · rw [decide_eq_false hm] at hR'
                subst hR'
                have hme := bytes_ne hm
                go_wp2_with fail
                go_ret
                exact ⟨by first | rfl | (simp; rw [ByteArray.toList_eq]; intro h; rw [h] at hme; cases hme), HB8.out⟩
            · rw [if_pos rfl] at hR'
              by_cases hm : m.size = 4
              · rw [decide_eq_true hm, Bool.true_and] at hR'
                subst hR'
                have hm' : ((m.size : Int) == 4) = true := by simp [hm]
                go_wp2_with fail
                refine (HMS.out _).mono ?_
                rintro e w10 ⟨rfl, rfl⟩
                go_wp2_with fail
                go_ret
                exact ⟨rfl, HB8.out⟩
              · rw [decide_eq_false hm, Bool.false_and] at hR'
                subst hR'
                have hm' : ((m.size : Int) == 4) = false := by simp; omega
                go_wp2_with fail
                go_ret
                exact ⟨rfl, HB8.out⟩
        · rw [show (false == true) = false from rfl, Bool.false_and] at hR'
          subst hR'
          refine wp_region_quiet_lit (by kernel_rfl) (by kernel_rfl) ?_
          repeat (quiet_step (fail))
          refine wpQuiet_step (fun K hK => ?_)
          go_simp
          apply Exists.intro
          refine ⟨fun _ => ?_, hK _ ?_⟩
          (exact Calls.quiet_of_same (HH3.out _))
          clear hK K
          repeat (quiet_step (fail))
          refine wpQuiet_nil ?_
          intro _ hw'
          obtain ⟨nq2, hw''⟩ := hw'
          subst hw''
          go_wp2_with fail
          go_ret
          exact ⟨rfl, below_drewN HB3.out _⟩
end Go.Proofs.YtcaeihdfljljbaaDoor
