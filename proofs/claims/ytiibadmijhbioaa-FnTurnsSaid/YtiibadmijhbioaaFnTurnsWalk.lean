/-
  The walk of FnTurns.
-/
import Derived.Test.YtiibadmijhbioaaLawRow
import Derived.Test.YtiibadmijhbioaaPalI
import Derived.Test.YtiibadmijhbioaaTurnW
import Derived.Test.YtiibadmijhbioaaPowerI
namespace Go.Proofs.Ytiibadmijhbioaa.fnTurns
open Go.RowKit Wd
set_option linter.unusedVariables false

theorem few_ok {l : List UInt8} (h : Few l) (hs : l.length ≤ 2000) : okL l = true := by
  simp only [okL, Bool.and_eq_true, decide_eq_true_eq, List.all_eq_true]
  refine ⟨hs, fun c hc => ?_⟩
  obtain ⟨h1, h2⟩ := h c hc
  simp only [lt, Bool.and_eq_true, decide_eq_true_eq]
  exact ⟨h1, Nat.le_trans h2 (by decide)⟩
theorem few_rev {l : List UInt8} (h : Few l) : Few l.reverse := fun c hc => h c (List.mem_reverse.1 hc)
theorem few_append {l m : List UInt8} (h : Few l) (h' : Few m) : Few (l ++ m) := by
  intro c hc
  rcases List.mem_append.1 hc with hc | hc
  · exact h c hc
  · exact h' c hc
theorem few_rep {l : List UInt8} (h : Few l) : ∀ k, Few (Lib.repeatL l k)
  | 0 => fun c hc => by simp [Lib.repeatL] at hc
  | k + 1 => few_append h (few_rep h k)
theorem rep_rep (l : List UInt8) (a : Nat) : ∀ b, Lib.repeatL (Lib.repeatL l a) b = Lib.repeatL l (a * b)
  | 0 => rfl
  | b + 1 => by
    show Lib.repeatL l a ++ Lib.repeatL (Lib.repeatL l a) b = _
    rw [Nat.mul_succ, Nat.add_comm (a * b) a, Lib.repeatL_add, rep_rep l a b]
/-- what PowerWord answers on few letters, few times -/
theorem said_rep (u : ByteArray) (k : Nat) (hf : Few u.data.toList) (h : u.size * k ≤ 2000) (hu : u.size ≤ 2000) : PowSaid u k ⟨(Lib.repeatL u.data.toList k).toArray⟩ 0 := by
  have ho : okL u.data.toList = true := few_ok hf (by simpa using hu)
  by_cases h0 : u.size = 0
  · refine .inr (.inr (.inl ⟨ho, h0, by omega, ?_, rfl⟩))
    have e : u.data.toList = [] := List.eq_nil_of_length_eq_zero (by simpa using h0)
    rw [e, Lib.repeatL_nil]
  · exact .inr (.inr (.inr (.inr ⟨ho, by omega, k, rfl, h, rfl, rfl⟩)))

theorem le_mul {a b : Nat} (h : a < 4) (h' : b ≤ 14) : a * b ≤ 42 := Nat.mul_le_mul (Nat.le_of_lt_succ h) h'
theorem le_mul' {a b : Nat} (h : a < 4) (h' : b ≤ 42) : a * b ≤ 126 := Nat.mul_le_mul (Nat.le_of_lt_succ h) h'
theorem le_mul3 {a b : Nat} (h : a < 4) (h' : b < 4) : a * b ≤ 9 := Nat.mul_le_mul (Nat.le_of_lt_succ h) (Nat.le_of_lt_succ h')
theorem le_mul4 {a b : Nat} (h : a ≤ 9) (h' : b ≤ 14) : b * a ≤ 2000 := Nat.le_trans (Nat.mul_le_mul h' h) (by decide)
theorem wf_small (k : Nat) (h : k ≤ 1000) : (Lit.int .i64 (k : Int)).wf = true := by
  simp [Lit.wf, IntKind.min, IntKind.max, IntKind.signed, IntKind.bits]; omega

set_option maxRecDepth 100000 in
set_option maxHeartbeats 1600000 in
theorem walk (a0 : Option Addr) (len0 cap0 : Nat) (z0 : List Int) (a1 : Option Addr) (len1 cap1 : Nat) (z1 : List Int) (w : World) (w0 : IsRow .u8 w a0 len0 cap0 z0) (w1 : IsRow .u8 w a1 len1 cap1 z1) :
    Calls Try.prog 3 #[.slice a0 len0 cap0, .slice a1 len1 cap1] w fun e w' => e = .returned (.bool true) ∧ Below w.heap.size w w' := by
  have b0 := bytes_of w0
  have b1 := bytes_of w1
  clear w0 w1
  by_cases hlong : ¬ (len0 ≤ 3000 ∧ len1 ≤ 3000)
  · have H1 := Lib.hid (a2Long_out a0 a1 len0 len1 cap0 cap1 w hlong)
    clear hlong b0 b1
    go_enter Try.func3, Try.ntmps3
    go_wp2_with fail
    refine H1.out.mono ?_; rintro e w' ⟨rfl, rfl⟩
    go_wp2
    go_ret
    exact ⟨rfl, Below.refl _ _⟩
  obtain ⟨hl0, hl1⟩ := Classical.not_not.1 hlong
  clear hlong
  have H1 := Lib.hid (a2Long_in a0 a1 len0 len1 cap0 cap1 w hl0 hl1)
  go_enter Try.func3, Try.ntmps3
  go_wp2_with fail
  refine H1.out.mono ?_; rintro e w' ⟨rfl, hw⟩
  have hw := hw.symm
  subst hw
  have H2 := Lib.hid (a2Word a0 len0 cap0 w (by omega) b0 14 (by decide) (by decide))
  go_wp2_with fail
  refine H2.out.mono ?_; rintro e w1 ⟨u, rfl, hu1, hu2, hB1⟩
  have hu3 : u.size ≤ 14 := by omega
  have hul : u.data.toList.length = u.size := by simp
  obtain ⟨t, ht⟩ : ∃ t : ByteArray, t = ⟨u.data.toList.reverse.toArray⟩ := ⟨_, rfl⟩
  have htl : t.data.toList = u.data.toList.reverse := by rw [ht]
  have hts : t.size = u.size := by rw [ht, size_of]; simp
  have htt : (⟨t.data.toList.reverse.toArray⟩ : ByteArray) = u := by rw [htl, List.reverse_reverse]
  have H3 := implTurnWord_ok u w1 (by unfold maxLen; omega) (few_ok hu2 (by omega))
  rw [← ht] at H3
  have H3 := Lib.hid H3
  have H4 := fun w2 => implTurnWord_ok t w2 (by unfold maxLen; omega) (by rw [htl]; exact few_ok (few_rev hu2) (by simp; omega))
  rw [htt] at H4
  have H4 := Lib.hid H4
  have hadd : (u ++ t).data.toList = u.data.toList ++ u.data.toList.reverse := by rw [ByteArray.data_append, Array.toList_append, htl]
  have H5 := fun w2 => implPal_ok (u ++ t) w2 (by rw [ByteArray.size_append]; unfold maxLen; omega) (by rw [hadd]; exact few_ok (few_append hu2 (few_rev hu2)) (by simp; omega))
  rw [hadd, show (u.data.toList ++ u.data.toList.reverse).reverse = u.data.toList ++ u.data.toList.reverse from by simp, decide_eq_true rfl] at H5
  have H5 := Lib.hid H5
  have H6 := Lib.hid (fun w2 => implPal_ok u w2 (by unfold maxLen; omega) (few_ok hu2 (by omega)))
  have hE : (u.toList == t.toList) = decide (u.data.toList.reverse = u.data.toList) := by
    rw [ByteArray.toList_eq, ByteArray.toList_eq, htl, Bool.eq_iff_iff, beq_iff_eq, decide_eq_true_iff]
    exact ⟨Eq.symm, Eq.symm⟩
  clear ht htl htt hadd
  generalize decide (u.data.toList.reverse = u.data.toList) = d at hE H6
  go_wp2_with fail
  refine H3.out.mono ?_; rintro e w2 ⟨rfl, hB2⟩
  go_wp2_with fail
  refine (H4.out _).mono ?_; rintro e w3 ⟨rfl, hB3⟩
  go_wp2_with fail
  refine (H5.out _).mono ?_; rintro e w4 ⟨rfl, hB4⟩
  go_wp2_with fail
  refine (H6.out _).mono ?_; rintro e w5 ⟨rfl, hB5⟩
  have hB05 := (((hB1.trans (hB2.mono hB1.size)).trans (hB3.mono (hB1.trans (hB2.mono hB1.size)).size)).trans (hB4.mono ((hB1.trans (hB2.mono hB1.size)).trans (hB3.mono (hB1.trans (hB2.mono hB1.size)).size)).size))
  have hB06 := hB05.trans (hB5.mono hB05.size)
  have b15 := b1.kept hB06
  clear hB1 hB2 hB3 hB4 hB5 hB05 H1 H2 H3 H4 H5 H6 b1 b0
  have H7 : Calls Try.prog 19 #[.slice a1 len1 cap1, .int .i64 0, .int .i64 4] w5 fun e w' => ∃ r : Nat, e = .returned (.int .i64 (r : Int)) ∧ r < 4 ∧ Drawn w5 w' := a2At a1 len1 cap1 w5 (by omega) b15 0 4 (by decide) (by decide) (by decide)
  have H7 := Lib.hid H7
  have HB6 := Lib.hid hB06
  have B15 := Lib.hid b15
  clear hB06 b15
  cases d
  all_goals go_wp2_with fail
  all_goals refine H7.out.mono ?_
  all_goals rintro e w6 ⟨x, rfl, hx, hD6⟩
  all_goals have hB7 := HB6.out.trans ((hD6.below w5.heap.size).mono HB6.out.size)
  all_goals have b16 := B15.out.kept (hD6.below w5.heap.size)
  all_goals have H8 : Calls Try.prog 19 #[.slice a1 len1 cap1, .int .i64 1, .int .i64 4] w6 fun e w' => ∃ r : Nat, e = .returned (.int .i64 (r : Int)) ∧ r < 4 ∧ Drawn w6 w' := a2At a1 len1 cap1 w6 (by omega) b16 1 4 (by decide) (by decide) (by decide)
  all_goals have H8 := Lib.hid H8
  all_goals have HB7 := Lib.hid hB7
  all_goals clear hB7 hD6 H7 B15 HB6 b16
  all_goals go_wp2_with fail
  all_goals refine H8.out.mono ?_
  all_goals rintro e w7 ⟨y, rfl, hy, hD7⟩
  all_goals have HB8 := HB7.out.trans ((hD7.below w6.heap.size).mono HB7.out.size)
  all_goals clear HB7 hD7 H8
  all_goals obtain ⟨p, hp⟩ : ∃ p : ByteArray, p = ⟨(Lib.repeatL u.data.toList x).toArray⟩ := ⟨_, rfl⟩
  all_goals obtain ⟨q, hq⟩ : ∃ q : ByteArray, q = ⟨(Lib.repeatL p.data.toList y).toArray⟩ := ⟨_, rfl⟩
  all_goals have hps : p.size ≤ 42 := by rw [hp, size_of, Lib.repeatL_length, hul]; exact le_mul hx hu3
  all_goals have hpf : Few p.data.toList := by rw [hp]; exact few_rep hu2 x
  all_goals have hqz : q = ⟨(Lib.repeatL u.data.toList (x * y)).toArray⟩ := by rw [hq, hp, ← rep_rep]
  all_goals have H9 := fun w' => implPower u x _ 0 w' (by unfold maxLen; omega) (wf_small x (by omega)) (said_rep u x hu2 (by rw [Nat.mul_comm]; exact Nat.le_trans (le_mul hx hu3) (by decide)) (by omega))
  all_goals rw [← hp] at H9
  all_goals have H10 := fun w' => implPower p y _ 0 w' (by unfold maxLen; omega) (wf_small y (by omega)) (said_rep p y hpf (by rw [Nat.mul_comm]; exact Nat.le_trans (le_mul' hy hps) (by decide)) (by omega))
  all_goals rw [← hq] at H10
  all_goals have hxy := le_mul3 hx hy
  all_goals have H11 := fun w' => implPower u ((x * y : Nat) : Int) _ 0 w' (by unfold maxLen; omega) (wf_small (x * y) (by omega)) (said_rep u (x * y) hu2 (le_mul4 hxy hu3) (by omega))
  all_goals rw [← hqz, Int.natCast_mul] at H11
  all_goals have t9 : wrap64 ((x : Int) * (y : Int)) = (x : Int) * (y : Int) := by rw [← Int.natCast_mul]; unfold wrap64; omega
  all_goals have H9 := Lib.hid H9
  all_goals have H10 := Lib.hid H10
  all_goals have H11 := Lib.hid H11
  all_goals clear hp hq hqz hps hpf hx hy hxy hu1 hu2 hu3 hul hts
  all_goals go_wp2_with fail
  all_goals refine (H9.out _).mono ?_
  all_goals rintro e w8 ⟨rfl, hB8⟩
  all_goals have HB9 := HB8.trans (hB8.mono HB8.size)
  all_goals clear hB8 HB8 H9
  all_goals go_wp2_with fail
  all_goals refine (H10.out _).mono ?_
  all_goals rintro e w9 ⟨rfl, hB9⟩
  all_goals have HB10 := HB9.trans (hB9.mono HB9.size)
  all_goals clear hB9 HB9 H10
  all_goals go_wp2_with fail
  all_goals refine (H11.out _).mono ?_
  all_goals rintro e w10 ⟨rfl, hB10⟩
  all_goals have HB11 := HB10.trans (hB10.mono HB10.size)
  all_goals clear hB10 HB10 H11 hE
  all_goals go_wp2
  all_goals go_ret
  all_goals exact ⟨rfl, HB11⟩
end Go.Proofs.Ytiibadmijhbioaa.fnTurns
