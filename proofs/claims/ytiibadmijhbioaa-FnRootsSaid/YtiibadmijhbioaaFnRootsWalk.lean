/-
  The walk of FnRoots.
-/
import Derived.Test.YtiibadmijhbioaaLawRow
import Derived.Test.YtiibadmijhbioaaPowerI
import Derived.Test.YtiibadmijhbioaaRootI
import Derived.Test.YtiibadmijhbioaaCyc
namespace Go.Proofs.Ytiibadmijhbioaa.fnRoots
open Go.RowKit Wd
set_option linter.unusedVariables false

theorem few_ok {l : List UInt8} (h : Few l) (hs : l.length ≤ 2000) : okL l = true := by
  simp only [okL, Bool.and_eq_true, decide_eq_true_eq, List.all_eq_true]
  refine ⟨hs, fun c hc => ?_⟩
  obtain ⟨h1, h2⟩ := h c hc
  simp only [lt, Bool.and_eq_true, decide_eq_true_eq]
  exact ⟨h1, Nat.le_trans h2 (by decide)⟩
theorem few_cut {s : ByteArray} (h : Few s.data.toList) (p : Nat) : Few (s.extract 0 p).data.toList := by
  intro c hc
  apply h
  rw [ByteArray.data_extract, Array.toList_extract, List.extract_eq_take_drop] at hc
  exact List.mem_of_mem_drop (List.mem_of_mem_take hc)
theorem wf_small (k : Nat) (h : k ≤ 1000) : (Lit.int .i64 (k : Int)).wf = true := by
  simp [Lit.wf, IntKind.min, IntKind.max, IntKind.signed, IntKind.bits]; omega

/-- what is told of a word's root, and of another's -/
theorem commutes {s t : ByteArray} {p q : Nat} (hs : IsRt s p) (ht : IsRt t q) : ((s ++ t).toList == (t ++ s).toList) = ((t.extract 0 q).toList == (s.extract 0 p).toList) := by
  rw [ByteArray.toList_eq, ByteArray.toList_eq, ByteArray.toList_eq, ByteArray.toList_eq, Bool.eq_iff_iff, beq_iff_eq, beq_iff_eq]
  constructor
  · intro h
    rw [comm_root (by cases h1 : s ++ t; cases h2 : t ++ s; rw [h1, h2] at h; simp at h; rw [h]) hs ht]
  · intro h
    have hp : s.data.toList = Lib.repeatL (s.extract 0 p).data.toList (s.size / p) := (congrArg (fun x : ByteArray => x.data.toList) hs.power).symm
    have hq : t.data.toList = Lib.repeatL (s.extract 0 p).data.toList (t.size / q) := by
      rw [← h]; exact (congrArg (fun x : ByteArray => x.data.toList) ht.power).symm
    rw [ByteArray.data_append, ByteArray.data_append, Array.toList_append, Array.toList_append, hp, hq, ← Lib.repeatL_add, ← Lib.repeatL_add, Nat.add_comm]
theorem cut_self {r : ByteArray} {p : Nat} (h : r.size = p) : r.extract 0 p = r := by
  subst h
  apply ba_ext (size_cut (Nat.le_refl _))
  intro i hi
  rw [size_cut (Nat.le_refl _)] at hi
  exact at0_cut hi (Nat.le_refl _)

set_option maxRecDepth 100000 in
set_option maxHeartbeats 3200000 in
theorem walk (a0 : Option Addr) (len0 cap0 : Nat) (z0 : List Int) (a1 : Option Addr) (len1 cap1 : Nat) (z1 : List Int) (w : World) (w0 : IsRow .u8 w a0 len0 cap0 z0) (w1 : IsRow .u8 w a1 len1 cap1 z1) :
    Calls Try.prog 5 #[.slice a0 len0 cap0, .slice a1 len1 cap1] w fun e w' => e = .returned (.bool true) ∧ Below w.heap.size w w' := by
  have b0 := bytes_of w0
  have b1 := bytes_of w1
  clear w0 w1
  by_cases hlong : ¬ (len0 ≤ 3000 ∧ len1 ≤ 3000)
  · have H1 := Lib.hid (a2Long_out a0 a1 len0 len1 cap0 cap1 w hlong)
    clear hlong b0 b1
    go_enter Try.func5, Try.ntmps5
    go_wp2_with fail
    refine H1.out.mono ?_; rintro e w' ⟨rfl, rfl⟩
    go_wp2
    go_ret
    exact ⟨rfl, Below.refl _ _⟩
  obtain ⟨hl0, hl1⟩ := Classical.not_not.1 hlong
  clear hlong
  have H1 := Lib.hid (a2Long_in a0 a1 len0 len1 cap0 cap1 w hl0 hl1)
  go_enter Try.func5, Try.ntmps5
  go_wp2_with fail
  refine H1.out.mono ?_; rintro e w' ⟨rfl, hw⟩
  have hw := hw.symm
  subst hw
  have H2 := Lib.hid (a2Word a0 len0 cap0 w (by omega) b0 12 (by decide) (by decide))
  go_wp2_with fail
  refine H2.out.mono ?_; rintro e w1 ⟨s, rfl, hs1, hs2, hB1⟩
  have H3 := Lib.hid (a2Word a1 len1 cap1 w1 (by omega) (b1.kept hB1) 6 (by decide) (by decide))
  go_wp2_with fail
  refine H3.out.mono ?_; rintro e w2 ⟨t, rfl, ht1, ht2, hB2⟩
  have hB02 := hB1.trans (hB2.mono hB1.size)
  clear hB1 hB2 b0 b1 H1 H2 H3
  have hs3 : s.size ≤ 12 := by omega
  have ht3 : t.size ≤ 6 := by omega
  have hsk := few_ok hs2 (by simp; omega)
  have htk := few_ok ht2 (by simp; omega)
  by_cases hs0 : s.size = 0
  · have H4 := Lib.hid (fun w' => implRoot_empty s w' (by unfold maxLen; omega) hsk hs0)
    have hse : s = ⟨#[]⟩ := by
      have : s.data = #[] := Array.eq_empty_of_size_eq_zero hs0
      cases s; simp at this; rw [this]
    subst hse
    clear hsk htk hs0
    go_wp2_with fail
    refine (H4.out _).mono ?_; rintro e w3 ⟨rfl, hB3⟩
    go_wp2
    go_ret
    exact ⟨rfl, hB02.trans (hB3.mono hB02.size)⟩
  obtain ⟨p, hp⟩ := rt_exists (s := s) (by omega)
  have hp1 := hp.1.1
  have hp2 := hp.1.2.1
  obtain ⟨r, hr⟩ : ∃ r : ByteArray, r = s.extract 0 p := ⟨_, rfl⟩
  obtain ⟨k, hk⟩ : ∃ k : Nat, k = s.size / p := ⟨_, rfl⟩
  have hkc : (s.size : Int) / (p : Int) = (k : Int) := by rw [hk]; simp
  have hk1 : 1 ≤ k := by rw [hk]; exact Nat.div_pos hp2 hp1
  have hk2 : k ≤ 12 := by rw [hk]; exact Nat.le_trans (Nat.div_le_self _ _) hs3
  have hrz : r.size = p := by rw [hr]; exact size_cut hp2
  have hrf : Few r.data.toList := by rw [hr]; exact few_cut hs2 p
  have hrp : IsRt r p := by rw [hr]; exact hp.cut hp.1 hp.2.1
  have H4 := fun w' => implRoot_ok s p w' (by omega) hsk (by omega) hp
  rw [hkc, ← hr] at H4
  have hpow : PowSaid r (k : Int) s 0 := .inr (.inr (.inr (.inr ⟨few_ok hrf (by simp; omega), by omega, k, rfl, Nat.le_trans (Nat.mul_le_mul (show r.size ≤ 12 by omega) hk2) (by decide), by rw [hr, hk]; exact hp.power.symm, rfl⟩)))
  have H5 := fun w' => implPower r (k : Int) s 0 w' (by unfold maxLen; omega) (wf_small k (by omega)) hpow
  have H6 := fun w' => implRoot_ok r p w' (by omega) (few_ok hrf (by simp; omega)) (by omega) hrp
  rw [cut_self hrz, hrz, Int.ediv_self (by omega)] at H6
  have H4 := Lib.hid H4
  have H5 := Lib.hid H5
  have H6 := Lib.hid H6
  have t1 : ¬ (k : Int) < 1 := by omega
  have t2 : ¬ (s.size : Int) = 0 := by omega
  have HP := Lib.hid hp
  have HR := Lib.hid hr
  clear hp hr hk hkc hrz hrf hrp hpow
  by_cases ht0 : t.size = 0
  · have t3 : (t.size : Int) = 0 := by omega
    go_wp2_with fail
    refine (H4.out _).mono ?_; rintro e w3 ⟨rfl, hB3⟩
    have HB3 := hB02.trans (hB3.mono hB02.size)
    go_wp2_with fail
    refine (H5.out _).mono ?_; rintro e w4 ⟨rfl, hB4⟩
    have HB4 := HB3.trans (hB4.mono HB3.size)
    go_wp2_with fail
    refine (H6.out _).mono ?_; rintro e w5 ⟨rfl, hB5⟩
    have HB5 := HB4.trans (hB5.mono HB4.size)
    clear H4 H5 H6 hB3 hB4 hB5
    go_wp2
    go_ret
    exact ⟨rfl, HB5⟩
  · have t3 : ¬ (t.size : Int) = 0 := by omega
    obtain ⟨q, hq⟩ := rt_exists (s := t) (by omega)
    have hcm := commutes HP.out hq
    rw [← HR.out] at hcm
    have H7 := Lib.hid (fun w' => implRoot_ok t q w' (by omega) htk (by omega) hq)
    clear hq
    generalize t.extract 0 q = T at hcm H7
    generalize (t.size : Int) / (q : Int) = m at H7
    go_wp2_with fail
    refine (H4.out _).mono ?_; rintro e w3 ⟨rfl, hB3⟩
    have HB3 := hB02.trans (hB3.mono hB02.size)
    go_wp2_with fail
    refine (H5.out _).mono ?_; rintro e w4 ⟨rfl, hB4⟩
    have HB4 := HB3.trans (hB4.mono HB3.size)
    go_wp2_with fail
    refine (H6.out _).mono ?_; rintro e w5 ⟨rfl, hB5⟩
    have HB5 := HB4.trans (hB5.mono HB4.size)
    clear H4 H5 H6 hB3 hB4 hB5
    go_wp2_with fail
    refine (H7.out _).mono ?_; rintro e w6 ⟨rfl, hB6⟩
    have HB6 := HB5.trans (hB6.mono HB5.size)
    clear H7 hB6
    go_wp2
    go_ret
    exact ⟨rfl, HB6⟩
end Go.Proofs.Ytiibadmijhbioaa.fnRoots
