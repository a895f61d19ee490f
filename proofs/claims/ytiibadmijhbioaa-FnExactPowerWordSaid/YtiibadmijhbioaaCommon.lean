/-
  Walks: spec.l01Start, impl.CommonStart, spec.CommonStart.
-/
import Derived.Test.YtiibadmijhbioaaOk
import Derived.Outline
namespace Go.Proofs.Ytiibadmijhbioaa
open Go.RowKit
open Wd
set_option linter.unusedVariables false

theorem ret_int {k : IntKind} {a b : Int} (h : a = b) : Ending.returned (.int k a) = .returned (.int k b) := by rw [h]
theorem ret_int2 {k k' : IntKind} {a b c : Int} (h : a = b) : Ending.returned (.tuple #[.int k a, .int k' c]) = .returned (.tuple #[.int k b, .int k' c]) := by rw [h]
/-- at most the tape has moved -/
def Drawn (w w' : World) : Prop := ∃ n, w' = w.drewN n
theorem Drawn.refl (w : World) : Drawn w w := ⟨0, rfl⟩
theorem Drawn.drewN {w w' : World} (h : Drawn w w') (m : Nat) : Drawn w (w'.drewN m) := by
  obtain ⟨n, rfl⟩ := h; exact ⟨n + m, World.drewN_drewN _ _ _⟩
theorem Drawn.trans {w w' w'' : World} (h : Drawn w w') (h' : Drawn w' w'') : Drawn w w'' := by
  obtain ⟨n, rfl⟩ := h'; exact h.drewN n
theorem Drawn.below {w w' : World} (h : Drawn w w') (B : Nat) : Below B w w' := by
  obtain ⟨n, rfl⟩ := h; exact below_drewN (Below.refl _ _) n

set_option maxHeartbeats 400000 in
theorem specStart (u v : ByteArray) (w : World) (hu : u.size ≤ maxLen) (hv : v.size ≤ maxLen) :
    Calls Try.prog 65 #[.string u, .string v] w fun e w' => e = .returned (.int .i64 (lcp u.data.toList v.data.toList)) ∧ Drawn w w' := by
  unfold maxLen at hu hv
  go_enter Try.func65, Try.ntmps65
  go_wp2
  go_loopw [5] (fun i wr => ∃ k : Nat, k ≤ u.size ∧ k ≤ v.size ∧ i = .int .i64 k ∧ u.data.toList.take k = v.data.toList.take k ∧ Drawn w wr) (fun i _ => u.size - (intOf i).toNat)
  case atStart => exact ⟨0, Nat.zero_le _, Nat.zero_le _, rfl, rfl, Drawn.refl _⟩
  case round =>
    obtain ⟨k, hk, hk', rfl, heq, hD⟩ := hrel
    have HE := Lib.hid heq
    clear heq
    by_cases h1 : k < u.size
    · by_cases h2 : k < v.size
      · by_cases h3 : u[k] = v[k]
        · have hs : u.data.toList.take (k + 1) = v.data.toList.take (k + 1) := by rw [take_snoc u k h1, take_snoc v k h2, HE.out, h3]
          have HS := Lib.hid hs
          have h4 : ((u[k].toNat : Int) == (v[k].toNat : Int)) = true := by rw [h3]; simp
          clear h3 hs
          go_wp2
          go_quiet (fail)
          go_wp2
          go_roundw
          case rel => exact ⟨k + 1, by omega, by omega, by go_num, HS.out, hD.drewN _⟩
          case measure => simp [intOf]; omega
        · have hfin : lcp u.data.toList v.data.toList = k := lcp_of _ _ k (by simpa using hk) (by simpa using hk') HE.out (.inr ⟨by simpa using h1, by simpa using h2, h3⟩)
          have h4 : ((u[k].toNat : Int) == (v[k].toNat : Int)) = false := by
            rw [beq_eq_false_iff_ne]; intro h; exact h3 (UInt8.toNat_inj.1 (by omega))
          have HF := Lib.hid hfin
          clear hfin h3
          go_wp2
          go_quiet (fail)
          go_wp2
          go_ret
          exact ⟨ret_int (by rw [HF.out]), hD.drewN _⟩
      · have hfin : lcp u.data.toList v.data.toList = k := lcp_of _ _ k (by simpa using hk) (by simpa using hk') HE.out (.inl (.inr (by simp; omega)))
        have h5 : decide ((k : Int) < (v.size : Int)) = false := by simp; omega
        have HF := Lib.hid hfin
        clear hfin
        go_wp2
        go_quiet (fail)
        go_wp2
        go_ret
        exact ⟨ret_int (by rw [HF.out]), hD.drewN _⟩
    · have hfin : lcp u.data.toList v.data.toList = k := lcp_of _ _ k (by simpa using hk) (by simpa using hk') HE.out (.inl (.inl (by simp; omega)))
      have h5 : decide ((k : Int) < (u.size : Int)) = false := by simp; omega
      have HF := Lib.hid hfin
      clear hfin
      go_wp2
      go_quiet (fail)
      go_wp2
      go_ret
      exact ⟨ret_int (by rw [HF.out]), hD.drewN _⟩

theorem implCommon_bad1 (u v : ByteArray) (w : World) (hu : u.size ≤ maxLen) (hv : v.size ≤ maxLen) (h : okL u.data.toList = false) :
    Calls Try.prog 43 #[.string u, .string v] w fun e w' => e = .returned (.tuple #[.int .i64 0, .int .i64 1]) ∧ Drawn w w' := by
  have H := Lib.hid h
  clear h
  go_enter Try.func43, Try.ntmps43
  go_wp2_with (go_at_call 39; refine (implOk u _ hu).mono ?_; rw [H.out]; rintro e w' ⟨rfl, rfl⟩)
  go_ret2
  exact ⟨rfl, Drawn.refl _⟩
theorem implCommon_bad2 (u v : ByteArray) (w : World) (hu : u.size ≤ maxLen) (hv : v.size ≤ maxLen) (h : okL u.data.toList = true) (h' : okL v.data.toList = false) :
    Calls Try.prog 43 #[.string u, .string v] w fun e w' => e = .returned (.tuple #[.int .i64 0, .int .i64 1]) ∧ Drawn w w' := by
  have H := Lib.hid h
  have H' := Lib.hid h'
  clear h h'
  go_enter Try.func43, Try.ntmps43
  go_wp2_with fail
  refine (implOk u _ hu).mono ?_; rw [H.out]; rintro e w' ⟨rfl, rfl⟩
  go_wp2_with fail
  refine (implOk v _ hv).mono ?_; rw [H'.out]; rintro e w' ⟨rfl, rfl⟩
  go_wp2
  go_ret2
  exact ⟨rfl, Drawn.refl _⟩

theorem specCommon_bad1 (u v : ByteArray) (w : World) (hu : u.size ≤ maxLen) (hv : v.size ≤ maxLen) (h : okL u.data.toList = false) :
    Calls Try.prog 42 #[.string u, .string v] w fun e w' => e = .returned (.tuple #[.int .i64 0, .int .i64 1]) ∧ Drawn w w' := by
  have H := Lib.hid h
  clear h
  go_enter Try.func42, Try.ntmps42
  go_wp2_with (go_at_call 62; refine (specOk u _ hu).mono ?_; rw [H.out]; rintro e w' ⟨rfl, rfl⟩)
  go_ret2
  exact ⟨rfl, Drawn.refl _⟩
theorem specCommon_bad2 (u v : ByteArray) (w : World) (hu : u.size ≤ maxLen) (hv : v.size ≤ maxLen) (h : okL u.data.toList = true) (h' : okL v.data.toList = false) :
    Calls Try.prog 42 #[.string u, .string v] w fun e w' => e = .returned (.tuple #[.int .i64 0, .int .i64 1]) ∧ Drawn w w' := by
  have H := Lib.hid h
  have H' := Lib.hid h'
  clear h h'
  go_enter Try.func42, Try.ntmps42
  go_wp2_with fail
  refine (specOk u _ hu).mono ?_; rw [H.out]; rintro e w' ⟨rfl, rfl⟩
  go_wp2_with fail
  refine (specOk v _ hv).mono ?_; rw [H'.out]; rintro e w' ⟨rfl, rfl⟩
  go_wp2
  go_ret2
  exact ⟨rfl, Drawn.refl _⟩

theorem specCommon_ok (u v : ByteArray) (w : World) (hu : u.size ≤ maxLen) (hv : v.size ≤ maxLen) (h : okL u.data.toList = true) (h' : okL v.data.toList = true) :
    Calls Try.prog 42 #[.string u, .string v] w fun e w' => e = .returned (.tuple #[.int .i64 (lcp u.data.toList v.data.toList), .int .i64 0]) ∧ Drawn w w' := by
  have H := Lib.hid h
  have H' := Lib.hid h'
  clear h h'
  go_enter Try.func42, Try.ntmps42
  go_wp2_with fail
  refine (specOk u _ hu).mono ?_; rw [H.out]; rintro e w' ⟨rfl, rfl⟩
  go_wp2_with fail
  refine (specOk v _ hv).mono ?_; rw [H'.out]; rintro e w' ⟨rfl, rfl⟩
  go_wp2_with fail
  refine (specStart u v _ hu hv).mono ?_; rintro e w' ⟨rfl, hD⟩
  go_wp2
  go_ret2
  exact ⟨rfl, hD⟩

set_option maxHeartbeats 400000 in
theorem implCommon_ok (u v : ByteArray) (w : World) (hu : u.size ≤ maxLen) (hv : v.size ≤ maxLen) (h : okL u.data.toList = true) (h' : okL v.data.toList = true) :
    Calls Try.prog 43 #[.string u, .string v] w fun e w' => e = .returned (.tuple #[.int .i64 (lcp u.data.toList v.data.toList), .int .i64 0]) ∧ Drawn w w' := by
  have c1 := fun w => implOk u w hu
  have c2 := fun w => implOk v w hv
  rw [h] at c1
  rw [h'] at c2
  have H1 := Lib.hid c1
  have H2 := Lib.hid c2
  clear h h' c1 c2
  unfold maxLen at hu hv
  go_enter Try.func43, Try.ntmps43
  go_wp2_with fail
  refine (H1.out _).mono ?_; rintro e w' ⟨rfl, rfl⟩
  go_wp2_with fail
  refine (H2.out _).mono ?_; rintro e w' ⟨rfl, rfl⟩
  go_wp2
  go_loopw [6] (fun i wr => ∃ k : Nat, k ≤ u.size ∧ k ≤ v.size ∧ i = .int .i64 k ∧ u.data.toList.take k = v.data.toList.take k ∧ Drawn w wr) (fun i _ => u.size - (intOf i).toNat)
  case atStart => exact ⟨0, Nat.zero_le _, Nat.zero_le _, rfl, rfl, Drawn.refl _⟩
  case round =>
    obtain ⟨k, hk, hk', rfl, heq, hD⟩ := hrel
    have HE := Lib.hid heq
    clear heq
    by_cases h1 : k < u.size
    · by_cases h2 : k < v.size
      · by_cases h3 : u[k] = v[k]
        · have hs : u.data.toList.take (k + 1) = v.data.toList.take (k + 1) := by rw [take_snoc u k h1, take_snoc v k h2, HE.out, h3]
          have HS := Lib.hid hs
          have h4 : ((u[k].toNat : Int) == (v[k].toNat : Int)) = true := by rw [h3]; simp
          clear h3 hs
          go_wp2
          go_quiet (fail)
          go_wp2
          go_roundw
          case rel => exact ⟨k + 1, by omega, by omega, by go_num, HS.out, hD.drewN _⟩
          case measure => simp [intOf]; omega
        · have hfin : lcp u.data.toList v.data.toList = k := lcp_of _ _ k (by simpa using hk) (by simpa using hk') HE.out (.inr ⟨by simpa using h1, by simpa using h2, h3⟩)
          have h4 : ((u[k].toNat : Int) == (v[k].toNat : Int)) = false := by
            rw [beq_eq_false_iff_ne]; intro h; exact h3 (UInt8.toNat_inj.1 (by omega))
          have HF := Lib.hid hfin
          clear hfin h3
          go_wp2
          go_quiet (fail)
          go_wp2
          go_ret2
          exact ⟨ret_int2 (by rw [HF.out]), hD.drewN _⟩
      · have hfin : lcp u.data.toList v.data.toList = k := lcp_of _ _ k (by simpa using hk) (by simpa using hk') HE.out (.inl (.inr (by simp; omega)))
        have h5 : decide ((k : Int) < (v.size : Int)) = false := by simp; omega
        have HF := Lib.hid hfin
        clear hfin
        go_wp2
        go_quiet (fail)
        go_wp2
        go_ret2
        exact ⟨ret_int2 (by rw [HF.out]), hD.drewN _⟩
    · have hfin : lcp u.data.toList v.data.toList = k := lcp_of _ _ k (by simpa using hk) (by simpa using hk') HE.out (.inl (.inl (by simp; omega)))
      have h5 : decide ((k : Int) < (u.size : Int)) = false := by simp; omega
      have HF := Lib.hid hfin
      clear hfin
      go_wp2
      go_quiet (fail)
      go_wp2
      go_ret2
      exact ⟨ret_int2 (by rw [HF.out]), hD.drewN _⟩
end Go.Proofs.Ytiibadmijhbioaa
