/-
  Walks: impl.isLetter, impl.ValidWord, spec.l01Ok, spec.ValidWord: each tells whether a text is a plain word, at every string.
-/
import Derived.Test.YtdfdeppfhadopaaProg
import Derived.Test.YtdfdeppfhadopaaMath
import Derived.WalkSpells
import Derived.WalkLawsBesides
import Derived.BigQuiet
import Derived.Deep.QuietTactic
import Derived.Lib.Hide
import Derived.Lib.Strings
namespace Go.Proofs.Ytdfdeppfhadopaa
open Go.RowKit
open Wd

theorem ret_bool {a b : Bool} (h : a = b) : Ending.returned (.bool a) = .returned (.bool b) := by rw [h]

theorem implLetter0 (s : ByteArray) (w : World) (h0 : 0 < s.size) (hz : ((s.size : Int) == 1) = true) :
    Calls Try.prog 29 #[.string s] w fun e w' => e = .returned (.bool (lt s[0])) ∧ w = w' := by
  by_cases h1 : (s[0].toNat : Int) < 97
  · go_enter Try.func29, Try.ntmps29
    go_wp2
    go_ret
    exact ⟨ret_bool (lt_low h1).symm, rfl⟩
  · by_cases h2 : (100 : Int) < (s[0].toNat : Int)
    · go_enter Try.func29, Try.ntmps29
      go_wp2
      go_ret
      exact ⟨ret_bool (by rw [lt_high h2]; simp; omega), rfl⟩
    · go_enter Try.func29, Try.ntmps29
      go_wp2
      go_ret
      exact ⟨ret_bool (lt_true (by omega) (by omega)).symm, rfl⟩
/-- impl.isLetter at a text of one byte -/
theorem implLetter (s : ByteArray) (c : UInt8) (w : World) (hs : s.data.toList = [c]) :
    Calls Try.prog 29 #[.string s] w fun e w' => e = .returned (.bool (lt c)) ∧ w = w' := by
  have h1 : s.size = 1 := by have := congrArg List.length hs; simpa using this
  have h0 : 0 < s.size := by omega
  have hc : s[0] = c := by
    have : s[0] = s.data.toList[0]'(by simpa using h0) := rfl
    rw [this]; simp [hs]
  rw [← hc]
  exact implLetter0 s w h0 (by simp; omega)

/-- impl.ValidWord -/
theorem implOk (s : ByteArray) (w : World) (hs : s.size ≤ maxLen) :
    Calls Try.prog 20 #[.string s] w fun e w' => e = .returned (.bool (okL s.data.toList)) ∧ w = w' := by
  unfold maxLen at hs
  by_cases hbig : 2000 < s.size
  · go_enter Try.func20, Try.ntmps20
    go_wp2
    go_ret
    exact ⟨ret_bool (okL_long (by simpa using hbig)).symm, rfl⟩
  · go_enter Try.func20, Try.ntmps20
    go_wp2
    go_loop [9] (fun i => ∃ k : Nat, k ≤ s.size ∧ i = .int .i64 k ∧ (s.data.toList.take k).all lt = true) (fun i => s.size - (intOf i).toNat)
    case atStart => exact ⟨0, Nat.zero_le _, rfl, rfl⟩
    case round =>
      obtain ⟨k, hk, rfl, hall⟩ := hrel
      by_cases hlt : k < s.size
      · have hsn := take_snoc s k hlt
        have HS : Hid (s.data.toList.take (k + 1) = s.data.toList.take k ++ [s[k]]) := hsn
        have HA : Hid ((s.data.toList.take k).all lt = true) := hall
        have hone : (s.extract k (k + 1)).data.toList = [s[k]] := extract_one s k hlt
        have HO := Lib.hid hone
        clear hsn hall hone
        cases hb : lt s[k]
        · have HB := Lib.hid hb
          clear hb
          go_wp2_with (go_at_call 29; refine (implLetter _ s[k] _ HO.out).mono ?_; rw [HB.out]; rintro e w' ⟨rfl, rfl⟩)
          go_ret
          exact ⟨ret_bool (okL_bad (i := k) (by simpa using hlt) HB.out).symm, rfl⟩
        · have HB := Lib.hid hb
          clear hb
          go_wp2_with (go_at_call 29; refine (implLetter _ s[k] _ HO.out).mono ?_; rw [HB.out]; rintro e w' ⟨rfl, rfl⟩)
          go_round
          case rel => exact ⟨k + 1, by omega, by go_num, by rw [HS.out, List.all_append, HA.out]; simp [HB.out]⟩
          case measure => simp [intOf]; omega
      · have hk' : k = s.size := by omega
        have hfin : okL s.data.toList = true := okL_of (by simp; omega) (by rw [← hall, List.take_of_length_le (by simp; omega)])
        have HF : Hid (okL s.data.toList = true) := hfin
        clear hfin hall
        go_wp2
        go_ret
        exact ⟨ret_bool HF.out.symm, rfl⟩

end Go.Proofs.Ytdfdeppfhadopaa
