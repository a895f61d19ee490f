/-
  Walk: laws.markText: a text that depends on the number alone.
-/
import Derived.Test.YtcaeihdfljljbaaBase
import Derived.Outline
namespace Go.Proofs.Ytcaeihdfljljbaa
open Go.RowKit
open Wd
set_option linter.unusedVariables false

namespace Wd
/-- the digits of a number, in front of a text -/
def dig : Nat → Nat → ByteArray → ByteArray
  | 0, _, out => out
  | f + 1, k, out => if k = 0 then out else dig f (k / 10) (⟨#[UInt8.ofNat (48 + k % 10)]⟩ ++ out)
theorem dig_done (f : Nat) (out : ByteArray) : dig f 0 out = out := by cases f <;> simp [dig]
theorem dig_step {f k : Nat} (out : ByteArray) (h : 0 < k) (hf : k ≤ f + 1) : dig (f + 1) k out = dig f (k / 10) (⟨#[UInt8.ofNat (48 + k % 10)]⟩ ++ out) := by
  rw [dig, if_neg (by omega)]
/-- the text of a mark -/
def mkT (k : Nat) : ByteArray := if k = 0 then ⟨#[109, 48]⟩ else ⟨#[109]⟩ ++ dig k k ⟨#[]⟩
end Wd

set_option maxRecDepth 100000 in
set_option maxHeartbeats 800000 in
theorem markText_pos (n : Nat) (h0 : 0 < n) (h1 : n ≤ 4000000) (w : World) :
    Calls Try.prog 87 #[.int .i64 n] w fun e w' => e = .returned (.string (mkT n)) ∧ Below w.heap.size w w' := by
  have hmk : mkT n = ⟨#[109]⟩ ++ dig n n ⟨#[]⟩ := by rw [mkT, if_neg (by omega)]
  have HM := Lib.hid hmk
  have hp : (0 : Int) < (n : Int) := by omega
  clear hmk
  go_enter Try.func87, Try.ntmps87
  go_wp2
  go_loopw [3, 0] (fun x i wr => ∃ (k f : Nat) (out : ByteArray), i = .int .i64 k ∧ x = .string out ∧ k ≤ f ∧ k ≤ n ∧ out.size + k ≤ n ∧ dig f k out = dig n n ⟨#[]⟩ ∧ Below w.heap.size w wr)
    (fun _ i _ => (intOf i).toNat)
  case atStart => exact ⟨n, n, ⟨#[]⟩, rfl, rfl, Nat.le_refl _, Nat.le_refl _, by simp [ByteArray.size], rfl, Below.refl _ _⟩
  case round =>
    obtain ⟨k, f, out, rfl, rfl, hf, hkn, hsz, hd, hB⟩ := hrel
    by_cases hk : 0 < k
    · obtain ⟨f', rfl⟩ : ∃ f', f = f' + 1 := ⟨f - 1, by omega⟩
      rw [dig_step out hk hf] at hd
      have hlt : k / 10 < k := Nat.div_lt_self hk (by omega)
      have hmod : k % 10 < 10 := Nat.mod_lt _ (by omega)
      have hu : (UInt8.ofNat (48 + k % 10)).toNat = 48 + k % 10 := by simp; omega
      generalize hcc : UInt8.ofNat (48 + k % 10) = c at hd hu
      have hs2 := hB.size
      have hconv : (convert 133 9 (.slice (some ⟨wr.heap.size, 0, none⟩) 1 1)).run Try.prog (wr.alloc (.cells #[.int .u8 (48 + (k : Int) % 10)] 5)) = .ok (.string ⟨#[c]⟩) (wr.alloc (.cells #[.int .u8 (48 + (k : Int) % 10)] 5)) := run_convert_bytes_back (P := Try.prog) (wr.alloc (.cells #[.int .u8 (48 + (k : Int) % 10)] 5)) 133 9 5 ⟨wr.heap.size, 0, none⟩ 1 [c] Try.underlying133 Try.underlying5 Try.underlying9 (fun j hj => by
        match j, hj with
        | 0, _ => simp [Addr.add, hu])
      have hadd := run_string_add_sum (P := Try.prog) (wr.alloc (.cells #[.int .u8 (48 + (k : Int) % 10)] 5)) ⟨#[c]⟩ out (by have : (⟨#[c]⟩ : ByteArray).size = 1 := rfl; omega)
      have hso : (⟨#[c]⟩ ++ out : ByteArray).size = 1 + out.size := by rw [ByteArray.size_append]; rfl
      have HD := Lib.hid hd
      clear hd hcc hu
      have kp : (0 : Int) < (k : Int) := by omega
      go_wp2
      go_roundw
      case rel => exact ⟨k / 10, f', _, by go_num, rfl, by omega, by omega, by rw [hso]; omega, HD.out, hB.alloc hs2 _⟩
      case measure => simp [intOf]; omega
    · have hk0 : k = 0 := by omega
      subst hk0
      rw [dig_done] at hd
      subst hd
      have hadd := run_string_add_sum (P := Try.prog) wr ⟨#[109]⟩ (dig n n ⟨#[]⟩) (by have : (⟨#[109]⟩ : ByteArray).size = 1 := rfl; omega)
      rw [← HM.out] at hadd
      go_wp2
      go_ret
      exact ⟨rfl, hB⟩

theorem markText (n : Nat) (h1 : n ≤ 4000000) (w : World) :
    Calls Try.prog 87 #[.int .i64 n] w fun e w' => e = .returned (.string (mkT n)) ∧ Below w.heap.size w w' := by
  by_cases h0 : 0 < n
  · exact markText_pos n h0 h1 w
  · have : n = 0 := by omega
    subst this
    go_enter Try.func87, Try.ntmps87
    go_wp2
    go_ret
    exact ⟨rfl, Below.refl _ _⟩
end Go.Proofs.Ytcaeihdfljljbaa
