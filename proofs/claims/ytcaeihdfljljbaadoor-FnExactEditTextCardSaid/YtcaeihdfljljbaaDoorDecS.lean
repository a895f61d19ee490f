/-
  Walk: spec.Decimal.
-/
import Derived.Test.YtcaeihdfljljbaaDoorBase
import Derived.Lib.ItoaNum
import Derived.Lib.Hide
import Derived.IntWalk
import Derived.Deep.RegionHeld3
import Derived.RegionTactic
import Derived.Deep.Cut
import Derived.Outline
namespace Go.Proofs.YtcaeihdfljljbaaDoor
open Go.RowKit
open Wd
set_option linter.unusedVariables false
namespace Wd
/-- a digit -/
def dgB (d : Nat) : UInt8 := UInt8.ofNat (48 + d)
/-- the decimal text of a number -/
def decT (n : Nat) : ByteArray := ⟨(Lib.decDigits n).toArray⟩
theorem decT_small {n : Nat} (h : n < 10) : decT n = ⟨#[dgB n]⟩ := by
  unfold decT dgB; rw [Lib.decDigits, dif_pos h]
theorem decT_big {n : Nat} (h : ¬ n < 10) : decT n = decT (n / 10) ++ ⟨#[dgB (n % 10)]⟩ := by
  unfold decT
  rw [Lib.decDigits, dif_neg h]
  apply ByteArray.ext
  simp [dgB]
theorem nDigits_le : ∀ (k u : Nat), u < 10 ^ (k + 1) → Lib.nDigits u ≤ k + 1
  | 0, u, h => by rw [Lib.nDigits_small (by simpa using h)]; exact Nat.le_refl _
  | k + 1, u, h => by
    by_cases h1 : u < 10
    · rw [Lib.nDigits_small h1]; omega
    · rw [Lib.nDigits_big h1]
      have := nDigits_le k (u / 10) (by rw [Nat.div_lt_iff_lt_mul (by decide)]; rw [Nat.pow_succ] at h; omega)
      omega
theorem decT_size {n : Nat} (h : n ≤ 9223372036854775807) : (decT n).size ≤ 19 := by
  have h1 : (decT n).size = (Lib.decDigits n).length := by simp [decT, ByteArray.size]
  rw [h1, Lib.decDigits_length]
  exact nDigits_le 18 n (by omega)
end Wd
theorem undrewD {B : Nat} {w w' : World} (h : Below B w.drew w') : Below B w w' := ⟨h.os, h.tape, h.output, h.size, h.block⟩
theorem conv_dig (d : Nat) (hd : d < 10) (w : World) (g : Nat) (hc : w.cell? ⟨g, 0, none⟩ = some (.int .u8 (48 + (d : Int)))) :
    (convert 77 9 (.slice (some ⟨g, 0, none⟩) 1 1)).run Tryd.prog w = .ok (.string ⟨#[dgB d]⟩) w := by
  refine run_convert_bytes_back (P := Tryd.prog) w 77 9 5 ⟨g, 0, none⟩ 1 [dgB d] Tryd.underlying77 Tryd.underlying5 Tryd.underlying9 (fun j hj => ?_)
  obtain rfl : j = 0 := by simpa using hj
  rw [show (⟨g, 0, none⟩ : Addr).add 0 = ⟨g, 0, none⟩ from rfl, hc]
  have h1 : (dgB d).toNat = 48 + d := by simp [dgB]; omega
  show _ = some (Value.int .u8 (((dgB d).toNat : Nat) : Int))
  rw [h1]
  simp
theorem u8_dig (d : Nat) (hd : d < 10) : IntKind.u8.wrap (48 + (d : Int)) = 48 + (d : Int) := by simp [IntKind.wrap, IntKind.bits, IntKind.signed]; omega
set_option maxRecDepth 100000 in
set_option maxHeartbeats 3200000 in
theorem dec_any : ∀ (b n : Nat) (w : World), n < b → n ≤ 9223372036854775807 →
    Calls Tryd.prog 27 #[.int .i64 (n : Int)] w fun e w' => e = .returned (.string (decT n)) ∧ Below w.heap.size w w'
  | 0, n, w, h, _ => by omega
  | b + 1, n, w, hb, hn => by
    by_cases h : n < 10
    · have hd : decide ((10 : Int) ≤ (n : Int)) = false := decide_eq_false (by omega)
      have hd2 : decide (10 ≤ n) = false := decide_eq_false (by omega)
      have hw := u8_dig n h
      have HT := Lib.hid (decT_small h)
      have hcv : (convert 77 9 (.slice (some ⟨w.heap.size, 0, none⟩) 1 1)).run Tryd.prog (w.alloc (.cells #[.int .u8 (48 + (n : Int))] 5)) = .ok (.string ⟨#[dgB n]⟩) (w.alloc (.cells #[.int .u8 (48 + (n : Int))] 5)) := conv_dig n h _ _ (cell_of_row _ _ _ _ _ _ (heap_alloc_new w _))
      go_enter Tryd.func27, Tryd.ntmps27
      go_wp2_with fail
      go_ret
      exact ⟨by rw [HT.out]; rfl, (Below.refl _ w).alloc (Nat.le_refl _) _⟩
    · have hd : decide ((10 : Int) ≤ (n : Int)) = true := decide_eq_true (by omega)
      have hd2 : decide (10 ≤ n) = true := decide_eq_true (by omega)
      have HT := Lib.hid (decT_big h)
      obtain ⟨m, hm⟩ : ∃ m : Nat, m = n / 10 := ⟨_, rfl⟩
      obtain ⟨d, hdd⟩ : ∃ d : Nat, d = n % 10 := ⟨_, rfl⟩
      rw [← hm, ← hdd] at HT
      have hq : (n : Int) / 10 = (m : Int) := by omega
      have hr : (n : Int) % 10 = (d : Int) := by omega
      have hr2 : (n : Int).tmod 10 = (d : Int) := by rw [Int.tmod_eq_emod_of_nonneg (by omega)]; exact hr
      have hwm : IntKind.i64.wrap (m : Int) = (m : Int) := by rw [IntKind.wrap_i64]; omega
      have hwd : IntKind.i64.wrap (48 + (d : Int)) = 48 + (d : Int) := by rw [IntKind.wrap_i64]; omega
      have hd10 : d < 10 := by omega
      have hw := u8_dig d hd10
      have IH := Lib.hid (fun W => dec_any b m W (by omega) (by omega))
      have hcv : ∀ W : World, (convert 77 9 (.slice (some ⟨W.heap.size, 0, none⟩) 1 1)).run Tryd.prog (W.alloc (.cells #[.int .u8 (48 + (d : Int))] 5)) = .ok (.string ⟨#[dgB d]⟩) (W.alloc (.cells #[.int .u8 (48 + (d : Int))] 5)) := fun W => conv_dig d hd10 _ _ (cell_of_row _ _ _ _ _ _ (heap_alloc_new W _))
      have hcw : ∀ W : World, (convert 77 9 (.slice (some ⟨W.heap.size, 0, none⟩) 1 1)).run Tryd.prog (W.alloc (.cells #[.int .u8 (48 + (d : Int))] 5)).drew = .ok (.string ⟨#[dgB d]⟩) (W.alloc (.cells #[.int .u8 (48 + (d : Int))] 5)).drew := fun W => conv_dig d hd10 _ _ (cell_of_row _ _ _ _ _ _ (heap_alloc_new W _))
      have hsz := decT_size (n := m) (by omega)
      have hc1 : (9223372036854775807 < (decT m).size + 1) = False := by simp; omega
      clear hm hdd
      go_enter Tryd.func27, Tryd.ntmps27
      go_upto_region 2 with fail
      go_region_with
        (first
          | (go_at_call 27
             refine (IH.out _).mono ?_
             rintro e w5 ⟨rfl, hB5⟩
             (try have hcx : (convert 77 9 (.slice (some ⟨w.heap.size, 0, none⟩) 1 1)).run Tryd.prog w5 = .ok (.string ⟨#[dgB d]⟩) w5 := conv_dig d hd10 w5 w.heap.size ((hB5.cell (p := ⟨w.heap.size, 0, none⟩) (by simp)).trans (cell_of_row _ _ _ _ _ _ (heap_alloc_new w _))))
             have HB5 : Hid (Below w.heap.size w w5 ∧ w.heap.size ≤ w5.heap.size) := Lib.hid (by
               first
                 | exact ⟨undrewD hB5, (undrewD hB5).size⟩
                 | (have h2 : Below (w.alloc (.cells #[.int .u8 (48 + (d : Int))] 5)).heap.size (w.alloc (.cells #[.int .u8 (48 + (d : Int))] 5)) w5 := ⟨hB5.os, hB5.tape, hB5.output, hB5.size, hB5.block⟩
                    have h3 := ((Below.refl _ w).alloc (Nat.le_refl _) (.cells #[.int .u8 (48 + (d : Int))] 5)).trans (h2.mono (by simp))
                    exact ⟨h3, h3.size⟩))
             clear hB5))
      all_goals
        go_wp2_with fail
        go_ret
      all_goals first
        | exact ⟨by rw [HT.out]; rfl, HB5.out.1⟩
        | exact ⟨by rw [HT.out]; rfl, HB5.out.1.alloc HB5.out.2 _⟩
end Go.Proofs.YtcaeihdfljljbaaDoor
