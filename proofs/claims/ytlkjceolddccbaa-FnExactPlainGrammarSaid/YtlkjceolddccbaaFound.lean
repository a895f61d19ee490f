/-
  Walk: spec.l01Found (as in Occur, for seats of grammars).
-/
import Derived.Test.YtlkjceolddccbaaGramSpec
import Derived.Lib.Strings
import Derived.Outline
namespace Go.Proofs.Ytlkjceolddccbaa
open Go.RowKit
open Wd
set_option linter.unusedVariables false

namespace Wd
/-- p begins at the place k of w -/
def begins (p w : List UInt8) (k : Nat) : Bool := (w.drop k).take p.length == p
/-- all places at which p begins, among the first k -/
def found (p w : List UInt8) (k : Nat) : List Int := ((List.range k).filter (begins p w)).map fun (j : Nat) => (j : Int)
theorem found_yes {p w : List UInt8} {k : Nat} (h : begins p w k = true) : found p w (k + 1) = found p w k ++ [(k : Int)] := by
  simp [found, List.range_succ, List.filter_append, h]
theorem found_no {p w : List UInt8} {k : Nat} (h : begins p w k = false) : found p w (k + 1) = found p w k := by
  simp [found, List.range_succ, List.filter_append, h]
theorem found_len (p w : List UInt8) (k : Nat) : (found p w k).length ≤ k := by
  unfold found
  rw [List.length_map]
  exact Nat.le_trans (List.length_filter_le _ _) (by simp)
theorem begins_short {p w : List UInt8} {k : Nat} (hp : 0 < p.length) (h : w.length < k + p.length) : begins p w k = false := by
  unfold begins
  rw [beq_eq_false_iff_ne]
  intro e
  have := congrArg List.length e
  simp at this
  omega
theorem found_stop {p w : List UInt8} {k : Nat} (hp : 0 < p.length) (h : w.length < k + p.length) : ∀ m, found p w (k + m) = found p w k
  | 0 => rfl
  | m + 1 => by
    rw [← Nat.add_assoc, found_no (begins_short hp (by omega)), found_stop hp h m]
theorem extract_list (s : ByteArray) (a b : Nat) : (s.extract a b).data.toList = (s.data.toList.drop a).take (b - a) := by
  rw [ByteArray.data_extract, Array.toList_extract, List.extract_eq_take_drop]
theorem begins_extract (u v : ByteArray) (k : Nat) : ((v.extract k (k + u.size)).toList == u.toList) = begins u.data.toList v.data.toList k := by
  rw [ByteArray.toList_eq, ByteArray.toList_eq, extract_list, Nat.add_sub_cancel_left]
  simp [begins]
end Wd

set_option maxRecDepth 100000 in
set_option maxHeartbeats 800000 in
theorem specFound (u v : ByteArray) (w : World) (hu : 0 < u.size) (hu' : u.size ≤ 2000) (hv : v.size ≤ 2000) :
    Calls Try.prog 102 #[.string u, .string v] w fun e w' => ∃ x, e = .returned x ∧ OwnsI w' w.heap.size x (found u.data.toList v.data.toList v.size) ∧ Below w.heap.size w w' := by
  obtain ⟨i0, hi, hz0, hz1, hz2⟩ := info_parts Try.info_i64
  go_enter Try.func102, Try.ntmps102
  go_wp2
  go_loopw [5, 6] (fun x i wr => ∃ k n : Nat, k ≤ v.size ∧ n ≤ k ∧ (found u.data.toList v.data.toList k).length = n ∧ i = .int .i64 k ∧ wr.ownsRow w.heap.size 2 1 x n (iv (found u.data.toList v.data.toList k)) ∧ Below w.heap.size w wr)
    (fun _ i _ => v.size - (intOf i).toNat)
  case atStart => exact ⟨0, 0, Nat.zero_le _, Nat.le_refl _, rfl, rfl, World.ownsRow_lit w #[] 0 (Nat.le_refl _) (by decide) rfl, (Below.refl _ _).alloc (Nat.le_refl _) _⟩
  case round =>
    obtain ⟨k, n, hk, hnk, hfl, rfl, hown, hB⟩ := hrel
    have HL := Lib.hid hfl
    have hsz := hB.size
    clear hfl
    by_cases hlt : k + u.size ≤ v.size
    · have hbx := begins_extract u v k
      cases hb : begins u.data.toList v.data.toList k
      · have hno := found_no hb
        rw [hb] at hbx
        have HN := Lib.hid hno
        clear hno hb
        go_wp2
        go_roundw
        case rel => exact ⟨k + 1, n, by omega, by omega, by rw [HN.out]; exact HL.out, by go_num, by rw [HN.out]; exact hown, hB⟩
        case measure => simp [intOf]; omega
      · have hyes := found_yes hb
        rw [hb] at hbx
        have HY := Lib.hid hyes
        clear hyes hb
        go_wp2_with (first | (at_builtin; refine wpList_append_own _ rfl _ _ 53 rfl w.heap.size 2 i0 (.int .i64 0) 1 8 Try.underlying53 hi hz0 hz1 hz2 rfl (by decide) _ _ _ rfl (hown.alloc _) ⟨wr.heap.size, 0, none⟩ 1 1 [.int .i64 k] rfl rfl ?c1 ?c2 ?c3 ?c4 ?c5 ?_))
        case c1 =>
          intro x u hx
          match x, hx with
          | 0, hx => simp at hx; subst hx; simp [Addr.add]
        case c2 => intro u hu; simp at hu; subst hu; rfl
        case c3 => unfold maxLen; omega
        case c4 => omega
        case c5 => simp; omega
        intro v' w1 hown' hgrow _
        have hb1 : Below w.heap.size w w1 := (hB.alloc hsz _).grown hgrow (by simp; omega) (fun q hq => (hown.lt q hq).1)
        have hown1 : w1.ownsRow w.heap.size 2 1 v' (n + 1) (iv (found u.data.toList v.data.toList (k + 1))) := by rw [HY.out, iv_app]; exact hown'
        clear hown' hgrow hown hB
        go_wp2
        go_roundw
        case rel => exact ⟨k + 1, n + 1, by omega, by omega, by rw [HY.out, List.length_append, HL.out]; rfl, by go_num, hown1, hb1⟩
        case measure => simp [intOf]; omega
    · have hst : found u.data.toList v.data.toList v.size = found u.data.toList v.data.toList k := by
        have := found_stop (p := u.data.toList) (w := v.data.toList) (k := k) (by simpa using hu) (by simp; omega) (v.size - k)
        rwa [show k + (v.size - k) = v.size by omega] at this
      have hown1 : OwnsI wr w.heap.size u5 (found u.data.toList v.data.toList v.size) := by rw [hst]; unfold OwnsI; rw [HL.out]; exact hown
      have HO := Lib.hid hown1
      clear hst hown1 hown
      go_wp2
      go_ret
      exact ⟨_, rfl, HO.out, hB⟩
end Go.Proofs.Ytlkjceolddccbaa
