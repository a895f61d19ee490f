/-
  Walk: impl.OccurrencesOf alone.
-/
import Derived.Test.YtdfdeppfhadopaaIntsM
import Derived.Test.YtdfdeppfhadopaaShelf
import Derived.Deep.QuietTactic
import Derived.Lib.Strings
import Derived.Outline
namespace Go.Proofs.Ytdfdeppfhadopaa
open Go.RowKit
open Wd
set_option linter.unusedVariables false

namespace Wd
/-- p begins at the place k of w -/
def begins (p w : List UInt8) (k : Nat) : Bool := (w.drop k).take p.length == p
/-- all places at which p begins, among the first k -/
def found (p w : List UInt8) (k : Nat) : List Int := ((List.range k).filter (begins p w)).map fun (j : Nat) => (j : Int)
theorem found_yes {p w : List UInt8} {k : Nat} (h : begins p w k = true) : found p w (k + 1) = found p w k ++ [(k : Int)] := by
  simp [found, List.range_succ, List.filter_append, h]
theorem found_no {p w : List UInt8} {k : Nat} (h : begins p w k = false) : found p w (k + 1) = found p w k := by
  simp [found, List.range_succ, List.filter_append, h]
theorem found_len (p w : List UInt8) (k : Nat) : (found p w k).length ≤ k := by
  unfold found
  rw [List.length_map]
  exact Nat.le_trans (List.length_filter_le _ _) (by simp)
theorem begins_short {p w : List UInt8} {k : Nat} (hp : 0 < p.length) (h : w.length < k + p.length) : begins p w k = false := by
  unfold begins
  rw [beq_eq_false_iff_ne]
  intro e
  have := congrArg List.length e
  simp at this
  omega
theorem found_stop {p w : List UInt8} {k : Nat} (hp : 0 < p.length) (h : w.length < k + p.length) : ∀ m, found p w (k + m) = found p w k
  | 0 => rfl
  | m + 1 => by
    rw [← Nat.add_assoc, found_no (begins_short hp (by omega)), found_stop hp h m]
theorem extract_list (s : ByteArray) (a b : Nat) : (s.extract a b).data.toList = (s.data.toList.drop a).take (b - a) := by
  rw [ByteArray.data_extract, Array.toList_extract, List.extract_eq_take_drop]
theorem begins_extract (u v : ByteArray) (k : Nat) : ((v.extract k (k + u.size)).toList == u.toList) = begins u.data.toList v.data.toList k := by
  rw [ByteArray.toList_eq, ByteArray.toList_eq, extract_list, Nat.add_sub_cancel_left]
  simp [begins]
end Wd

theorem Try.info_i64 : (Try.prog.info? 2).map (fun i => (i.zero, i.size, i.bytes)) = some (some (.int .i64 0), 1, 8) := by kernel_rfl

namespace Wd
theorem hasPrefix_take (s p : List UInt8) : Lib.hasPrefix s p = (s.take p.length == p) := by
  rw [Bool.eq_iff_iff, Lib.hasPrefix, List.isPrefixOf_iff_prefix, List.prefix_iff_eq_take, beq_iff_eq]
  exact ⟨Eq.symm, Eq.symm⟩
theorem begins_prefix (u v : ByteArray) (k : Nat) : Lib.hasPrefix (v.extract k v.size).data.toList u.data.toList = begins u.data.toList v.data.toList k := by
  rw [hasPrefix_take, extract_list]
  unfold begins
  rw [List.take_of_length_le (l := List.drop k v.data.toList) (by simp)]
theorem empty_of_size {s : ByteArray} (h : s.size = 0) : s = ⟨#[]⟩ := by
  have : s.data = #[] := Array.eq_empty_of_size_eq_zero h
  cases s; simp at this; rw [this]
theorem isEmpty_of_pos {s : ByteArray} (h : 0 < s.size) : s.toList.isEmpty = false := by
  rw [ByteArray.toList_eq]
  cases hl : s.data.toList with
  | nil => have : s.data.size = 0 := by simpa using congrArg List.length hl
           exact absurd (show s.size = 0 from this) (by omega)
  | cons _ _ => rfl
end Wd

/-- what OccurrencesOf answers -/
def OccSaid (u v : ByteArray) (zs : List Int) (c : Int) : Prop :=
  (okL u.data.toList = false ∧ zs = [] ∧ c = 1) ∨
  (okL u.data.toList = true ∧ okL v.data.toList = false ∧ zs = [] ∧ c = 1) ∨
  (okL u.data.toList = true ∧ okL v.data.toList = true ∧ u.size = 0 ∧ zs = [] ∧ c = 4) ∨
  (okL u.data.toList = true ∧ okL v.data.toList = true ∧ 0 < u.size ∧ zs = found u.data.toList v.data.toList v.size ∧ c = 0)
theorem occ_said (u v : ByteArray) : ∃ zs c, OccSaid u v zs c := by
  cases h : okL u.data.toList
  · exact ⟨_, _, .inl ⟨h, rfl, rfl⟩⟩
  cases h' : okL v.data.toList
  · exact ⟨_, _, .inr (.inl ⟨h, h', rfl, rfl⟩)⟩
  by_cases h2 : u.size = 0
  · exact ⟨_, _, .inr (.inr (.inl ⟨h, h', h2, rfl, rfl⟩))⟩
  · exact ⟨_, _, .inr (.inr (.inr ⟨h, h', by omega, rfl, rfl⟩))⟩

theorem OwnsI.lit (w : World) : OwnsI (w.alloc (.cells #[] 2)) w.heap.size (.slice (some ⟨w.heap.size, 0, none⟩) 0 0) [] :=
  World.ownsRow_lit w #[] 0 (Nat.le_refl _) (by decide) rfl

set_option maxRecDepth 100000 in
set_option maxHeartbeats 800000 in
theorem implOcc (u v : ByteArray) (zs : List Int) (c : Int) (w : World) (hu : u.size ≤ maxLen) (hv : v.size ≤ maxLen) (h : OccSaid u v zs c) :
    Calls Try.prog 8 #[.string u, .string v] w fun e w' => ∃ x, e = .returned (.tuple #[x, .int .i64 c]) ∧ OwnsI w' w.heap.size x zs ∧ Below w.heap.size w w' := by
  have c1 := implOk u w hu
  have c2 := implOk v w hv
  rcases h with ⟨h, rfl, rfl⟩ | ⟨h, h', rfl, rfl⟩ | ⟨h, h', h2, rfl, rfl⟩ | ⟨h, h', h2, rfl, rfl⟩
  · rw [h] at c1
    have C1 := Lib.hid c1
    clear c1 c2 h
    go_enter Try.func8, Try.ntmps8
    go_wp2_with fail
    refine C1.out.mono ?_; rintro e w' ⟨rfl, rfl⟩
    go_wp2
    go_ret2
    exact ⟨_, rfl, World.ownsRow_nil _ _ _ _, Below.refl _ _⟩
  · rw [h] at c1
    rw [h'] at c2
    have C1 := Lib.hid c1
    have C2 := Lib.hid c2
    clear c1 c2 h h'
    go_enter Try.func8, Try.ntmps8
    go_wp2_with fail
    refine C1.out.mono ?_; rintro e w' ⟨rfl, rfl⟩
    go_wp2_with fail
    refine C2.out.mono ?_; rintro e w' ⟨rfl, rfl⟩
    go_wp2
    go_ret2
    exact ⟨_, rfl, World.ownsRow_nil _ _ _ _, Below.refl _ _⟩
  · rw [h] at c1
    rw [h'] at c2
    have C1 := Lib.hid c1
    have C2 := Lib.hid c2
    obtain rfl := empty_of_size h2
    clear c1 c2 h h' h2
    go_enter Try.func8, Try.ntmps8
    go_wp2_with fail
    refine C1.out.mono ?_; rintro e w' ⟨rfl, rfl⟩
    go_wp2_with fail
    refine C2.out.mono ?_; rintro e w' ⟨rfl, rfl⟩
    go_wp2
    go_ret2
    exact ⟨_, rfl, World.ownsRow_nil _ _ _ _, Below.refl _ _⟩
  · have hl := okL_len h
    have hl' := okL_len h'
    simp at hl hl'
    rw [h] at c1
    rw [h'] at c2
    have C1 := Lib.hid c1
    have C2 := Lib.hid c2
    have h3 := isEmpty_of_pos h2
    obtain ⟨i0, hi, hz0, hz1, hz2⟩ := info_parts Try.info_i64
    clear c1 c2 h h' h2
    go_enter Try.func8, Try.ntmps8
    go_wp2_with fail
    refine C1.out.mono ?_; rintro e w' ⟨rfl, rfl⟩
    go_wp2_with fail
    refine C2.out.mono ?_; rintro e w' ⟨rfl, rfl⟩
    go_wp2
    go_loopw [6, 21] (fun x i wr => ∃ k n : Nat, k ≤ v.size ∧ n ≤ k ∧ (found u.data.toList v.data.toList k).length = n ∧ i = .int .i64 k ∧ wr.ownsRow w.heap.size 2 1 x n (iv (found u.data.toList v.data.toList k)) ∧ Below w.heap.size w wr)
      (fun _ i _ => v.size - (intOf i).toNat)
    case atStart => exact ⟨0, 0, Nat.zero_le _, Nat.le_refl _, rfl, rfl, World.ownsRow_lit w #[] 0 (Nat.le_refl _) (by decide) rfl, (Below.refl _ _).alloc (Nat.le_refl _) _⟩
    case round =>
      obtain ⟨k, n, hk, hnk, hfl, rfl, hown, hB⟩ := hrel
      have HL := Lib.hid hfl
      have hsz := hB.size
      clear hfl
      by_cases hlt : k < v.size
      · have hp := Try.strings_HasPrefix (v.extract k v.size) u wr
        rw [begins_prefix] at hp
        cases hb : begins u.data.toList v.data.toList k
        · have hno := found_no hb
          rw [hb] at hp
          have HN := Lib.hid hno
          have HP := Lib.hid hp
          clear hno hb hp
          go_wp2_with (go_at_call 21; refine HP.out.mono ?_; rintro e w' ⟨rfl, rfl⟩)
          go_roundw
          case rel => exact ⟨k + 1, n, by omega, by omega, by rw [HN.out]; exact HL.out, by go_num, by rw [HN.out]; exact hown, hB⟩
          case measure => simp [intOf]; omega
        · have hyes := found_yes hb
          rw [hb] at hp
          have HY := Lib.hid hyes
          have HP := Lib.hid hp
          clear hyes hb hp
          go_wp2_with fail
          refine HP.out.mono ?_; rintro e w' ⟨rfl, rfl⟩
          go_wp2_with (first | (at_builtin; refine wpList_append_own _ rfl _ _ 25 rfl w.heap.size 2 i0 (.int .i64 0) 1 8 Try.underlying25 hi hz0 hz1 hz2 rfl (by decide) _ _ _ rfl (hown.alloc _) ⟨w'.heap.size, 0, none⟩ 1 1 [.int .i64 k] rfl rfl ?c1 ?c2 ?c3 ?c4 ?c5 ?_))
          case c1 =>
            intro x u hx
            match x, hx with
            | 0, hx => simp at hx; subst hx; simp [Addr.add]
          case c2 => intro u hu; simp at hu; subst hu; rfl
          case c3 => unfold maxLen; omega
          case c4 => omega
          case c5 => simp; omega
          intro v' w1 hown' hgrow _
          have hb1 : Below w.heap.size w w1 := (hB.alloc hsz _).grown hgrow (by simp; omega) (fun q hq => (hown.lt q hq).1)
          have hown1 : w1.ownsRow w.heap.size 2 1 v' (n + 1) (iv (found u.data.toList v.data.toList (k + 1))) := by rw [HY.out, iv_app]; exact hown'
          clear hown' hgrow hown hB
          go_wp2
          go_roundw
          case rel => exact ⟨k + 1, n + 1, by omega, by omega, by rw [HY.out, List.length_append, HL.out]; rfl, by go_num, hown1, hb1⟩
          case measure => simp [intOf]; omega
      · have hk2 : k = v.size := by omega
        have hown1 : OwnsI wr w.heap.size u6 (found u.data.toList v.data.toList v.size) := by rw [← hk2]; unfold OwnsI; rw [HL.out]; exact hown
        have HO := Lib.hid hown1
        clear hk2 hown1 hown
        go_wp2
        go_ret2
        exact ⟨_, rfl, HO.out, hB⟩
end Go.Proofs.Ytdfdeppfhadopaa
