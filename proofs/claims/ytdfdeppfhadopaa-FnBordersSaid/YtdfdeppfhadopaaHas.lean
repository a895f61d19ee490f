/-
  Walks: a2Has over a row of the call's own; a2Gcd.
-/
import Derived.Test.YtdfdeppfhadopaaLawRow
import Derived.Test.YtdfdeppfhadopaaIntsM
namespace Go.Proofs.Ytdfdeppfhadopaa
open Go.RowKit
open Wd
set_option linter.unusedVariables false

theorem has_ret (b : Bool) : Ending.returned (.bool b) = .returned (.bool b) := rfl

set_option maxHeartbeats 800000 in
theorem a2Has (v : Value) (zs : List Int) (B : Nat) (x : Int) (w : World) (h : OwnsI w B v zs) (hn : zs.length ≤ 1000000) :
    Calls Try.prog 9 #[v, .int .i64 x] w fun e w' => e = .returned (.bool (decide (x ∈ zs))) ∧ Drawn w w' := by
  rcases h.shape with ⟨rfl, rfl⟩ | ⟨g, c, rfl, hg1, hg2⟩
  · go_enter Try.func9, Try.ntmps9
    go_wp2
    go_loopw [5] (fun i wr => i = .int .i64 0 ∧ wr = w) (fun _ _ => 0)
    case atStart => exact ⟨rfl, rfl⟩
    case round =>
      obtain ⟨rfl, rfl⟩ := hrel
      go_wp2
      go_ret
      exact ⟨rfl, Drawn.refl _⟩
  · have hc := fun j (hj : j < zs.length) => h.cell j hj
    have HC := Lib.hid hc
    clear hc h
    go_enter Try.func9, Try.ntmps9
    go_wp2
    go_loopw [5] (fun i wr => ∃ j : Nat, j ≤ zs.length ∧ i = .int .i64 j ∧ (∀ k (hk : k < zs.length), k < j → zs[k] ≠ x) ∧ Drawn w wr) (fun i _ => zs.length - (intOf i).toNat)
    case atStart => exact ⟨0, Nat.zero_le _, rfl, fun k hk h => by omega, Drawn.refl _⟩
    case round =>
      obtain ⟨j, hj, rfl, hbef, q, rfl⟩ := hrel
      have HBEF := Lib.hid hbef
      clear hbef
      by_cases hlt : j < zs.length
      · have hc : (w.drewN q).cell? ⟨g, j, none⟩ = some (.int .i64 zs[j]) := HC.out j hlt
        generalize hy : zs[j] = y at hc
        have HY := Lib.hid hy
        clear hy
        by_cases hxy : y = x
        · have hmem : x ∈ zs := by rw [← hxy, ← HY.out]; exact List.getElem_mem _
          have HM := Lib.hid hmem
          clear hmem
          subst hxy
          go_wp2
          go_ret
          exact ⟨by rw [decide_eq_true HM.out]; rfl, ⟨_, rfl⟩⟩
        · have hbef2 : ∀ k (hk : k < zs.length), k < j + 1 → zs[k] ≠ x := fun k hk hkj => by
            by_cases h : k < j
            · exact HBEF.out k hk h
            · have : k = j := by omega
              subst this
              rw [HY.out]; exact hxy
          have HB2 := Lib.hid hbef2
          clear hbef2
          go_wp2
          go_roundw
          case rel => exact ⟨j + 1, by omega, by go_num, HB2.out, ⟨_, rfl⟩⟩
          case measure => simp [intOf]; omega
      · have hmem : ¬ x ∈ zs := fun h => by
          obtain ⟨k, hk, e⟩ := List.mem_iff_getElem.1 h
          exact HBEF.out k hk (by omega) e
        have HM := Lib.hid hmem
        clear hmem
        go_wp2
        go_ret
        exact ⟨by rw [decide_eq_false HM.out]; rfl, ⟨_, rfl⟩⟩
set_option maxHeartbeats 800000 in
theorem a2Gcd (a b : Nat) (w : World) (ha : a ≤ 1000000) (hb : b ≤ 1000000) :
    Calls Try.prog 14 #[.int .i64 (a : Int), .int .i64 (b : Int)] w fun e w' => e = .returned (.int .i64 ((Nat.gcd a b : Nat) : Int)) ∧ Drawn w w' := by
  go_enter Try.func14, Try.ntmps14
  go_wp2
  go_loopw [0, 1] (fun c d wr => ∃ m n : Nat, c = .int .i64 m ∧ d = .int .i64 n ∧ m ≤ 1000000 ∧ n ≤ 1000000 ∧ Nat.gcd m n = Nat.gcd a b ∧ Drawn w wr) (fun _ d _ => (intOf d).toNat)
  case atStart => exact ⟨a, b, rfl, rfl, ha, hb, rfl, Drawn.refl _⟩
  case round =>
    obtain ⟨m, n, rfl, rfl, hm, hn, hg, hD⟩ := hrel
    have HG := Lib.hid hg
    clear hg
    by_cases h0 : n = 0
    · have h1 : (n : Int) = 0 := by omega
      go_wp2
      go_ret
      exact ⟨by rw [← HG.out, h0, Nat.gcd_zero_right]; rfl, hD⟩
    · have h1 : ¬ (n : Int) = 0 := by omega
      have HN := Lib.hid (Nat.mod_lt m (Nat.pos_of_ne_zero h0))
      go_wp2
      go_roundw
      case rel => exact ⟨n, m % n, rfl, by go_num, hn, by have := HN.out; omega, by rw [← HG.out, Nat.gcd_comm m n, Nat.gcd_rec n m, Nat.gcd_comm], hD⟩
      case measure => simp [intOf]; exact HN.out
end Go.Proofs.Ytdfdeppfhadopaa
