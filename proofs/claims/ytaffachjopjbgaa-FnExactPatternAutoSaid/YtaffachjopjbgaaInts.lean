/-
  Walks over rows of int64 that the call owns: laws.eqInt64S at equal rows, laws.markInt64S, laws.heldInt64S.
-/
import Derived.Test.YtaffachjopjbgaaIntsM
namespace Go.Proofs.Ytaffachjopjbgaa
open Go.RowKit
open Wd
set_option linter.unusedVariables false

theorem eqI_zero (a b : Option Addr) (c d : Nat) (w : World) :
    Calls Try.prog 35 #[.slice a 0 c, .slice b 0 d] w fun e w' => e = .returned (.bool true) ∧ Drawn w w' := by
  go_enter Try.func35, Try.ntmps35
  go_wp2
  refine wp_loop_rounds 1 ?_
  rw [rounds_succ]
  go_wp2
  go_ret
  exact ⟨rfl, Drawn.refl _⟩

set_option maxHeartbeats 400000 in
theorem eqI_some (g1 g2 c d n : Nat) (zs : List Int) (hn : zs.length = n) (hn' : n ≤ 1000000) (w : World) (h1 : ∀ j (hj : j < zs.length), w.cell? ⟨g1, j, none⟩ = some (.int .i64 zs[j])) (h2 : ∀ j (hj : j < zs.length), w.cell? ⟨g2, j, none⟩ = some (.int .i64 zs[j])) :
    Calls Try.prog 35 #[.slice (some ⟨g1, 0, none⟩) n c, .slice (some ⟨g2, 0, none⟩) n d] w fun e w' => e = .returned (.bool true) ∧ Drawn w w' := by
  have H1 := Lib.hid h1
  have H2 := Lib.hid h2
  have HN := Lib.hid hn
  clear h1 h2 hn
  go_enter Try.func35, Try.ntmps35
  go_wp2
  go_loopw [5] (fun i wr => ∃ k : Nat, k ≤ n ∧ i = .int .i64 k ∧ Drawn w wr) (fun i _ => n - (intOf i).toNat)
  case atStart => exact ⟨0, Nat.zero_le _, rfl, Drawn.refl _⟩
  case round =>
    obtain ⟨k, hk, rfl, hD⟩ := hrel
    by_cases hlt : k < n
    · have hkz : k < zs.length := by rw [HN.out]; exact hlt
      have c1 : wr.cell? ⟨g1, k, none⟩ = some (.int .i64 zs[k]) := by obtain ⟨m, rfl⟩ := hD; exact H1.out k hkz
      have c2 : wr.cell? ⟨g2, k, none⟩ = some (.int .i64 zs[k]) := by obtain ⟨m, rfl⟩ := hD; exact H2.out k hkz
      generalize zs[k] = z at c1 c2
      clear hkz
      go_wp2
      go_quiet (fail)
      go_wp2
      go_roundw
      case rel => exact ⟨k + 1, by omega, by go_num, hD.drewN _⟩
      case measure => simp [intOf]; omega
    · go_wp2
      go_ret
      exact ⟨rfl, hD⟩

theorem eqI (a b : Value) (zs : List Int) (B C : Nat) (w : World) (h1 : OwnsI w B a zs) (h2 : OwnsI w C b zs) (hn : zs.length ≤ 1000000) :
    Calls Try.prog 35 #[a, b] w fun e w' => e = .returned (.bool true) ∧ Drawn w w' := by
  by_cases h0 : zs.length = 0
  · have hz := List.eq_nil_of_length_eq_zero h0
    subst hz
    have sh : ∀ {v B}, OwnsI w B v [] → ∃ a c, v = .slice a 0 c := fun h => by
      rcases h.shape with ⟨rfl, _⟩ | ⟨g, cap, rfl, _⟩
      · exact ⟨_, _, rfl⟩
      · exact ⟨_, _, rfl⟩
    obtain ⟨_, _, rfl⟩ := sh h1
    obtain ⟨_, _, rfl⟩ := sh h2
    exact eqI_zero _ _ _ _ _
  · rcases h1.shape with ⟨_, rfl⟩ | ⟨g1, c1, rfl, _⟩
    · simp at h0
    rcases h2.shape with ⟨_, rfl⟩ | ⟨g2, c2, rfl, _⟩
    · simp at h0
    exact eqI_some g1 g2 c1 c2 _ zs rfl hn w (fun j hj => h1.cell j hj) (fun j hj => h2.cell j hj)

theorem markI_zero (a : Option Addr) (c : Nat) (k : Int) (w : World) :
    Calls Try.prog 38 #[.slice a 0 c, .int .i64 k] w fun e w' => e = .returned (.int .i64 k) ∧ w = w' := by
  go_enter Try.func38, Try.ntmps38
  go_wp2
  refine wp_loop_rounds 1 ?_
  rw [rounds_succ]
  go_wp2
  go_ret
  exact ⟨rfl, rfl⟩

set_option maxHeartbeats 400000 in
theorem markI_some (g c n B : Nat) (zs : List Int) (hn : zs.length = n) (hn' : n ≤ 1048576) (k : Int) (hk0 : 0 ≤ k) (hk1 : k ≤ 8796093022208) (w : World) (h : w.ownsRow B 2 1 (.slice (some ⟨g, 0, none⟩) n c) n (iv zs)) :
    Calls Try.prog 38 #[.slice (some ⟨g, 0, none⟩) n c, .int .i64 k] w fun e w' => e = .returned (.int .i64 (k + n)) ∧
      w'.ownsRow B 2 1 (.slice (some ⟨g, 0, none⟩) n c) n (iv (marks k n)) ∧ w.grownBy w' (some g) := by
  have HN := Lib.hid hn
  clear hn
  go_enter Try.func38, Try.ntmps38
  go_wp2
  go_loopw [1, 5] (fun q i wr => ∃ j : Nat, j ≤ n ∧ i = .int .i64 j ∧ q = .int .i64 (k + j) ∧ wr.ownsRow B 2 1 (.slice (some ⟨g, 0, none⟩) n c) n (iv (marks k j ++ zs.drop j)) ∧ w.grownBy wr (some g))
    (fun _ i _ => n - (intOf i).toNat)
  case atStart => exact ⟨0, Nat.zero_le _, rfl, by simp, by simpa [marks] using h, World.grownBy.refl _ _⟩
  case round =>
    obtain ⟨j, hj, rfl, rfl, hown, hgr⟩ := hrel
    by_cases hlt : j < n
    · have hjz : j < zs.length := by rw [HN.out]; exact hlt
      have hc : wr.cell? ⟨g, j, none⟩ = some (.int .i64 zs[j]) := by
        have hw : (marks k j ++ zs.drop j)[j]? = some zs[j] := by
          rw [List.getElem?_append_right (by rw [marks_len]; omega), marks_len, Nat.sub_self, List.getElem?_drop]; simp [hjz]
        rw [hown.cellAt j (by omega)]
        simp only [iv, List.getElem?_map, hw, Option.map_some]
      have hf : wr.frozen? ⟨g, j, none⟩ = false := hown.frozenAt j
      have hst := hown.stored j (.int .i64 (k + j))
      rw [iv_set k zs j hjz] at hst
      obtain ⟨hst1, hst2⟩ := hst
      have hg2 : w.grownBy (wr.setCell ⟨g, j, none⟩ (.int .i64 (k + j))) (some g) := ⟨hst2.os.trans hgr.os, hst2.tape.trans hgr.tape, hst2.output.trans hgr.output, Nat.le_trans hgr.size hst2.size, fun q hq hne => (hst2.block q (Nat.lt_of_lt_of_le hq hgr.size) hne).trans (hgr.block q hq hne)⟩
      generalize zs[j] = z at hc
      clear hst2 hgr hown hjz
      go_wp2
      go_roundw
      case rel => exact ⟨j + 1, by omega, by go_num, by go_num, hst1, hg2⟩
      case measure => simp [intOf]; omega
    · have hjn : j = n := by omega
      have hown' : wr.ownsRow B 2 1 (.slice (some ⟨g, 0, none⟩) n c) n (iv (marks k n)) := by
        rw [hjn, List.drop_of_length_le (by rw [HN.out]; omega), List.append_nil] at hown; exact hown
      have HJ := Lib.hid hjn
      clear hjn hown
      go_wp2
      go_ret
      exact ⟨ret_int (by have := HJ.out; omega), hown', hgr⟩

theorem markI (v : Value) (zs : List Int) (B : Nat) (k : Int) (hk0 : 0 ≤ k) (hk1 : k ≤ 8796093022208) (w : World) (h : OwnsI w B v zs) (hn : zs.length ≤ 1048576) :
    Calls Try.prog 38 #[v, .int .i64 k] w fun e w' => e = .returned (.int .i64 (k + zs.length)) ∧ OwnsI w' B v (marks k zs.length) ∧ w.grownBy w' v.ownBlock := by
  rcases h.shape with ⟨rfl, rfl⟩ | ⟨g, c, rfl, _⟩
  · refine (markI_zero none 0 k w).mono fun e w' ⟨he, hw⟩ => ?_
    subst hw
    exact ⟨by rw [he]; simp, World.ownsRow_nil _ _ _ _, World.grownBy.refl _ _⟩
  · refine (markI_some g c _ B zs rfl hn k hk0 hk1 w h).mono fun e w' ⟨he, hw, hg⟩ => ⟨he, ?_, hg⟩
    unfold OwnsI
    rw [marks_len]
    exact hw

theorem heldI_zero (a : Option Addr) (c : Nat) (k : Int) (w : World) :
    Calls Try.prog 39 #[.slice a 0 c, .int .i64 k] w fun e w' => e = .returned (.int .i64 k) ∧ w = w' := by
  go_enter Try.func39, Try.ntmps39
  go_wp2
  refine wp_loop_rounds 1 ?_
  rw [rounds_succ]
  go_wp2
  go_ret
  exact ⟨rfl, rfl⟩

set_option maxHeartbeats 400000 in
theorem heldI_some (g c n : Nat) (hn' : n ≤ 1048576) (k : Int) (hk0 : 0 ≤ k) (hk1 : k ≤ 8796093022208) (w : World) (h : ∀ j, j < n → w.cell? ⟨g, j, none⟩ = some (.int .i64 (k + j))) :
    Calls Try.prog 39 #[.slice (some ⟨g, 0, none⟩) n c, .int .i64 k] w fun e w' => e = .returned (.int .i64 (k + n)) ∧ w = w' := by
  have H := Lib.hid h
  clear h
  go_enter Try.func39, Try.ntmps39
  go_wp2
  go_loop [1, 5] (fun q i => ∃ j : Nat, j ≤ n ∧ i = .int .i64 j ∧ q = .int .i64 (k + j)) (fun _ i => n - (intOf i).toNat)
  case atStart => exact ⟨0, Nat.zero_le _, rfl, by simp⟩
  case round =>
    obtain ⟨j, hj, rfl, rfl⟩ := hrel
    by_cases hlt : j < n
    · have hc := H.out j hlt
      go_wp2
      go_round
      case rel => exact ⟨j + 1, by omega, by go_num, by go_num⟩
      case measure => simp [intOf]; omega
    · have hjn : j = n := by omega
      have HJ := Lib.hid hjn
      clear hjn
      go_wp2
      go_ret
      exact ⟨ret_int (by have := HJ.out; omega), rfl⟩

theorem heldI (v : Value) (n B : Nat) (k : Int) (hk0 : 0 ≤ k) (hk1 : k ≤ 8796093022208) (w : World) (h : OwnsI w B v (marks k n)) (hn : n ≤ 1048576) :
    Calls Try.prog 39 #[v, .int .i64 k] w fun e w' => e = .returned (.int .i64 (k + n)) ∧ w = w' := by
  rcases h.shape with ⟨rfl, h0⟩ | ⟨g, c, rfl, _⟩
  · have : n = 0 := by have := congrArg List.length h0; rw [marks_len] at this; simpa using this
    subst this
    refine (heldI_zero none 0 k w).mono fun e w' ⟨he, hw⟩ => ⟨by rw [he]; simp, hw⟩
  · have hc : ∀ j, j < n → w.cell? ⟨g, j, none⟩ = some (.int .i64 (k + j)) := fun j hj => by
      have := h.cell j (by rw [marks_len]; exact hj)
      rw [this]
      simp [marks]
    rw [marks_len]
    exact heldI_some g c n hn k hk0 hk1 w hc
end Go.Proofs.Ytaffachjopjbgaa
