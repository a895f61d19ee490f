/-
  Slices of numbers that can be read, or that a law is given. Walks: laws.toInt64S: a copy in new memory; laws.eqInt64S at equal rows, up to the law's own bound.
-/
import Derived.Test.YtaffachjopjbgaaGramTo
import Derived.Test.YtaffachjopjbgaaIntsM
import Derived.Test.YtaffachjopjbgaaOwnK
import Derived.Test.YtaffachjopjbgaaBlk
import Derived.Laws.MakeOwn
import Derived.Deep.Cut
namespace Go.Proofs.Ytaffachjopjbgaa
open Go.RowKit
open Wd
set_option linter.unusedVariables false
/-- a slice that reads as these numbers -/
def IsL (w : World) (v : Value) (zs : List Int) : Prop :=
  ∃ (A : Option Addr) (c : Nat), v = .slice A zs.length c ∧ (zs = [] ∨ ∃ a, A = some a ∧ ∀ j (hj : j < zs.length), w.cell? (a.add j) = some (.int .i64 zs[j]))
theorem IsL.kept {w w' : World} {v : Value} {zs : List Int} (h : IsL w v zs) (hb : Below w.heap.size w w') : IsL w' v zs := by
  obtain ⟨A, c, hv, h | ⟨a, hA, hc⟩⟩ := h
  · exact ⟨A, c, hv, .inl h⟩
  · exact ⟨A, c, hv, .inr ⟨a, hA, fun j hj => (hb.cell (lt_of_cell (hc j hj))).trans (hc j hj)⟩⟩
theorem IsL.shape {w : World} {v : Value} {zs : List Int} (h : IsL w v zs) : ∃ A c, v = .slice A zs.length c := by
  obtain ⟨A, c, hv, _⟩ := h
  exact ⟨A, c, hv⟩
theorem add_zero' (g j : Nat) : (⟨g, 0, none⟩ : Addr).add j = ⟨g, j, none⟩ := by
  unfold Addr.add
  split
  · subst_vars; rfl
  · simp
theorem IsL.of_own {w : World} {B : Nat} {v : Value} {zs : List Int} (h : OwnsI w B v zs) : IsL w v zs := by
  rcases h.shape with ⟨rfl, hz⟩ | ⟨g, c, rfl, _⟩
  · exact ⟨none, 0, by rw [hz]; rfl, .inl hz⟩
  · exact ⟨_, c, rfl, .inr ⟨_, rfl, fun j hj => by rw [add_zero']; exact h.cell j hj⟩⟩
namespace Wd
def toK (zs : List Int) (k : Nat) : List Int := zs.take k ++ List.replicate (zs.length - k) 0
theorem toK_len (zs : List Int) (k : Nat) (h : k ≤ zs.length) : (toK zs k).length = zs.length := by simp [toK]; omega
theorem toK_set (zs : List Int) (k : Nat) (h : k < zs.length) : (toK zs k).set k zs[k] = toK zs (k + 1) := by
  unfold toK
  have h1 : (zs.take k).length = k := by simp; omega
  rw [List.set_append_right _ _ (by omega), h1, Nat.sub_self, show zs.length - k = (zs.length - (k + 1)) + 1 from by omega, List.replicate_succ, List.set_cons_zero, List.take_succ_eq_append_getElem h, List.append_assoc]
  rfl
theorem toK_zero (zs : List Int) : toK zs 0 = List.replicate zs.length 0 := by simp [toK]
theorem toK_all (zs : List Int) : toK zs zs.length = zs := by simp [toK]
end Wd
set_option maxRecDepth 100000 in
set_option maxHeartbeats 1600000 in
theorem toI_any (v : Value) (zs : List Int) (w : World) (hn : zs.length ≤ 1048576) (h : IsL w v zs) :
    Calls Try.prog 83 #[v] w fun e w' => ∃ y, e = .returned y ∧ OwnsI w' w.heap.size y zs ∧ Below w.heap.size w w' := by
  obtain ⟨i0, hi, hz0, hz1, hz2⟩ := info_parts Try.info_i64
  obtain ⟨A, c, rfl, hin⟩ := h
  have HI := Lib.hid hin
  obtain ⟨n, hn'⟩ : ∃ n, n = zs.length := ⟨_, rfl⟩
  rw [← hn'] at hn ⊢
  have HN := Lib.hid hn'
  clear hin hn'
  go_enter Try.func83, Try.ntmps83
  go_wp2_with (refine wpList_make_full _ rfl _ _ 22 rfl w.heap.size 2 i0 (.int .i64 0) 1 Try.underlying22 hi hz0 hz1 .i64 .i64 _ _ n rfl rfl rfl rfl (by rw [hz2]; omega) (by unfold maxLen; omega) (Nat.le_refl _) ?_)
  intro w1 hown hg
  have hB1 := below_of_grown hg
  rw [made_i64, show List.replicate n (0 : Int) = toK zs 0 from by rw [toK_zero, HN.out]] at hown
  obtain ⟨B, hBe⟩ : ∃ B, B = w.heap.size := ⟨_, rfl⟩
  rw [← hBe] at hown ⊢
  have HBE := Lib.hid hBe
  clear hg hBe
  go_wp2
  go_loopw [4] (fun i wr => ∃ k : Nat, k ≤ n ∧ i = .int .i64 k ∧ wr.ownsRow B 2 1 (.slice (some ⟨B, 0, none⟩) n n) n (iv (toK zs k)) ∧ Below w.heap.size w wr) (fun i _ => n - (intOf i).toNat)
  case atStart => exact ⟨0, Nat.zero_le _, rfl, hown, hB1⟩
  case round =>
    obtain ⟨k, hk, rfl, hown, hB⟩ := hrel
    by_cases hlt : k < n
    · have hkg : k < zs.length := by rw [← HN.out]; exact hlt
      rcases HI.out with hn | ⟨x, rfl, hc⟩
      · rw [hn] at hkg; simp at hkg
      have c0 := hc k hkg
      have d0 := (hB.cell (lt_of_cell c0)).trans c0
      have e0 := (hown.cellAt k (by omega)).trans (List.getElem?_eq_getElem (by simp [iv, toK_len zs k (by omega)]; exact hkg))
      have f0 : wr.frozen? ⟨B, k, none⟩ = false := hown.frozenAt _
      have hs := (hown.stored k (.int .i64 zs[k])).1
      rw [show (iv (toK zs k)).set k (.int .i64 zs[k]) = iv (toK zs (k + 1)) from by rw [← toK_set zs k hkg]; simp [iv, List.map_set]] at hs
      have HS := Lib.hid hs
      have HB := Lib.hid (hB.setCell (p := ⟨B, k, none⟩) (by rw [← HBE.out]; exact Nat.le_refl _) (.int .i64 zs[k]))
      generalize zs[k] = z at *
      clear c0 hc hown hB hs
      generalize (iv (toK zs k))[k]'_ = u0 at *
      go_wp2
      go_roundw
      case rel => exact ⟨k + 1, by omega, by go_num, HS.out, HB.out⟩
      case measure => simp [intOf]; omega
    · obtain rfl : k = n := by omega
      go_wp2
      go_ret
      refine ⟨_, rfl, ?_, hB⟩
      unfold OwnsI
      rw [← HN.out]
      have := hown
      rw [HN.out, toK_all, ← HN.out] at this
      rw [HBE.out] at this ⊢
      exact this


theorem eqJ_zero (a b : Option Addr) (c d : Nat) (w : World) :
    Calls Try.prog 35 #[.slice a 0 c, .slice b 0 d] w fun e w' => e = .returned (.bool true) ∧ Drawn w w' := by
  go_enter Try.func35, Try.ntmps35
  go_wp2
  refine wp_loop_rounds 1 ?_
  rw [rounds_succ]
  go_wp2
  go_ret
  exact ⟨rfl, Drawn.refl _⟩

set_option maxHeartbeats 400000 in
theorem eqJ_some (g1 g2 c d n : Nat) (zs : List Int) (hn : zs.length = n) (hn' : n ≤ 1048576) (w : World) (h1 : ∀ j (hj : j < zs.length), w.cell? ⟨g1, j, none⟩ = some (.int .i64 zs[j])) (h2 : ∀ j (hj : j < zs.length), w.cell? ⟨g2, j, none⟩ = some (.int .i64 zs[j])) :
    Calls Try.prog 35 #[.slice (some ⟨g1, 0, none⟩) n c, .slice (some ⟨g2, 0, none⟩) n d] w fun e w' => e = .returned (.bool true) ∧ Drawn w w' := by
  have H1 := Lib.hid h1
  have H2 := Lib.hid h2
  have HN := Lib.hid hn
  clear h1 h2 hn
  go_enter Try.func35, Try.ntmps35
  go_wp2
  go_loopw [5] (fun i wr => ∃ k : Nat, k ≤ n ∧ i = .int .i64 k ∧ Drawn w wr) (fun i _ => n - (intOf i).toNat)
  case atStart => exact ⟨0, Nat.zero_le _, rfl, Drawn.refl _⟩
  case round =>
    obtain ⟨k, hk, rfl, hD⟩ := hrel
    by_cases hlt : k < n
    · have hkz : k < zs.length := by rw [HN.out]; exact hlt
      have c1 : wr.cell? ⟨g1, k, none⟩ = some (.int .i64 zs[k]) := by obtain ⟨m, rfl⟩ := hD; exact H1.out k hkz
      have c2 : wr.cell? ⟨g2, k, none⟩ = some (.int .i64 zs[k]) := by obtain ⟨m, rfl⟩ := hD; exact H2.out k hkz
      generalize zs[k] = z at c1 c2
      clear hkz
      go_wp2
      go_quiet (fail)
      go_wp2
      go_roundw
      case rel => exact ⟨k + 1, by omega, by go_num, hD.drewN _⟩
      case measure => simp [intOf]; omega
    · go_wp2
      go_ret
      exact ⟨rfl, hD⟩

theorem eqJ (a b : Value) (zs : List Int) (B C : Nat) (w : World) (h1 : OwnsI w B a zs) (h2 : OwnsI w C b zs) (hn : zs.length ≤ 1048576) :
    Calls Try.prog 35 #[a, b] w fun e w' => e = .returned (.bool true) ∧ Drawn w w' := by
  by_cases h0 : zs.length = 0
  · have hz := List.eq_nil_of_length_eq_zero h0
    subst hz
    have sh : ∀ {v B}, OwnsI w B v [] → ∃ a c, v = .slice a 0 c := fun h => by
      rcases h.shape with ⟨rfl, _⟩ | ⟨g, cap, rfl, _⟩
      · exact ⟨_, _, rfl⟩
      · exact ⟨_, _, rfl⟩
    obtain ⟨_, _, rfl⟩ := sh h1
    obtain ⟨_, _, rfl⟩ := sh h2
    exact eqJ_zero _ _ _ _ _
  · rcases h1.shape with ⟨_, rfl⟩ | ⟨g1, c1, rfl, _⟩
    · simp at h0
    rcases h2.shape with ⟨_, rfl⟩ | ⟨g2, c2, rfl, _⟩
    · simp at h0
    exact eqJ_some g1 g2 c1 c2 _ zs rfl hn w (fun j hj => h1.cell j hj) (fun j hj => h2.cell j hj)
end Go.Proofs.Ytaffachjopjbgaa
