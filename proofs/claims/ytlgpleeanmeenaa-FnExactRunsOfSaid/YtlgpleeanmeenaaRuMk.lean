/-
  Walk: laws.markRunS. (Turned from XGramMk by runs2.py.)
-/
import Derived.Test.YtlgpleeanmeenaaGramMk
import Derived.Test.YtlgpleeanmeenaaRuEq
namespace Go.Proofs.Ytlgpleeanmeenaa
open Go.RowKit
open Wd
set_option linter.unusedVariables false
namespace Wd
/-- the marks' rules -/
def mkU (k n : Nat) : List Ru := (List.range n).map fun j => ⟨mkT (k + 2 * j), ((k + 2 * j + 1 : Nat) : Int)⟩
theorem mkU_len (k n : Nat) : (mkU k n).length = n := by simp [mkU]
theorem mkU_set (k : Nat) (gs : List Ru) (j : Nat) (h : j < gs.length) :
    (mkU k j ++ gs.drop j).set j ⟨mkT (k + 2 * j), ((k + 2 * j + 1 : Nat) : Int)⟩ = mkU k (j + 1) ++ gs.drop (j + 1) := by
  have e2 : (mkU k j).length = j := mkU_len k j
  rw [List.set_append_right _ _ (by omega), e2, Nat.sub_self, List.drop_eq_getElem_cons h, List.set_cons_zero]
  simp [mkU, List.range_succ]
theorem mkU_all (k : Nat) (gs : List Ru) : mkU k gs.length ++ gs.drop gs.length = mkU k gs.length := by simp
end Wd
theorem own_cells2u {w : World} {B e g c : Nat} {gs : List Ru} (h : w.ownsRow B e 2 (.slice (some ⟨g, 0, none⟩) gs.length c) gs.length (uv gs)) (k : Nat) (hk : k < gs.length) :
    (w.cell? ⟨g, k * 2, none⟩ = some (.string gs[k].L) ∧ w.cell? ⟨g, k * 2 + 1, none⟩ = some (.int .i64 gs[k].l)) ∧
    w.frozen? ⟨g, k * 2, none⟩ = false ∧ w.frozen? ⟨g, k * 2 + 1, none⟩ = false := by
  refine ⟨⟨?_, ?_⟩, h.frozenAt _, h.frozenAt _⟩
  · rw [h.cellAt (k * 2) (by omega)]; exact uv_get gs k hk 0 (by omega)
  · rw [h.cellAt (k * 2 + 1) (by omega)]; exact uv_get gs k hk 1 (by omega)

theorem markU_zero (a : Option Addr) (c : Nat) (k : Int) (w : World) :
    Calls Try.prog 30 #[.slice a 0 c, .int .i64 k] w fun e w' => e = .returned (.int .i64 k) ∧ w = w' := by
  go_enter Try.func30, Try.ntmps30
  go_wp2
  refine wp_loop_rounds 1 ?_
  rw [rounds_succ]
  go_wp2
  go_ret
  exact ⟨rfl, rfl⟩

set_option maxRecDepth 100000 in
set_option maxHeartbeats 1600000 in
theorem markU_some (g c n B : Nat) (gs : List Ru) (hng : gs.length = n) (hn : n ≤ 1048576) (k : Nat) (hk1 : k + 2 * n ≤ 3900000) (w : World) (h : w.ownsRow B 73 2 (.slice (some ⟨g, 0, none⟩) n c) n (uv gs)) :
    Calls Try.prog 30 #[.slice (some ⟨g, 0, none⟩) n c, .int .i64 k] w fun e w' => e = .returned (.int .i64 ((k : Int) + 2 * n)) ∧
      w'.ownsRow B 73 2 (.slice (some ⟨g, 0, none⟩) n c) n (uv (mkU k n)) ∧ w.grownBy w' (some g) := by
  have HN := Lib.hid hng
  clear hng
  go_enter Try.func30, Try.ntmps30
  go_wp2
  go_loopw [1, 5] (fun q i wr => ∃ j : Nat, j ≤ n ∧ i = .int .i64 j ∧ q = .int .i64 ((k + 2 * j : Nat) : Int) ∧ wr.ownsRow B 73 2 (.slice (some ⟨g, 0, none⟩) n c) n (uv (mkU k j ++ gs.drop j)) ∧ w.grownBy wr (some g))
    (fun _ i _ => n - (intOf i).toNat)
  case atStart => exact ⟨0, Nat.zero_le _, rfl, rfl, by simpa [mkU] using h, World.grownBy.refl _ _⟩
  case round =>
    obtain ⟨j, hj, rfl, rfl, hown, hgr⟩ := hrel
    by_cases hlt : j < n
    · have hjz : j < gs.length := by rw [HN.out]; exact hlt
      have hl : (mkU k j ++ gs.drop j).length = n := by rw [List.length_append, mkU_len, List.length_drop, HN.out]; omega
      have HM := Lib.hid (markText (k + 2 * j) (by omega) wr)
      have HST := Lib.hid (mkU_set k gs j hjz)
      generalize hq : k + 2 * j = q at HM HST ⊢
      have HQ := Lib.hid hq
      have hq1 : q ≤ 3900000 := by omega
      have HO := Lib.hid hown
      have HGR := Lib.hid hgr
      clear hq hown hgr
      go_wp2_with fail
      refine HM.out.mono ?_
      rintro e w1 ⟨rfl, hb1⟩
      have hown1 := own_below HO.out hb1 (Nat.le_refl _)
      obtain ⟨⟨c0, c1⟩, f0, f1⟩ := own_cells2u (by rw [hl]; exact hown1) j (by rw [hl]; exact hlt)
      have hst := own_set2u hown1 j (by rw [hl]; exact hlt) ⟨mkT q, ((q + 1 : Nat) : Int)⟩
      rw [HST.out] at hst
      have hg2 := rGrownTrans HGR.out (rGrownTrans (rGrownBelow hb1 (some g)) (only_setCell (only_setCell (World.grownBy.refl w1 (some g)) (p := ⟨g, j * 2, none⟩) (.inl rfl) (.string (mkT q))) (p := ⟨g, j * 2 + 1, none⟩) (.inl rfl) (.int .i64 ((q + 1 : Nat) : Int))))
      generalize (mkU k j ++ gs.drop j)[j] = z at c0 c1
      obtain ⟨zL, zl⟩ := z
      simp only at c0 c1
      simp only at hst
      generalize mkT q = t at *
      have HS2 := Lib.hid hst
      have HG2 := Lib.hid hg2
      clear hst hg2 hown1 hb1 HM HST hl hjz
      go_wp2
      go_roundw
      case rel => exact ⟨j + 1, by omega, by go_num, by have := HQ.out; go_num, HS2.out, HG2.out⟩
      case measure => simp [intOf]; omega
    · have hjn : j = n := by omega
      have hown' : wr.ownsRow B 73 2 (.slice (some ⟨g, 0, none⟩) n c) n (uv (mkU k n)) := by
        rw [hjn, ← HN.out, mkU_all, HN.out] at hown; exact hown
      have HJ := Lib.hid hjn
      clear hjn hown
      go_wp2
      go_ret
      exact ⟨ret_int (by have := HJ.out; omega), hown', hgr⟩

theorem markRunS_any (v : Value) (gs : List Ru) (B : Nat) (k : Nat) (hk1 : k + 2 * gs.length ≤ 3900000) (w : World) (h : OwnsU w B v gs) (hn : gs.length ≤ 1048576) :
    Calls Try.prog 30 #[v, .int .i64 k] w fun e w' => e = .returned (.int .i64 ((k : Int) + 2 * gs.length)) ∧ OwnsU w' B v (mkU k gs.length) ∧ w.grownBy w' v.ownBlock := by
  rcases h.2 with ⟨rfl, h0⟩ | ⟨g, c, cur, rfl, _⟩
  · have hgs : gs = [] := List.eq_nil_of_length_eq_zero h0
    subst hgs
    refine (markU_zero none 0 k w).mono ?_
    rintro e w1 ⟨rfl, rfl⟩
    exact ⟨by simp, World.ownsRow_nil _ _ _ _, World.grownBy.refl _ _⟩
  · refine (markU_some g c gs.length B gs rfl hn k hk1 w h).mono ?_
    rintro e w1 ⟨rfl, h2, h3⟩
    exact ⟨rfl, by unfold OwnsU; rw [mkU_len]; exact h2, h3⟩
end Go.Proofs.Ytlgpleeanmeenaa
