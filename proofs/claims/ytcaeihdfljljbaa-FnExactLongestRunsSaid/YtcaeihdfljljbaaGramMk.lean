/-
  Walks: laws.markRuleS, markGrammar: rules of one's own are marked.
-/
import Derived.Test.YtcaeihdfljljbaaGramEq
import Derived.Test.YtcaeihdfljljbaaText
namespace Go.Proofs.Ytcaeihdfljljbaa
open Go.RowKit
open Wd
set_option linter.unusedVariables false

namespace Wd
/-- the marks' rules -/
def mkR (k n : Nat) : List Rl := (List.range n).map fun j => ⟨mkT (k + 3 * j), ((k + 3 * j + 1 : Nat) : Int), ((k + 3 * j + 2 : Nat) : Int)⟩
theorem mkR_len (k n : Nat) : (mkR k n).length = n := by simp [mkR]
theorem mkR_set (k : Nat) (gs : List Rl) (j : Nat) (h : j < gs.length) :
    (mkR k j ++ gs.drop j).set j ⟨mkT (k + 3 * j), ((k + 3 * j + 1 : Nat) : Int), ((k + 3 * j + 2 : Nat) : Int)⟩ = mkR k (j + 1) ++ gs.drop (j + 1) := by
  have e2 : (mkR k j).length = j := mkR_len k j
  rw [List.set_append_right _ _ (by omega), e2, Nat.sub_self, List.drop_eq_getElem_cons h, List.set_cons_zero]
  simp [mkR, List.range_succ]
theorem mkR_all (k : Nat) (gs : List Rl) : mkR k gs.length ++ gs.drop gs.length = mkR k gs.length := by simp
end Wd
theorem rGrownBelow {w w' : World} (h : Below w.heap.size w w') (row : Option Nat) : w.grownBy w' row := ⟨h.os, h.tape, h.output, h.size, fun i hi _ => h.block i hi⟩
theorem rGrownTrans {a b c : World} {row : Option Nat} (h : a.grownBy b row) (h' : b.grownBy c row) : a.grownBy c row :=
  ⟨h'.os.trans h.os, h'.tape.trans h.tape, h'.output.trans h.output, Nat.le_trans h.size h'.size, fun i hi hne => (h'.block i (Nat.lt_of_lt_of_le hi h.size) hne).trans (h.block i hi hne)⟩
theorem own_cells3 {w : World} {B e g c : Nat} {gs : List Rl} (h : w.ownsRow B e 3 (.slice (some ⟨g, 0, none⟩) gs.length c) gs.length (rv gs)) (k : Nat) (hk : k < gs.length) :
    (w.cell? ⟨g, k * 3, none⟩ = some (.string gs[k].L) ∧ w.cell? ⟨g, k * 3 + 1, none⟩ = some (.int .i64 gs[k].l) ∧ w.cell? ⟨g, k * 3 + 2, none⟩ = some (.int .i64 gs[k].r)) ∧
    w.frozen? ⟨g, k * 3, none⟩ = false ∧ w.frozen? ⟨g, k * 3 + 1, none⟩ = false ∧ w.frozen? ⟨g, k * 3 + 2, none⟩ = false := by
  refine ⟨⟨?_, ?_, ?_⟩, h.frozenAt _, h.frozenAt _, h.frozenAt _⟩
  · rw [h.cellAt (k * 3) (by omega)]; exact rv_get gs k hk 0 (by omega)
  · rw [h.cellAt (k * 3 + 1) (by omega)]; exact rv_get gs k hk 1 (by omega)
  · rw [h.cellAt (k * 3 + 2) (by omega)]; exact rv_get gs k hk 2 (by omega)

theorem markR_zero (a : Option Addr) (c : Nat) (k : Int) (w : World) :
    Calls Try.prog 74 #[.slice a 0 c, .int .i64 k] w fun e w' => e = .returned (.int .i64 k) ∧ w = w' := by
  go_enter Try.func74, Try.ntmps74
  go_wp2
  refine wp_loop_rounds 1 ?_
  rw [rounds_succ]
  go_wp2
  go_ret
  exact ⟨rfl, rfl⟩

set_option maxRecDepth 100000 in
set_option maxHeartbeats 1600000 in
theorem markR_some (g c n B : Nat) (gs : List Rl) (hng : gs.length = n) (hn : n ≤ 1048576) (k : Nat) (hk1 : k + 3 * n ≤ 3900000) (w : World) (h : w.ownsRow B 132 3 (.slice (some ⟨g, 0, none⟩) n c) n (rv gs)) :
    Calls Try.prog 74 #[.slice (some ⟨g, 0, none⟩) n c, .int .i64 k] w fun e w' => e = .returned (.int .i64 ((k : Int) + 3 * n)) ∧
      w'.ownsRow B 132 3 (.slice (some ⟨g, 0, none⟩) n c) n (rv (mkR k n)) ∧ w.grownBy w' (some g) := by
  have HN := Lib.hid hng
  clear hng
  go_enter Try.func74, Try.ntmps74
  go_wp2
  go_loopw [1, 5] (fun q i wr => ∃ j : Nat, j ≤ n ∧ i = .int .i64 j ∧ q = .int .i64 ((k + 3 * j : Nat) : Int) ∧ wr.ownsRow B 132 3 (.slice (some ⟨g, 0, none⟩) n c) n (rv (mkR k j ++ gs.drop j)) ∧ w.grownBy wr (some g))
    (fun _ i _ => n - (intOf i).toNat)
  case atStart => exact ⟨0, Nat.zero_le _, rfl, rfl, by simpa [mkR] using h, World.grownBy.refl _ _⟩
  case round =>
    obtain ⟨j, hj, rfl, rfl, hown, hgr⟩ := hrel
    by_cases hlt : j < n
    · have hjz : j < gs.length := by rw [HN.out]; exact hlt
      have hl : (mkR k j ++ gs.drop j).length = n := by rw [List.length_append, mkR_len, List.length_drop, HN.out]; omega
      have HM := Lib.hid (markText (k + 3 * j) (by omega) wr)
      have HST := Lib.hid (mkR_set k gs j hjz)
      generalize hq : k + 3 * j = q at HM HST ⊢
      have HQ := Lib.hid hq
      have hq1 : q ≤ 3900000 := by omega
      have HO := Lib.hid hown
      have HGR := Lib.hid hgr
      clear hq hown hgr
      go_wp2_with fail
      refine HM.out.mono ?_
      rintro e w1 ⟨rfl, hb1⟩
      have hown1 := own_below HO.out hb1 (Nat.le_refl _)
      obtain ⟨⟨c0, c1, c2⟩, f0, f1, f2⟩ := own_cells3 (by rw [hl]; exact hown1) j (by rw [hl]; exact hlt)
      have hst := own_set3 hown1 j (by rw [hl]; exact hlt) ⟨mkT q, ((q + 1 : Nat) : Int), ((q + 2 : Nat) : Int)⟩
      rw [HST.out] at hst
      have hg2 := rGrownTrans HGR.out (rGrownTrans (rGrownBelow hb1 (some g)) (only_setCell (only_setCell (only_setCell (World.grownBy.refl w1 (some g)) (p := ⟨g, j * 3, none⟩) (.inl rfl) (.string (mkT q))) (p := ⟨g, j * 3 + 1, none⟩) (.inl rfl) (.int .i64 ((q + 1 : Nat) : Int))) (p := ⟨g, j * 3 + 2, none⟩) (.inl rfl) (.int .i64 ((q + 2 : Nat) : Int))))
      generalize (mkR k j ++ gs.drop j)[j] = z at c0 c1 c2
      obtain ⟨zL, zl, zr⟩ := z
      simp only at c0 c1 c2
      simp only at hst
      generalize mkT q = t at *
      have HS2 := Lib.hid hst
      have HG2 := Lib.hid hg2
      clear hst hg2 hown1 hb1 HM HST hl hjz
      go_wp2
      go_roundw
      case rel => exact ⟨j + 1, by omega, by go_num, by have := HQ.out; go_num, HS2.out, HG2.out⟩
      case measure => simp [intOf]; omega
    · have hjn : j = n := by omega
      have hown' : wr.ownsRow B 132 3 (.slice (some ⟨g, 0, none⟩) n c) n (rv (mkR k n)) := by
        rw [hjn, ← HN.out, mkR_all, HN.out] at hown; exact hown
      have HJ := Lib.hid hjn
      clear hjn hown
      go_wp2
      go_ret
      exact ⟨ret_int (by have := HJ.out; omega), hown', hgr⟩

theorem markGrammar_any (v : Value) (gs : List Rl) (B : Nat) (k : Nat) (hk1 : k + 3 * gs.length ≤ 3900000) (w : World) (h : OwnsR w B v gs) (hn : gs.length ≤ 1048576) :
    Calls Try.prog 25 #[.agg #[v], .int .i64 k] w fun e w' => e = .returned (.int .i64 ((k : Int) + 3 * gs.length)) ∧ OwnsR w' B v (mkR k gs.length) ∧ w.grownBy w' v.ownBlock := by
  have hb := (Below.refl _ w).alloc (Nat.le_refl _) (.cells #[v] 48)
  have h1 := own_below h hb (Nat.le_refl _)
  rcases h.2 with ⟨rfl, h0⟩ | ⟨g, c, cur, rfl, _⟩
  · have HB := Lib.hid hb
    have hgs : gs = [] := List.eq_nil_of_length_eq_zero h0
    subst hgs
    have HZ := Lib.hid (fun W => markR_zero none 0 k W)
    clear h h1 h0 hb
    go_enter Try.func25, Try.ntmps25
    go_wp2_with fail
    refine (HZ.out _).mono ?_
    rintro e w1 ⟨rfl, rfl⟩
    go_wp2_with fail
    go_ret
    exact ⟨by simp, World.ownsRow_nil _ _ _ _, rGrownBelow HB.out _⟩
  · have HB := Lib.hid hb
    have HM := Lib.hid (markR_some g c gs.length B gs rfl hn k hk1 _ h1)
    clear h h1 hb
    go_enter Try.func25, Try.ntmps25
    go_wp2_with fail
    refine HM.out.mono ?_
    rintro e w1 ⟨rfl, h2, h3⟩
    have H2 := Lib.hid h2
    have H3 := Lib.hid h3
    clear h2 h3
    go_wp2_with fail
    go_ret
    exact ⟨rfl, by unfold OwnsR; rw [mkR_len]; exact H2.out, rGrownTrans (rGrownBelow HB.out _) H3.out⟩
end Go.Proofs.Ytcaeihdfljljbaa
