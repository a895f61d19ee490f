/-
  Walks: impl.coverOf and the closure that it makes: the cover of a part.
-/
import Derived.Test.YtcaeihdfljljbaaDoorWordM
import Derived.Test.YtcaeihdfljljbaaDoorMeas
import Derived.Test.YtcaeihdfljljbaaDoorGPr
import Derived.Test.YtcaeihdfljljbaaDoorUsesM
import Derived.Lib.OthersKept
import Derived.StillTailTactics
namespace Go.Proofs.YtcaeihdfljljbaaDoor
open Go.RowKit
open Wd
set_option linter.unusedVariables false

abbrev takeV (bl bi bj bc br bt : Nat) : Value := .func (.func 119) #[] #[.pointer (some ⟨bl, 0, none⟩), .pointer (some ⟨bi, 0, none⟩), .pointer (some ⟨bj, 0, none⟩), .pointer (some ⟨bc, 0, none⟩), .pointer (some ⟨br, 0, none⟩), .pointer (some ⟨bt, 0, none⟩)]
/-- what the closure has captured -/
structure TSt (B bl bi bj bc br bt : Nat) (i j : Int) (gs : List Rl) (cov : List Int) (w : World) : Prop where
  l : ∃ L c, w.cell? ⟨bl, 0, none⟩ = some (.slice (some ⟨L, 0, none⟩) gs.length c) ∧ L < B ∧ ∀ k, k < gs.length → w.cell? ⟨L, k, none⟩ = some (.int .i64 ((lens gs).getD k 0))
  i : w.cell? ⟨bi, 0, none⟩ = some (.int .i64 i)
  j : w.cell? ⟨bj, 0, none⟩ = some (.int .i64 j)
  r : ∃ v, w.cell? ⟨br, 0, none⟩ = some v ∧ RulesU B w v gs
  t : Var w bt (takeV bl bi bj bc br bt) 178
  c : ∃ yv, Var w bc yv 50 ∧ w.ownsRow B 2 1 yv cov.length (iv cov)
  hl : bl < B
  hi : bi < B
  hj : bj < B
  hr : br < B
  hc : B ≤ bc
  ht : B ≤ bt
  htc : bt ≠ bc
  hs : B ≤ w.heap.size
abbrev Oth64 (b : Nat) (w w' : World) : Prop := Lib.OthersKept 2 (some b) w w'
theorem rulesU_kept' {B : Nat} {w w' : World} {v : Value} {gs : List Rl} (h : RulesU B w v gs) (hb : Below B w w') : RulesU B w' v gs := by
  obtain ⟨A, c, hv, h | ⟨g, hA, hg, hc⟩⟩ := h
  · exact ⟨A, c, hv, .inl h⟩
  · exact ⟨A, c, hv, .inr ⟨g, hA, hg, fun j u hu => by rw [World.cell?_of_block (a := ⟨g, j, none⟩) (hb.block g hg)]; exact hc j u hu⟩⟩
theorem cell_b {B : Nat} {w w' : World} (hb : Below B w w') {x o : Nat} {v : Value} (hx : x < B) (h : w.cell? ⟨x, o, none⟩ = some v) : w'.cell? ⟨x, o, none⟩ = some v := by
  rw [World.cell?_of_block (a := ⟨x, o, none⟩) (hb.block x hx)]; exact h
theorem oth_belowT {e : TypeId} {o : Option Nat} {w w' : World} (hb : Below w.heap.size w w') : Lib.OthersKept e o w w' := fun k x hk _ _ => (hb.block k (Array.getElem?_eq_some_iff.1 hk).1).trans hk
theorem var_set {w : World} {b : Nat} {v : Value} {t : TypeId} (h : Var w b v t) (u : Value) : Var (w.setCell ⟨b, 0, none⟩ u) b u t := by
  unfold Var at h ⊢
  simp [World.setCell, Array.getElem?_modify, h]
/-- new variables and a new cover, the rest being as it was -/
theorem TSt.next {B bl bi bj bc br bt : Nat} {i j : Int} {gs : List Rl} {cov cov' : List Int} {w w' : World} (h : TSt B bl bi bj bc br bt i j gs cov w) (hb : Below B w w')
    (ht : Var w' bt (takeV bl bi bj bc br bt) 178) (hc : ∃ yv, Var w' bc yv 50 ∧ w'.ownsRow B 2 1 yv cov'.length (iv cov')) : TSt B bl bi bj bc br bt i j gs cov' w' := by
  obtain ⟨L, c, h1, h2, h3⟩ := h.l
  obtain ⟨v, r1, r2⟩ := h.r
  exact ⟨⟨L, c, cell_b hb h.hl h1, h2, fun k hk => cell_b hb h2 (h3 k hk)⟩, cell_b hb h.hi h.i, cell_b hb h.hj h.j, ⟨v, cell_b hb h.hr r1, rulesU_kept' r2 hb⟩, ht, hc, h.hl, h.hi, h.hj, h.hr, h.hc, h.ht, h.htc, Nat.le_trans h.hs hb.size⟩
theorem TSt.kept {B bl bi bj bc br bt : Nat} {i j : Int} {gs : List Rl} {cov : List Int} {w w' : World} (h : TSt B bl bi bj bc br bt i j gs cov w) (hb : Below w.heap.size w w') : TSt B bl bi bj bc br bt i j gs cov w' := by
  obtain ⟨yv, c1, c2⟩ := h.c
  exact h.next (hb.mono h.hs) (h.t.kept hb) ⟨yv, c1.kept hb, own_below c2 hb (Nat.le_refl _)⟩
def TkPost (B bl bi bj bc br bt : Nat) (i j : Int) (gs : List Rl) (cov : List Int) (W : World) (e : Ending) (w' : World) : Prop :=
  e = .returned (.tuple #[]) ∧ TSt B bl bi bj bc br bt i j gs cov w' ∧ Below B W w' ∧ Oth64 bc W w'
abbrev TkArgs (bl bi bj bc br bt : Nat) (k : Nat) (s : Int) : Array Value := #[.int .i64 k, .int .i64 s, .pointer (some ⟨bl, 0, none⟩), .pointer (some ⟨bi, 0, none⟩), .pointer (some ⟨bj, 0, none⟩), .pointer (some ⟨bc, 0, none⟩), .pointer (some ⟨br, 0, none⟩), .pointer (some ⟨bt, 0, none⟩)]

set_option maxRecDepth 100000 in
set_option maxHeartbeats 1600000 in
theorem take_out (B bl bi bj bc br bt : Nat) (i j : Int) (gs : List Rl) (cov : List Int) (k : Nat) (s E : Int) (W : World) (hk : k < gs.length) (hn : gs.length ≤ 400) (hE : E = (lens gs).getD k 0) (hE0 : 0 ≤ E ∧ E ≤ 1000000000000000) (hs0 : 0 ≤ s ∧ s ≤ 1000000000000000)
    (h : TSt B bl bi bj bc br bt i j gs cov W) (h1 : s + E ≤ i ∨ j ≤ s) :
    Calls Tryd.prog 119 (TkArgs bl bi bj bc br bt k s) W (TkPost B bl bi bj bc br bt i j gs cov W) := by
  obtain ⟨L, c, l1, l2, l3⟩ := h.l
  have l4 := l3 k hk
  rw [← hE] at l4
  have ci := h.i
  have cj := h.j
  have HE := Lib.hid (show TkPost B bl bi bj bc br bt i j gs cov W (.returned (.tuple #[])) W from ⟨rfl, h, Below.refl _ _, Lib.OthersKept.refl _ _ _⟩)
  unfold TkArgs
  clear h hE l3
  by_cases h2 : s + E ≤ i
  · clear h1
    go_enter Tryd.func119, Tryd.ntmps119
    go_wp2_with fail
    go_end0
    exact HE.out
  · have h3 : j ≤ s := by omega
    have h2d : decide (s + E ≤ i) = false := decide_eq_false h2
    clear h1
    go_enter Tryd.func119, Tryd.ntmps119
    go_wp2_with fail
    go_end0
    exact HE.out

set_option maxRecDepth 100000 in
set_option maxHeartbeats 3200000 in
theorem take_in (B bl bi bj bc br bt : Nat) (i j : Int) (gs : List Rl) (cov : List Int) (k : Nat) (s E : Int) (W : World) (hk : k < gs.length) (hn : gs.length ≤ 400) (hE : E = (lens gs).getD k 0) (hE0 : 0 ≤ E ∧ E ≤ 1000000000000000) (hs0 : 0 ≤ s ∧ s ≤ 1000000000000000)
    (h : TSt B bl bi bj bc br bt i j gs cov W) (hl : cov.length ≤ 1048576) (h1 : ¬ (s + E ≤ i ∨ j ≤ s)) (h2 : i ≤ s ∧ s + E ≤ j) :
    Calls Tryd.prog 119 (TkArgs bl bi bj bc br bt k s) W (TkPost B bl bi bj bc br bt i j gs (cov ++ [(k : Int)]) W) := by
  obtain ⟨i0, hi, hz0, hz1, hz2⟩ := info_parts Tryd.info_i64
  obtain ⟨L, c, l1, l2, l3⟩ := h.l
  have l4 := l3 k hk
  rw [← hE] at l4
  have ci := h.i
  have cj := h.j
  obtain ⟨yv, c1, c2⟩ := h.c
  obtain ⟨yc, yf⟩ := c1.cell
  have hBs := h.hs
  have HT := Lib.hid h
  have HO := Lib.hid c2
  have HV := Lib.hid c1
  obtain ⟨Ay, cy, rfl⟩ := own_slice c2
  have d1 : decide (s + E ≤ i) = false := decide_eq_false (by omega)
  have d2 : decide (j ≤ s) = false := decide_eq_false (by omega)
  have e1 : i ≤ s := h2.1
  have e2 : s + E ≤ j := h2.2
  unfold TkArgs
  clear h hE l3 c1 c2 h1 h2
  go_enter Tryd.func119, Tryd.ntmps119
  go_wp2_with (first | (at_builtin; refine wpList_append_own _ rfl _ _ 50 rfl B 2 i0 (.int .i64 0) 1 8 Tryd.underlying50 hi hz0 hz1 hz2 rfl (by decide) _ _ _ rfl (World.ownsRow.alloc HO.out _) ⟨W.heap.size, 0, none⟩ 1 1 [.int .i64 (k : Int)] rfl rfl (one_new _ _ _) (one_int _ _) (by unfold maxLen; omega) (by omega) (by simp; omega) ?_))
  intro v' w1 hown hgr _
  obtain ⟨A3, c3, rfl⟩ := own_slice hown
  have hne := own_var_ne HO.out HV.out (by decide)
  have hba : Below W.heap.size W (W.alloc (.cells #[.int .i64 (k : Int)] 2)) := (Below.refl _ W).alloc (Nat.le_refl _) _
  have v1 : Var w1 bc (.slice Ay cov.length cy) 50 := (hgr.block bc (Nat.lt_of_lt_of_le HV.out.lt hba.size) (fun e => hne e.symm)).trans (HV.out.kept hba)
  obtain ⟨x0, x1⟩ := v1.cell
  have hB1 : Below B W w1 := (hba.mono hBs).grown hgr (Nat.le_trans hBs hba.size) (fun q hq => (HO.out.lt q hq).1)
  have ho1 : Oth64 bc W w1 := (oth_belowT hba).grown hgr (fun g hg => by
    rcases HO.out.2 with ⟨hn0, _⟩ | ⟨g', cap, cur, hv, _, hgg, _⟩
    · rw [hn0] at hg; simp [Value.ownBlock] at hg
    · rw [hv] at hg
      have : g' = g := by simpa [Value.ownBlock] using hg
      subst this
      exact ⟨cur, (0, 0), (hba.block _ (Array.getElem?_eq_some_iff.1 hgg).1).trans hgg⟩)
  have vt : Var w1 bt (takeV bl bi bj bc br bt) 178 := (hgr.block bt (Nat.lt_of_lt_of_le HT.out.t.lt hba.size) (fun e => own_var_ne HO.out HT.out.t (by decide) e.symm)).trans (HT.out.t.kept hba)
  have HE : Hid (TkPost B bl bi bj bc br bt i j gs (cov ++ [(k : Int)]) W (.returned (.tuple #[])) (w1.setCell ⟨bc, 0, none⟩ (.slice A3 (cov.length + 1) c3))) := Lib.hid (by
    have hB2 : Below B W (w1.setCell ⟨bc, 0, none⟩ (.slice A3 (cov.length + 1) c3)) := hB1.setCell (p := ⟨bc, 0, none⟩) HT.out.hc _
    have hown' : w1.ownsRow B 2 1 (.slice A3 (cov.length + 1) c3) (cov ++ [(k : Int)]).length (iv (cov ++ [(k : Int)])) := by
      rw [List.length_append, iv_app]; exact hown
    have hne' := own_var_ne hown' v1 (by decide)
    refine ⟨rfl, HT.out.next hB2 (vt.far _ _ HT.out.htc) ⟨_, var_set v1 _, World.ownsRow.kept hown' (only_setCell (World.grownBy.refl w1 (some bc)) (p := ⟨bc, 0, none⟩) (.inl rfl) _) (.inr hne')⟩, hB2, ho1.setCell ⟨bc, 0, none⟩ rfl _⟩)
  clear hown hgr v1 hB1 ho1 vt hba
  go_wp2_with fail
  go_end0
  exact HE.out
end Go.Proofs.YtcaeihdfljljbaaDoor
