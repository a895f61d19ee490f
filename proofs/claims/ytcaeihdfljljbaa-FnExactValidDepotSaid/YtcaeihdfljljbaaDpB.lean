/-
  Depots as lists of grammars; what reads as such.
  Walks: laws.szGrammarS, szDepot, toGrammarS, toDepot, eqGrammarS, eqDepot.
-/
import Derived.Test.YtcaeihdfljljbaaGramEq
import Derived.Test.YtcaeihdfljljbaaGramOk
import Derived.Test.YtcaeihdfljljbaaGPr
import Derived.Test.YtcaeihdfljljbaaBlk
import Derived.Laws.MakeOwn
import Derived.StillTailTactics
import Derived.Deep.Cut
namespace Go.Proofs.Ytcaeihdfljljbaa
open Go.RowKit
open Wd
set_option linter.unusedVariables false
/-- a slice of grammars that reads -/
def IsGs (w : World) (v : Value) (gss : List (List Rl)) : Prop :=
  ∃ (A : Option Addr) (c : Nat), v = .slice A gss.length c ∧ (gss = [] ∨ ∃ g, A = some ⟨g, 0, none⟩ ∧ ∀ j (hj : j < gss.length), ∃ u, w.cell? ⟨g, j, none⟩ = some u ∧ Rules w u gss[j])
theorem IsGs.kept {w w' : World} {v : Value} {gss : List (List Rl)} (h : IsGs w v gss) (hb : Below w.heap.size w w') : IsGs w' v gss := by
  obtain ⟨A, c, hv, h | ⟨g, hA, hc⟩⟩ := h
  · exact ⟨A, c, hv, .inl h⟩
  · refine ⟨A, c, hv, .inr ⟨g, hA, fun j hj => ?_⟩⟩
    obtain ⟨u, h1, h2⟩ := hc j hj
    exact ⟨u, (hb.cell (lt_of_cell h1)).trans h1, h2.kept hb⟩
/-- a slice of grammars that came in -/
def InGs (w : World) (v : Value) (gss : List (List Rl)) : Prop :=
  ∃ (A : Option Addr) (c : Nat), v = .slice A gss.length c ∧ (gss = [] ∨ ∃ a, A = some a ∧ ∀ j (hj : j < gss.length), ∃ A' n' c', w.cell? (a.add j) = some (.slice A' n' c') ∧ n' ≤ maxLen ∧ InRules w A' n' gss[j])
theorem InGs.kept {w w' : World} {v : Value} {gss : List (List Rl)} (h : InGs w v gss) (hb : Below w.heap.size w w') : InGs w' v gss := by
  obtain ⟨A, c, hv, h | ⟨a, hA, hc⟩⟩ := h
  · exact ⟨A, c, hv, .inl h⟩
  · refine ⟨A, c, hv, .inr ⟨a, hA, fun j hj => ?_⟩⟩
    obtain ⟨A', n', c', h1, h2, h3⟩ := hc j hj
    exact ⟨A', n', c', (hb.cell (lt_of_cell h1)).trans h1, h2, h3.kept hb⟩
/-- a depot -/
structure Dp where
  sv : Int
  nm : Int
  gss : List (List Rl)
def IsDp (w : World) (v : Value) (x : Dp) : Prop := ∃ u, v = .agg #[.int .i64 x.sv, .int .i64 x.nm, u] ∧ IsGs w u x.gss
def InDp (w : World) (v : Value) (x : Dp) : Prop := ∃ u, v = .agg #[.int .i64 x.sv, .int .i64 x.nm, u] ∧ InGs w u x.gss
theorem IsDp.kept {w w' : World} {v : Value} {x : Dp} (h : IsDp w v x) (hb : Below w.heap.size w w') : IsDp w' v x := by
  obtain ⟨u, h1, h2⟩ := h
  exact ⟨u, h1, h2.kept hb⟩
theorem InDp.kept {w w' : World} {v : Value} {x : Dp} (h : InDp w v x) (hb : Below w.heap.size w w') : InDp w' v x := by
  obtain ⟨u, h1, h2⟩ := h
  exact ⟨u, h1, h2.kept hb⟩
/-- few words, and few rules in each -/
def FewD (x : Dp) : Prop := x.gss.length ≤ 1048576 ∧ ∀ g ∈ x.gss, FewR g
def PaidD (left y : Int) (P : Prop) : Prop := (y = -1 ∨ (0 ≤ y ∧ y ≤ left ∧ P))
namespace Wd
/-- is the depot valid? -/
def dpOk (x : Dp) : Bool := decide (1 ≤ x.sv ∧ x.sv ≤ 4) && (decide (1 ≤ x.nm ∧ x.nm ≤ 4) && (decide (x.gss.length ≤ 8) && x.gss.all gOk))
theorem purse_bd {left : Int} {gs : List Rl} (h : ¬ purse left gs < 0) : purse left gs ≤ left ∧ (gs.length : Int) + sumL gs ≤ left := by
  unfold purse at h ⊢
  split at h
  · next h1 => rw [if_pos h1]; omega
  · omega
end Wd
set_option maxRecDepth 100000 in
set_option maxHeartbeats 1600000 in
theorem szGs_any (v : Value) (gss : List (List Rl)) (left : Int) (w : World) (hn : gss.length ≤ maxLen) (h : InGs w v gss) (h0 : 0 ≤ left) (h1 : left ≤ 1048576) :
    Calls Try.prog 56 #[v, .int .i64 left] w fun e w' => ∃ y, e = .returned (.int .i64 y) ∧ Below w.heap.size w w' ∧ PaidD left y (gss.length ≤ 1048576 ∧ ∀ r ∈ gss, FewR r) := by
  unfold maxLen at hn
  obtain ⟨A, c, rfl, hin⟩ := h
  by_cases hbig : left - (gss.length : Int) < 0
  · clear hin
    go_enter Try.func56, Try.ntmps56
    go_wp2_with fail
    go_ret
    exact ⟨_, rfl, Below.refl _ _, .inl rfl⟩
  · have HI := Lib.hid hin
    clear hin
    go_enter Try.func56, Try.ntmps56
    go_wp2_with fail
    go_loopw [1, 5] (fun p i wr => ∃ k : Nat, k ≤ gss.length ∧ i = .int .i64 k ∧ (∃ q : Int, p = .int .i64 q ∧ 0 ≤ q ∧ q ≤ left) ∧ (∀ j (hj : j < gss.length), j < k → FewR gss[j]) ∧ Below w.heap.size w wr) (fun _ i _ => gss.length - (intOf i).toNat)
    case atStart => exact ⟨0, Nat.zero_le _, rfl, ⟨_, rfl, by omega, by omega⟩, fun j hj h => by omega, Below.refl _ _⟩
    case round =>
      obtain ⟨k, hk, rfl, ⟨q, rfl, hq0, hq1⟩, hle, hB⟩ := hrel
      by_cases hlt : k < gss.length
      · rcases HI.out with hn' | ⟨a, rfl, hc⟩
        · rw [hn'] at hlt; simp at hlt
        obtain ⟨A', n', c', e0, hm, hr⟩ := hc k hlt
        have c0 := (hB.cell (lt_of_cell e0)).trans e0
        have HZ := Lib.hid (fun W (hb : Below w.heap.size w W) => szGrammar_any A' n' c' gss[k] q W hm (hr.kept hb) hq0 (by omega))
        have HLE := Lib.hid (fun (hh : FewR gss[k]) => (fun j (hj : j < gss.length) (h : j < k + 1) => by
          by_cases e : j = k
          · subst e; exact hh
          · exact hle j hj (by omega) : ∀ j (hj : j < gss.length), j < k + 1 → FewR gss[j]))
        have HBD : Hid (¬ purse q gss[k] < 0 → purse q gss[k] ≤ q ∧ FewR gss[k]) := Lib.hid (fun h => by
          have := purse_bd h
          exact ⟨this.1, by unfold FewR; omega⟩)
        have HB := Lib.hid hB
        clear hr hc hle e0 hB
        generalize gss[k] = G at *
        generalize purse q G = P at *
        by_cases hneg : P < 0
        · have HNG := Lib.hid hneg
          clear hneg HBD
          go_wp2_with fail
          refine (HZ.out _ HB.out).mono ?_
          rintro e w2 ⟨rfl, hB2⟩
          have HB2 := Lib.hid (HB.out.trans (hB2.mono HB.out.size))
          have hneg := HNG.out
          clear hB2
          go_wp2_with fail
          go_ret
          exact ⟨_, rfl, HB2.out, .inl rfl⟩
        · obtain ⟨hp1, hp2⟩ := HBD.out hneg
          have HFW := Lib.hid hp2
          clear hp2 HBD
          go_wp2_with fail
          refine (HZ.out _ HB.out).mono ?_
          rintro e w2 ⟨rfl, hB2⟩
          have HB2 := Lib.hid (HB.out.trans (hB2.mono HB.out.size))
          clear hB2
          go_wp2_with fail
          go_roundw
          case rel => exact ⟨k + 1, by omega, by go_num, ⟨_, rfl, by omega, by omega⟩, HLE.out HFW.out, HB2.out⟩
          case measure => simp [intOf]; omega
      · obtain rfl : k = gss.length := by omega
        go_wp2_with fail
        go_ret
        exact ⟨_, rfl, hB, .inr ⟨hq0, hq1, by omega, fun r hr => by obtain ⟨j, hj, e⟩ := List.getElem_of_mem hr; rw [← e]; exact hle j hj hj⟩⟩
theorem szDepot_any (v : Value) (x : Dp) (left : Int) (w : World) (hm : x.gss.length ≤ maxLen) (h : InDp w v x) (h0 : 0 ≤ left) (h1 : left ≤ 1048576) :
    Calls Try.prog 14 #[v, .int .i64 left] w fun e w' => ∃ y, e = .returned (.int .i64 y) ∧ Below w.heap.size w w' ∧ PaidD left y (FewD x) := by
  obtain ⟨u, rfl, hn⟩ := h
  have hB := (Below.refl _ w).alloc (Nat.le_refl _) (.cells #[.int .i64 x.sv, .int .i64 x.nm, u] 30)
  have HN := Lib.hid (hn.kept hB)
  have HB := Lib.hid hB
  have HM := Lib.hid hm
  clear hn hB hm
  go_enter Try.func14, Try.ntmps14
  go_wp2_with fail
  refine (szGs_any u x.gss _ _ HM.out HN.out (by omega) (by omega)).mono ?_
  rintro e w2 ⟨y, rfl, hB2, hp⟩
  have HB2 := Lib.hid (HB.out.trans (hB2.mono HB.out.size))
  clear hB2
  rcases hp with rfl | ⟨hy0, hy1, hl, hr⟩
  · go_wp2_with fail
    go_ret
    exact ⟨_, rfl, HB2.out, .inl rfl⟩
  · go_wp2_with fail
    go_ret
    exact ⟨_, rfl, HB2.out, .inr ⟨hy0, by omega, hl, hr⟩⟩
/-- grammars of the call's own, so many yet -/
def GsK (gss : List (List Rl)) (w : World) (B k : Nat) (wr : World) : Prop :=
  ∃ vs : List Value, vs.length = gss.length ∧ wr.ownsRow B 48 1 (.slice (some ⟨B, 0, none⟩) gss.length gss.length) gss.length vs ∧ ∀ j (hj : j < gss.length), j < k → ∃ u, vs[j]? = some u ∧ OwnsR wr (B + 1) u gss[j]
theorem GsK.kept {gss : List (List Rl)} {w wr w1 : World} {B k : Nat} (h : GsK gss w B k wr) (hb : Below wr.heap.size wr w1) : GsK gss w B k w1 := by
  obtain ⟨vs, h1, h2, h3⟩ := h
  refine ⟨vs, h1, own_below h2 hb (Nat.le_refl _), fun j hj hk => ?_⟩
  obtain ⟨u, h4, h5⟩ := h3 j hj hk
  exact ⟨u, h4, own_below h5 hb (Nat.le_refl _)⟩
theorem GsK.store {gss : List (List Rl)} {w wr : World} {B k : Nat} {u : Value} (h : GsK gss w B k wr) (hk : k < gss.length) (hu : OwnsR wr (B + 1) u gss[k]) : GsK gss w B (k + 1) (wr.setCell ⟨B, k, none⟩ u) := by
  obtain ⟨vs, h1, h2, h3⟩ := h
  refine ⟨vs.set k u, by simpa using h1, (h2.stored k u).1, fun j hj hjk => ?_⟩
  by_cases e : j = k
  · subst e
    exact ⟨u, by rw [List.getElem?_set_self (by omega)], own_setLow hu _ _ (by simp)⟩
  · obtain ⟨y, h4, h5⟩ := h3 j hj (by omega)
    exact ⟨y, by rw [List.getElem?_set_ne (by omega)]; exact h4, own_setLow h5 _ _ (by simp)⟩
theorem GsK.cell {gss : List (List Rl)} {w wr : World} {B k : Nat} (h : GsK gss w B k wr) (j : Nat) (hj : j < gss.length) : ∃ u, wr.cell? ⟨B, j, none⟩ = some u ∧ wr.frozen? ⟨B, j, none⟩ = false := by
  obtain ⟨vs, h1, h2, h3⟩ := h
  exact ⟨_, (h2.cellAt j (by omega)).trans (List.getElem?_eq_getElem (by omega)), h2.frozenAt j⟩
/-- grammars that the call owns, all from a block on -/
def OwnGs (w : World) (lo : Nat) (v : Value) (gss : List (List Rl)) : Prop :=
  ∃ (A : Option Addr) (c : Nat), v = .slice A gss.length c ∧ (gss = [] ∨ ∃ B, A = some ⟨B, 0, none⟩ ∧ lo ≤ B ∧ ∀ j (hj : j < gss.length), ∃ u, w.cell? ⟨B, j, none⟩ = some u ∧ OwnsR w lo u gss[j])
theorem OwnGs.isGs {w : World} {lo : Nat} {v : Value} {gss : List (List Rl)} (h : OwnGs w lo v gss) : IsGs w v gss := by
  obtain ⟨A, c, hv, h | ⟨B, hA, _, hc⟩⟩ := h
  · exact ⟨A, c, hv, .inl h⟩
  · refine ⟨A, c, hv, .inr ⟨_, hA, fun j hj => ?_⟩⟩
    obtain ⟨u, h1, h2⟩ := hc j hj
    exact ⟨u, h1, Rules.of_own h2⟩
theorem OwnGs.far {w : World} {lo : Nat} {v : Value} {gss : List (List Rl)} (h : OwnGs w lo v gss) (p : Addr) (u : Value) (hp : p.block < lo) : OwnGs (w.setCell p u) lo v gss := by
  obtain ⟨A, c, hv, h | ⟨B, hA, hB, hc⟩⟩ := h
  · exact ⟨A, c, hv, .inl h⟩
  · refine ⟨A, c, hv, .inr ⟨B, hA, hB, fun j hj => ?_⟩⟩
    obtain ⟨y, h1, h2⟩ := hc j hj
    exact ⟨y, (World.cell?_of_block (a := ⟨B, j, none⟩) (Below.heap_setCell w p u B (by omega))).trans h1, own_setLow h2 _ _ hp⟩
theorem GsK.all {gss : List (List Rl)} {w wr : World} {B : Nat} (h : GsK gss w B gss.length wr) : OwnGs wr B (.slice (some ⟨B, 0, none⟩) gss.length gss.length) gss := by
  obtain ⟨vs, h1, h2, h3⟩ := h
  refine ⟨_, _, rfl, .inr ⟨B, rfl, Nat.le_refl _, fun j hj => ?_⟩⟩
  obtain ⟨u, h4, h5⟩ := h3 j hj hj
  exact ⟨u, by rw [h2.cellAt j (by omega)]; exact h4, own_lower h5 (by omega)⟩
theorem made_nilG (n : Nat) : (madeCells #[.slice none 0 0] n).toList = List.replicate n (.slice none 0 0) := by
  apply List.ext_getElem
  · simp [madeCells]
  · intro i h1 h2
    simp [madeCells, Nat.mod_one]
theorem Try.info_gram1 : (Try.prog.info? 48).map (fun i => (i.zero, i.size, i.bytes)) = some (some (.agg #[.slice none 0 0]), 1, 24) := by kernel_rfl
set_option maxRecDepth 100000 in
set_option maxHeartbeats 1600000 in
theorem toGs_any (v : Value) (gss : List (List Rl)) (w : World) (hn : gss.length ≤ 1048576) (hr : ∀ r ∈ gss, FewR r) (h : InGs w v gss) :
    Calls Try.prog 58 #[v] w fun e w' => ∃ y, e = .returned y ∧ OwnGs w' w.heap.size y gss ∧ Below w.heap.size w w' := by
  obtain ⟨i0, hi, hz0, hz1, hz2⟩ := info_parts Try.info_gram1
  obtain ⟨A, c, rfl, hin⟩ := h
  have HI := Lib.hid hin
  obtain ⟨n, hn'⟩ : ∃ n, n = gss.length := ⟨_, rfl⟩
  rw [← hn'] at hn ⊢
  have HN := Lib.hid hn'
  have HR := Lib.hid hr
  clear hin hn' hr
  go_enter Try.func58, Try.ntmps58
  go_wp2_with (refine wpList_make_full _ rfl _ _ 33 rfl w.heap.size 48 i0 (.agg #[.slice none 0 0]) 1 Try.underlying33 hi hz0 hz1 .i64 .i64 _ _ n rfl rfl rfl rfl (by rw [hz2]; omega) (by unfold maxLen; omega) (Nat.le_refl _) ?_)
  intro w1 hown hg
  have hB1 := below_of_grown hg
  obtain ⟨B, hBe⟩ : ∃ B, B = w.heap.size := ⟨_, rfl⟩
  rw [← hBe] at hown ⊢
  have HST : Hid (GsK gss w B 0 w1) := Lib.hid ⟨List.replicate n (.slice none 0 0), by simp [HN.out], by
    have h := hown
    rw [made_nilG] at h
    rw [← HN.out]; exact h, fun j hj hk => by omega⟩
  have HBE := Lib.hid hBe
  clear hg hBe hown
  go_wp2_with fail
  go_loopw [4] (fun i wr => ∃ k : Nat, k ≤ n ∧ i = .int .i64 k ∧ GsK gss w B k wr ∧ Below w.heap.size w wr) (fun i _ => n - (intOf i).toNat)
  case atStart => exact ⟨0, Nat.zero_le _, rfl, HST.out, hB1⟩
  case round =>
    obtain ⟨k, hk, rfl, hown, hB⟩ := hrel
    obtain ⟨wo, rfl⟩ : ∃ wo : World, wo = wr := ⟨_, rfl⟩
    have HW := Lib.hid hown
    have HB := Lib.hid hB
    by_cases hlt : k < n
    · have hkg : k < gss.length := by rw [← HN.out]; exact hlt
      rcases HI.out with hn | ⟨x, rfl, hc⟩
      · rw [hn] at hkg; simp at hkg
      obtain ⟨A', n', c', c0, hm, hu⟩ := hc k hkg
      have d0 := (hB.cell (lt_of_cell c0)).trans c0
      have hfew := HR.out _ (List.getElem_mem hkg)
      have HT := Lib.hid (toGrammar_any A' n' c' gss[k] wo (by have := hfew.len; rw [hu.1] at this; exact this) (by
        obtain ⟨q1, q2⟩ := hu
        refine ⟨q1, q2.imp id ?_⟩
        rintro ⟨a, ha, hcc⟩
        refine ⟨a, ha, fun j hj => ?_⟩
        obtain ⟨⟨r0, r1, r2⟩, r3⟩ := hcc j hj
        exact ⟨⟨(hB.cell (lt_of_cell r0)).trans r0, (hB.cell (lt_of_cell r1)).trans r1, (hB.cell (lt_of_cell r2)).trans r2⟩, r3⟩))
      have HLT : Hid (B + 1 ≤ wo.heap.size) := Lib.hid (by obtain ⟨vs, h1, h2, _⟩ := hown; exact (h2.lt B rfl).2)
      have HST := Lib.hid (fun (w' : World) (y : Value) (hb : Below wo.heap.size wo w') (hy : OwnsR w' wo.heap.size y gss[k]) => (hown.kept hb).store hkg (own_lower hy HLT.out))
      clear c0 hc hown hB hu hfew
      go_wp2_with fail
      refine HT.out.mono ?_
      rintro e w5 ⟨y, rfl, hy, hB5⟩
      obtain ⟨Ay, cy, rfl⟩ := own_slice hy
      obtain ⟨u0, e0, f0⟩ := (HW.out.kept hB5).cell k hkg
      have HS := Lib.hid (HST.out w5 _ hB5 hy)
      have HB5 := Lib.hid ((HB.out.trans (hB5.mono HB.out.size)).setCell (p := ⟨B, k, none⟩) (by rw [← HBE.out]; exact Nat.le_refl _) (.slice Ay gss[k].length cy))
      clear hy hB5 d0
      go_wp2_with fail
      go_roundw
      case rel => exact ⟨k + 1, by omega, by go_num, HS.out, HB5.out⟩
      case measure => simp [intOf]; omega
    · obtain rfl : k = n := by omega
      clear hown hB
      go_wp2_with fail
      go_ret
      refine ⟨_, rfl, ?_, HB.out⟩
      have := HW.out
      rw [HN.out] at this ⊢
      rw [← HBE.out]
      exact this.all
theorem pd_cells {w : World} {R : Nat} {t : TypeId} {a b c : Value} (h : w.heap[R]? = some (.cells #[a, b, c] t (0, 0))) :
    (w.cell? ⟨R, 0, none⟩ = some a ∧ w.cell? ⟨R, 1, none⟩ = some b ∧ w.cell? ⟨R, 2, none⟩ = some c) ∧ (w.frozen? ⟨R, 0, none⟩ = false ∧ w.frozen? ⟨R, 1, none⟩ = false ∧ w.frozen? ⟨R, 2, none⟩ = false) := by
  refine ⟨⟨?_, ?_, ?_⟩, ?_, ?_, ?_⟩
  · rw [cell_of_row _ _ _ _ _ _ h]; rfl
  · rw [cell_of_row _ _ _ _ _ _ h]; rfl
  · rw [cell_of_row _ _ _ _ _ _ h]; rfl
  · simp [World.frozen?, h]
  · simp [World.frozen?, h]
  · simp [World.frozen?, h]
theorem pd_2 {w : World} {R : Nat} {t : TypeId} {a b c c' : Value} (h : w.heap[R]? = some (.cells #[a, b, c] t (0, 0))) :
    (w.setCell ⟨R, 2, none⟩ c').heap[R]? = some (.cells #[a, b, c'] t (0, 0)) := by
  simp [World.setCell, Array.getElem?_modify, h]
theorem pd_all {w : World} {R : Nat} {t : TypeId} {a b c a' b' c' : Value} (h : w.heap[R]? = some (.cells #[a, b, c] t (0, 0))) :
    (((w.setCell ⟨R, 0, none⟩ a').setCell ⟨R, 1, none⟩ b').setCell ⟨R, 2, none⟩ c').heap[R]? = some (.cells #[a', b', c'] t (0, 0)) := by
  simp [World.setCell, Array.getElem?_modify, h]
set_option maxRecDepth 100000 in
set_option maxHeartbeats 1600000 in
theorem toDepot_any (v : Value) (x : Dp) (w : World) (hf : FewD x) (h : InDp w v x) :
    Calls Try.prog 16 #[v] w fun e w' => ∃ y, e = .returned y ∧ IsDp w' y x ∧ Below w.heap.size w w' := by
  obtain ⟨u, rfl, hN⟩ := h
  obtain ⟨sv, nm, gss⟩ := x
  obtain ⟨hf1, hf2⟩ := hf
  simp only at hN hf1 hf2
  have HT := Lib.hid (fun W (hW : InGs W u gss) => toGs_any u gss W hf1 hf2 hW)
  obtain ⟨Au, cu, rfl, hin⟩ := id hN
  have HN := Lib.hid hN
  clear hN hin
  show Calls Try.prog _ #[.agg #[.int .i64 sv, .int .i64 nm, .slice Au gss.length cu]] _ _
  go_enter Try.func16, Try.ntmps16
  go_upto_region 4 with fail
  obtain ⟨hP, hZ, hR, hB3, hs3⟩ := al3 w (.cells #[.int .i64 sv, .int .i64 nm, .slice Au gss.length cu] 30) (.cells #[.int .i64 0, .int .i64 0, .slice none 0 0] 35) (.cells #[.int .i64 sv, .int .i64 nm, .slice none 0 0] 35)
  generalize ((w.alloc (.cells #[.int .i64 sv, .int .i64 nm, .slice Au gss.length cu] 30)).alloc (.cells #[.int .i64 0, .int .i64 0, .slice none 0 0] 35)).alloc (.cells #[.int .i64 sv, .int .i64 nm, .slice none 0 0] 35) = w3 at *
  obtain ⟨⟨_, _, p2⟩, _⟩ := pd_cells hP
  have HS3 := Lib.hid hs3
  have HZ := Lib.hid hZ
  have HR := Lib.hid hR
  have HB3 := Lib.hid hB3
  have HN3 := Lib.hid (HN.out.kept hB3)
  clear hs3 hP hZ hR hB3
  go_wp2_with fail
  refine (HT.out _ HN3.out).mono ?_
  rintro e w4 ⟨y1, rfl, hy1, hB4⟩
  have hZ := (hB4.block (w.heap.size + 1) (by rw [HS3.out]; omega)).trans HZ.out
  have hR := (hB4.block (w.heap.size + 2) (by rw [HS3.out]; omega)).trans HR.out
  have HB4 := Lib.hid (HB3.out.trans (hB4.mono (by rw [HS3.out]; omega)))
  obtain ⟨A1, c1, rfl, _⟩ := hy1.isGs
  obtain ⟨⟨_, _, r2⟩, _, _, f2⟩ := pd_cells hR
  have HR5 := Lib.hid (pd_2 (c' := .slice A1 gss.length c1) hR)
  have HZ5 := Lib.hid ((Below.heap_setCell w4 ⟨w.heap.size + 2, 2, none⟩ (.slice A1 gss.length c1) (w.heap.size + 1) (by simp)).trans hZ)
  have HO5 := Lib.hid (hy1.far ⟨w.heap.size + 2, 2, none⟩ (.slice A1 gss.length c1) (by rw [HS3.out]; simp))
  have HB5 := Lib.hid (HB4.out.setCell (p := ⟨w.heap.size + 2, 2, none⟩) (by simp) (.slice A1 gss.length c1))
  clear hy1 hB4 hZ hR p2
  go_upto_region 5 with fail
  generalize w4.setCell ⟨w.heap.size + 2, 2, none⟩ (.slice A1 gss.length c1) = w5 at *
  obtain ⟨⟨q0, q1, q2⟩, _⟩ := pd_cells HR5.out
  obtain ⟨⟨z0, z1, z2⟩, g0, g1, g2⟩ := pd_cells HZ5.out
  have HE := Lib.hid (pd_cells (pd_all (a' := .int .i64 sv) (b' := .int .i64 nm) (c' := .slice A1 gss.length c1) HZ5.out)).1
  clear r2 f2
  go_wp2_with fail
  obtain ⟨y0, y1, y2⟩ := HE.out
  refine bodyPost_ret (v := .agg #[.int .i64 sv, .int .i64 nm, .slice A1 gss.length c1]) (by simp [results, Try.results16, go_sem, y0, y1, y2]) rfl ⟨_, rfl, ⟨_, rfl, ?_⟩, ?_⟩
  · refine OwnGs.isGs (((HO5.out.far _ _ ?_).far _ _ ?_).far _ _ ?_) <;> (have := HS3.out; simp only; omega)
  · exact ((HB5.out.setCell (by simp) _).setCell (by simp) _).setCell (by simp) _
set_option maxRecDepth 100000 in
set_option maxHeartbeats 800000 in
theorem eqGs_any (u v : Value) (gss : List (List Rl)) (w : World) (hn : gss.length ≤ 1048576) (hr : ∀ r ∈ gss, FewR r) (h1 : IsGs w u gss) (h2 : IsGs w v gss) :
    Calls Try.prog 62 #[u, v] w fun e w' => e = .returned (.bool true) ∧ Below w.heap.size w w' := by
  have HR := Lib.hid hr
  obtain ⟨A1, c1, rfl, h1⟩ := h1
  obtain ⟨A2, c2, rfl, h2⟩ := h2
  obtain ⟨n, hng⟩ : ∃ n, n = gss.length := ⟨_, rfl⟩
  rw [← hng] at hn ⊢
  have HN := Lib.hid hng
  have H1 := Lib.hid h1
  have H2 := Lib.hid h2
  clear h1 h2 hng hr
  go_enter Try.func62, Try.ntmps62
  go_wp2
  go_loopw [5] (fun i wr => ∃ k : Nat, k ≤ n ∧ i = .int .i64 k ∧ Below w.heap.size w wr) (fun i _ => n - (intOf i).toNat)
  case atStart => exact ⟨0, Nat.zero_le _, rfl, Below.refl _ _⟩
  case round =>
    obtain ⟨k, hk, rfl, hB⟩ := hrel
    obtain ⟨wo, rfl⟩ : ∃ wo : World, wo = wr := ⟨_, rfl⟩
    by_cases hlt : k < n
    · have hkg : k < gss.length := by rw [← HN.out]; exact hlt
      rcases H1.out with hn | ⟨x, rfl, hc1⟩
      · rw [hn] at hkg; simp at hkg
      rcases H2.out with hn | ⟨y, rfl, hc2⟩
      · rw [hn] at hkg; simp at hkg
      obtain ⟨u1, a1, i1⟩ := hc1 k hkg
      obtain ⟨u2, a2, i2⟩ := hc2 k hkg
      have a0 := (hB.cell (lt_of_cell a1)).trans a1
      have b0 := (hB.cell (lt_of_cell a2)).trans a2
      have hm := (HR.out _ (List.getElem_mem hkg)).len
      have HQ := Lib.hid (fun W (hb : Below w.heap.size w W) => eqGrammar_same u1 u2 gss[k] W hm (i1.kept hb) (i2.kept hb))
      have HB := Lib.hid hB
      obtain ⟨A3, c3, rfl, i3⟩ := id i1
      obtain ⟨A4, c4, rfl, i4⟩ := id i2
      clear hc1 hc2 hB a1 a2 i1 i2 i3 i4
      generalize gss[k].length = m at *
      clear hkg
      go_wp2
      go_still_tail 8, (by kernel_rfl)
      change wpList _ _ _ _ _ wo.drew
      have hB2 : Below w.heap.size w wo.drew := HB.out.drew
      generalize wo.drew = w2 at hB2 ⊢
      clear HB a0 b0
      have HB2 := Lib.hid hB2
      clear hB2
      go_wp2_with fail
      refine (HQ.out _ HB2.out).mono ?_; rintro e w' ⟨rfl, hB'⟩
      have hB3 := HB2.out.trans (hB'.mono HB2.out.size)
      clear hB'
      go_wp2
      go_roundw
      case rel => exact ⟨k + 1, by omega, by go_num, hB3⟩
      case measure => simp [intOf]; omega
    · go_wp2
      go_ret
      exact ⟨rfl, hB⟩
set_option maxRecDepth 100000 in
set_option maxHeartbeats 1600000 in
theorem eqDepot_any (u v : Value) (x : Dp) (w : World) (hf : FewD x) (h1 : IsDp w u x) (h2 : IsDp w v x) :
    Calls Try.prog 18 #[u, v] w fun e w' => e = .returned (.bool true) ∧ Below w.heap.size w w' := by
  obtain ⟨n1, rfl, hN1⟩ := h1
  obtain ⟨n2, rfl, hN2⟩ := h2
  have hB0 : Below w.heap.size w ((w.alloc (.cells #[.int .i64 x.sv, .int .i64 x.nm, n1] 35)).alloc (.cells #[.int .i64 x.sv, .int .i64 x.nm, n2] 35)) := ((Below.refl _ w).alloc (Nat.le_refl _) _).alloc (by simp) _
  obtain ⟨A3, c3, rfl, _⟩ := id hN1
  obtain ⟨A4, c4, rfl, _⟩ := id hN2
  have HN := Lib.hid (fun W (hb : Below w.heap.size w W) => eqGs_any _ _ x.gss W hf.1 hf.2 (hN1.kept hb) (hN2.kept hb))
  have HB := Lib.hid hB0
  clear hN1 hN2 hB0
  go_enter Try.func18, Try.ntmps18
  go_wp2_with fail
  refine (HN.out _ HB.out).mono ?_
  rintro e w2 ⟨rfl, hB2⟩
  have HB2 := Lib.hid (HB.out.trans (hB2.mono HB.out.size))
  clear hB2
  go_wp2_with fail
  go_ret
  exact ⟨rfl, HB2.out⟩
end Go.Proofs.Ytcaeihdfljljbaa
