/-
  Walk: spec.TurnGrammar.
-/
import Derived.Test.YtjkijboljffmcabGClone
import Derived.Test.YtjkijboljffmcabGramOk
import Derived.Deep.QuietTactic
namespace Go.Proofs.Ytjkijboljffmcab
open Go.RowKit
open Wd
set_option linter.unusedVariables false

namespace Wd
def turnR (x : Rl) : Rl := ⟨x.L, x.r, x.l⟩
def turnK (gs : List Rl) (k : Nat) : List Rl := (gs.take k).map turnR ++ gs.drop k
theorem turnK_len (gs : List Rl) (k : Nat) (h : k ≤ gs.length) : (turnK gs k).length = gs.length := by simp [turnK]; omega
theorem turnK_zero (gs : List Rl) : turnK gs 0 = gs := by simp [turnK]
theorem turnK_all (gs : List Rl) : turnK gs gs.length = gs.map turnR := by simp [turnK]
theorem turnK_get (gs : List Rl) (k : Nat) (h : k < gs.length) : (turnK gs k)[k]? = some gs[k] := by
  have h1 : ((gs.take k).map turnR).length = k := by simp; omega
  rw [turnK, List.getElem?_append_right (by omega), h1, Nat.sub_self, List.getElem?_drop]
  simp [h]
theorem turnK_set (gs : List Rl) (k : Nat) (h : k < gs.length) : (turnK gs k).set k (turnR gs[k]) = turnK gs (k + 1) := by
  have h1 : ((gs.take k).map turnR).length = k := by simp; omega
  unfold turnK
  rw [List.set_append_right _ _ (by omega), h1, Nat.sub_self, List.drop_eq_getElem_cons h, List.set_cons_zero, List.take_succ_eq_append_getElem h, List.map_append, List.append_assoc]
  rfl
theorem rv_set2 (gs : List Rl) (k : Nat) (h : k < gs.length) (l r : Int) :
    ((rv gs).set (k * 3 + 1) (.int .i64 l)).set (k * 3 + 2) (.int .i64 r) = rv (gs.set k ⟨gs[k].L, l, r⟩) := by
  induction gs generalizing k with
  | nil => simp at h
  | cons y gs ih =>
    cases k with
    | zero => rfl
    | succ k =>
      have h1 := ih k (by simpa using h)
      have e : rv (y :: gs) = .string y.L :: .int .i64 y.l :: .int .i64 y.r :: rv gs := rfl
      have hk : k < gs.length := by simpa using h
      have e2 : rv ((y :: gs).set (k + 1) ⟨(y :: gs)[k + 1].L, l, r⟩) = .string y.L :: .int .i64 y.l :: .int .i64 y.r :: rv (gs.set k ⟨(gs[k]'hk).L, l, r⟩) := rfl
      rw [e, e2, ← h1, show (k + 1) * 3 + 1 = k * 3 + 1 + 1 + 1 + 1 from by omega, show (k + 1) * 3 + 2 = k * 3 + 2 + 1 + 1 + 1 from by omega]
      simp only [List.set_cons_succ]
/-- the answer of TurnGrammar -/
def gramTurnGrammar (gs : List Rl) : List Rl × Int := if gOk gs then (gs.map turnR, 0) else ([], 1)
theorem gramTurnGrammar_len (gs : List Rl) (hf : FewR gs) : (gramTurnGrammar gs).1.length ≤ 1048576 := by
  unfold gramTurnGrammar
  split
  · simp; exact hf.len
  · simp
end Wd
theorem turn_row {w : World} {B e M n c k : Nat} {gs : List Rl} (hk : k < gs.length) (h : w.ownsRow B e 3 (.slice (some ⟨M, 0, none⟩) n c) n (rv (turnK gs k))) :
    ((w.setCell ⟨M, k * 3 + 1, none⟩ (.int .i64 gs[k].r)).setCell ⟨M, k * 3 + 2, none⟩ (.int .i64 gs[k].l)).ownsRow B e 3 (.slice (some ⟨M, 0, none⟩) n c) n (rv (turnK gs (k + 1))) := by
  have hl := turnK_len gs k (Nat.le_of_lt hk)
  have hg := turnK_get gs k hk
  rw [List.getElem?_eq_getElem (by omega)] at hg
  injection hg with hg
  have h1 := ((h.stored (k * 3 + 1) (.int .i64 gs[k].r)).1.stored (k * 3 + 2) (.int .i64 gs[k].l)).1
  rw [rv_set2 _ k (by omega), hg, show (⟨gs[k].L, gs[k].r, gs[k].l⟩ : Rl) = turnR gs[k] from rfl, turnK_set gs k hk] at h1
  exact h1
theorem turn_cells {w : World} {B e M c k : Nat} {gs : List Rl} {n : Nat} (hn : n = gs.length) (hk : k < gs.length) (h : w.ownsRow B e 3 (.slice (some ⟨M, 0, none⟩) n c) n (rv (turnK gs k))) :
    (w.cell? ⟨M, k * 3, none⟩ = some (.string gs[k].L) ∧ w.cell? ⟨M, k * 3 + 1, none⟩ = some (.int .i64 gs[k].l) ∧ w.cell? ⟨M, k * 3 + 2, none⟩ = some (.int .i64 gs[k].r)) ∧ w.frozen? ⟨M, k * 3 + 1, none⟩ = false ∧ w.frozen? ⟨M, k * 3 + 2, none⟩ = false := by
  have hl := turnK_len gs k (Nat.le_of_lt hk)
  have hg := turnK_get gs k hk
  rw [List.getElem?_eq_getElem (by omega)] at hg
  injection hg with hg
  have hkl : k < (turnK gs k).length := by omega
  refine ⟨⟨?_, ?_, ?_⟩, h.frozenAt _, h.frozenAt _⟩
  · rw [h.cellAt (k * 3) (by omega)]; have := rv_get _ k hkl 0 (by omega); rw [hg] at this; exact this
  · rw [h.cellAt (k * 3 + 1) (by omega)]; have := rv_get _ k hkl 1 (by omega); rw [hg] at this; exact this
  · rw [h.cellAt (k * 3 + 2) (by omega)]; have := rv_get _ k hkl 2 (by omega); rw [hg] at this; exact this
theorem rules_gpT {w : World} {v : Value} {gs : List Rl} (h : Rules w v gs) (t : TypeId) : GP (w.alloc (.cells #[v] t)) w.heap.size gs :=
  ⟨v, cell_new w v t, h.kept ((Below.refl _ w).alloc (Nat.le_refl _) _)⟩
/-- a variable in a block of its own -/
def Var (w : World) (b : Nat) (v : Value) (t : TypeId) : Prop := w.heap[b]? = some (.cells #[v] t (0, 0))
theorem Var.new (w : World) (v : Value) (t : TypeId) : Var (w.alloc (.cells #[v] t)) w.heap.size v t := heap_alloc_new w _
theorem Var.cell {w : World} {b : Nat} {v : Value} {t : TypeId} (h : Var w b v t) : w.cell? ⟨b, 0, none⟩ = some v ∧ w.frozen? ⟨b, 0, none⟩ = false := by
  refine ⟨by rw [cell_of_row _ _ _ _ _ _ h]; rfl, ?_⟩
  unfold Var at h
  simp [World.frozen?, h]
theorem Var.lt {w : World} {b : Nat} {v : Value} {t : TypeId} (h : Var w b v t) : b < w.heap.size := (Array.getElem?_eq_some_iff.1 h).1
theorem Var.kept {w w' : World} {b : Nat} {v : Value} {t : TypeId} (h : Var w b v t) (hb : Below w.heap.size w w') : Var w' b v t := (hb.block b h.lt).trans h
theorem Var.far {w : World} {b : Nat} {v : Value} {t : TypeId} (h : Var w b v t) (p : Addr) (u : Value) (hp : b ≠ p.block) : Var (w.setCell p u) b v t := (Below.heap_setCell w p u b hp).trans h
theorem Var.drewN {w : World} {b : Nat} {v : Value} {t : TypeId} (h : Var w b v t) (n : Nat) : Var (w.drewN n) b v t := h

/-- what holds between two rounds -/
def TRel (gs : List Rl) (w : World) (V r : Nat) (t : TypeId) (yv : Value) (i : Value) (wr : World) : Prop :=
  ∃ k : Nat, k ≤ gs.length ∧ i = .int .i64 k ∧ wr.ownsRow (w.heap.size + 2) t 3 yv gs.length (rv (turnK gs k)) ∧ Below w.heap.size w wr ∧ Var wr V yv 29 ∧ Var wr r (.slice none 0 0) 29

set_option maxRecDepth 100000 in
set_option maxHeartbeats 6400000 in
theorem specTurnGrammar (v : Value) (gs : List Rl) (w : World) (hf : FewR gs) (hr : Rules w v gs) :
    Calls Try.prog 42 #[.agg #[v]] w fun e w' => ∃ y, e = .returned (.tuple #[.agg #[y], .int .i64 (gramTurnGrammar gs).2]) ∧ OwnsR w' w.heap.size y (gramTurnGrammar gs).1 ∧ Below w.heap.size w w' := by
  have hb : Below w.heap.size w ((w.alloc (.cells #[v] 29)).alloc (.cells #[.slice none 0 0] 29)) := ((Below.refl _ w).alloc (Nat.le_refl _) _).alloc (by simp) _
  have hg : GP ((w.alloc (.cells #[v] 29)).alloc (.cells #[.slice none 0 0] 29)) w.heap.size gs := (rules_gpT hr 29).kept ((Below.refl _ _).alloc (Nat.le_refl _) _)
  have hv : Var ((w.alloc (.cells #[v] 29)).alloc (.cells #[.slice none 0 0] 29)) (w.heap.size + 1) (.slice none 0 0) 29 := by
    have := Var.new (w.alloc (.cells #[v] 29)) (.slice none 0 0) 29
    rwa [show (w.alloc (.cells #[v] 29)).heap.size = w.heap.size + 1 from by simp] at this
  have h1 := l02Ok_any w.heap.size gs _ hf hg
  have hn := hf.len
  obtain ⟨A, c, rfl, _⟩ := hr
  have HB := Lib.hid hb
  have HG := Lib.hid hg
  have HV := Lib.hid hv
  unfold gramTurnGrammar
  cases hok : gOk gs
  · rw [hok] at h1
    have H1 := Lib.hid h1
    clear h1 hok hb hg hv
    go_enter Try.func42, Try.ntmps42
    go_wp2_with fail
    refine H1.out.mono ?_
    rintro e w1 ⟨rfl, hB1⟩
    have HB1 := Lib.hid (HB.out.trans (hB1.mono (by simp; omega)))
    obtain ⟨vc, vf⟩ := (HV.out.kept hB1).cell
    clear hB1
    go_wp2_with fail
    refine bodyPost_ret (v := .tuple #[.agg #[.slice none 0 0], .int .i64 1]) (by simp [results, Try.results42, go_sem, vc]) rfl ⟨_, rfl, World.ownsRow_nil _ _ _ _, HB1.out.setCell (by simp) _⟩
  · rw [hok] at h1
    have H1 := Lib.hid h1
    clear h1 hok hb hg hv
    go_enter Try.func42, Try.ntmps42
    go_wp2_with fail
    refine H1.out.mono ?_
    rintro e w1 ⟨rfl, hB1⟩
    have HG1 := Lib.hid (HG.out.kept hB1)
    have HV1 := Lib.hid (HV.out.kept hB1)
    have HB1 := Lib.hid (HB.out.trans (hB1.mono (by simp; omega)))
    clear hB1
    go_wp2_with fail
    refine (own_any w.heap.size gs w1 hn HG1.out).mono ?_
    rintro e w2 ⟨y, rfl, ho, hB2⟩
    have HO2 := Lib.hid ho
    obtain ⟨Ay, cy, rfl⟩ := own_slice ho
    have HV2 := Lib.hid (HV1.out.kept hB2)
    have HB2 := Lib.hid (HB1.out.trans (hB2.mono HB1.out.size))
    have hs1 : w.heap.size + 1 < w1.heap.size := HV1.out.lt
    have HS1 := Lib.hid hs1
    clear hB2 ho
    obtain ⟨V, hV⟩ : ∃ V, V = w2.heap.size := ⟨_, rfl⟩
    have hB2' := (Below.refl _ w2).alloc (Nat.le_refl _) (.cells #[.slice Ay gs.length cy] 29)
    have hs2 : w.heap.size + 1 < w2.heap.size := HV2.out.lt
    have HYV : Hid (∀ q, (Value.slice Ay gs.length cy).ownBlock = some q → w.heap.size + 2 ≤ q ∧ q < V) := Lib.hid fun q hq => by
      have h1 := HO2.out.lt q hq
      omega
    have hst : TRel gs w V (w.heap.size + 1) 59 (.slice Ay gs.length cy) (.int .i64 0) (w2.alloc (.cells #[.slice Ay gs.length cy] 29)) :=
      ⟨0, Nat.zero_le _, rfl, by rw [turnK_zero]; exact own_lower (own_below HO2.out hB2' (Nat.le_refl _)) (by omega), HB2.out.trans (hB2'.mono HB2.out.size), by rw [hV]; exact Var.new _ _ _, HV2.out.kept hB2'⟩
    have HST := Lib.hid hst
    have HVr : Hid (w.heap.size + 1 < V) := Lib.hid (by omega)
    clear hst hB2' hs2 hs1
    go_wp2_with fail
    rw [← hV]
    clear hV
    obtain ⟨n, hng⟩ : ∃ n, n = gs.length := ⟨_, rfl⟩
    rw [← hng] at hn HST HYV ⊢
    have HN := Lib.hid hng
    clear hng
    go_loopw [5, 6] (fun i _ wr => TRel gs w V (w.heap.size + 1) 59 (.slice Ay n cy) i wr) (fun i _ _ => n - (intOf i).toNat)
    case atStart => exact HST.out
    case round =>
      obtain ⟨k, hk, rfl, hown, hB, hvy, hvr⟩ := hrel
      obtain ⟨wo, rfl⟩ : ∃ wo : World, wo = wr := ⟨_, rfl⟩
      rw [← HN.out] at hown
      obtain ⟨y0, y1⟩ := hvy.cell
      have HO := Lib.hid hown
      have HVY := Lib.hid hvy
      have HVR := Lib.hid hvr
      have HBo := Lib.hid hB
      by_cases hlt : k < n
      · have hkg : k < gs.length := by rw [← HN.out]; exact hlt
        rcases hown.2 with ⟨_, h0⟩ | ⟨M, cap, cur, hAy, _⟩
        · omega
        injection hAy with hAy _ hcy
        subst hAy hcy
        obtain ⟨⟨c0, c1, c2⟩, f1, f2⟩ := turn_cells HN.out hkg HO.out
        have hM := HYV.out M rfl
        have hrow := turn_row hkg HO.out
        have hx1 : (wo.setCell ⟨M, k * 3 + 1, none⟩ (.int .i64 gs[k].r)).cell? ⟨V, 0, none⟩ = some (.slice (some ⟨M, 0, none⟩) n cy) := by
          rw [World.cell?_setCell_other _ _ _ _ (fun e => by have := congrArg Addr.block e; simp only at this; omega)]; exact y0
        have hx2 : (wo.setCell ⟨M, k * 3 + 1, none⟩ (.int .i64 gs[k].r)).cell? ⟨M, k * 3 + 2, none⟩ = some (.int .i64 gs[k].r) := by
          rw [World.cell?_setCell_other _ _ _ _ (fun e => by have := congrArg Addr.off e; simp only at this; omega)]; exact c2
        have HNW : Hid (TRel gs w V (w.heap.size + 1) 59 (.slice (some ⟨M, 0, none⟩) n cy) (.int .i64 ((k + 1 : Nat) : Int)) ((wo.setCell ⟨M, k * 3 + 1, none⟩ (.int .i64 gs[k].r)).setCell ⟨M, k * 3 + 2, none⟩ (.int .i64 gs[k].l))) :=
          Lib.hid ⟨k + 1, hkg, rfl, by rw [← HN.out]; exact hrow, (HBo.out.setCell (by simp; omega) _).setCell (by simp; omega) _, (HVY.out.far _ _ (by simp; omega)).far _ _ (by simp; omega), (HVR.out.far _ _ (by simp; omega)).far _ _ (by simp; omega)⟩
        have HNWd : Hid (∀ q, TRel gs w V (w.heap.size + 1) 59 (.slice (some ⟨M, 0, none⟩) n cy) (.int .i64 ((k + 1 : Nat) : Int)) (((wo.setCell ⟨M, k * 3 + 1, none⟩ (.int .i64 gs[k].r)).setCell ⟨M, k * 3 + 2, none⟩ (.int .i64 gs[k].l)).drewN q)) := Lib.hid fun q => by
          obtain ⟨j, a1, a2, a3, a4, a5, a6⟩ := HNW.out
          exact ⟨j, a1, a2, a3, below_drewN a4 q, a5.drewN q, a6.drewN q⟩
        have t1 : (0 : Int) ≤ (k : Int) := by omega
        have t2 : (k : Int) < (n : Int) := by omega
        clear hown hB hvy hvr hrow hM
        go_wp2_with fail
        go_still_tail 11, (by kernel_rfl)
        change wpList _ _ _ _ _ wo.drew
        go_wp2_with fail
        go_roundw
        case rel => first | exact HNWd.out 0 | exact HNWd.out 1 | exact HNWd.out _ | ((repeat apply Exists.intro); exact ⟨HNWd.out 1, rfl⟩)
        case measure => simp [intOf]; omega
      · have hkn : k = gs.length := by have := HN.out; omega
        obtain ⟨vc, vf⟩ := hvr.cell
        have HOF : Hid (∀ b u, b < w.heap.size + 2 → OwnsR (wo.setCell ⟨b, 0, none⟩ u) w.heap.size (.slice Ay n cy) (gs.map turnR)) := Lib.hid fun b u hb => by
          unfold OwnsR
          rw [List.length_map, ← HN.out]
          rw [hkn, turnK_all] at hown
          exact own_lower (own_setLow hown ⟨b, 0, none⟩ u (by simpa using hb)) (by omega)
        clear hown hB hvy hvr hkn
        go_wp2_with fail
        refine bodyPost_ret (v := .tuple #[.agg #[.slice Ay n cy], .int .i64 0]) (by simp [results, Try.results42, go_sem, vc]) rfl ⟨_, rfl, HOF.out _ _ (by omega), HBo.out.setCell (by simp) _⟩
end Go.Proofs.Ytjkijboljffmcab
