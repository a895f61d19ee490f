/-
  Contracts and numbers of the functions that the laws of this place call, one text behind the other. No condition beyond those that each theorem names.
-/
import Derived.Test.YtaffachjopjbgaaZ1
import Derived.Laws.Rows
import Derived.Laws.Tables
import Derived.Deep.MidRow
import Derived.Deep.WholeRow
import Derived.Laws.MakeOwn
import Derived.Deep.Cut
import Derived.Deep.AppendLies
import Derived.StillTailTactics
import Derived.BigQuiet
import Derived.Deep.Matrix
import Derived.Deep.Fields
import Derived.ChangeSame
import Derived.Lib.SmallJoins
import Derived.ProofKit
import Derived.OpenShut
import Derived.Deep.RegionLaw
import Derived.Deep.RegionHeld3
namespace Go.Proofs.Ytaffachjopjbgaa
open Go.RowKit
open Wd
set_option linter.unusedVariables false
theorem blk4_cells {w : World} {R : Nat} {t : TypeId} {a b c d : Value} (h : w.heap[R]? = some (.cells #[a, b, c, d] t (0, 0))) :
    (w.cell? ⟨R, 0, none⟩ = some a ∧ w.cell? ⟨R, 1, none⟩ = some b ∧ w.cell? ⟨R, 2, none⟩ = some c ∧ w.cell? ⟨R, 3, none⟩ = some d) ∧ (w.frozen? ⟨R, 0, none⟩ = false ∧ w.frozen? ⟨R, 1, none⟩ = false ∧ w.frozen? ⟨R, 2, none⟩ = false ∧ w.frozen? ⟨R, 3, none⟩ = false) := by
  refine ⟨⟨?_, ?_, ?_, ?_⟩, ?_, ?_, ?_, ?_⟩
  · rw [cell_of_row _ _ _ _ _ _ h]; rfl
  · rw [cell_of_row _ _ _ _ _ _ h]; rfl
  · rw [cell_of_row _ _ _ _ _ _ h]; rfl
  · rw [cell_of_row _ _ _ _ _ _ h]; rfl
  · simp [World.frozen?, h]
  · simp [World.frozen?, h]
  · simp [World.frozen?, h]
  · simp [World.frozen?, h]
theorem blk4_01 {w : World} {R : Nat} {t : TypeId} {a b c d a' b' : Value} (h : w.heap[R]? = some (.cells #[a, b, c, d] t (0, 0))) :
    ((w.setCell ⟨R, 0, none⟩ a').setCell ⟨R, 1, none⟩ b').heap[R]? = some (.cells #[a', b', c, d] t (0, 0)) := by
  simp [World.setCell, Array.getElem?_modify, h]
theorem blk4_2 {w : World} {R : Nat} {t : TypeId} {a b c d c' : Value} (h : w.heap[R]? = some (.cells #[a, b, c, d] t (0, 0))) :
    (w.setCell ⟨R, 2, none⟩ c').heap[R]? = some (.cells #[a, b, c', d] t (0, 0)) := by
  simp [World.setCell, Array.getElem?_modify, h]
theorem blk4_3 {w : World} {R : Nat} {t : TypeId} {a b c d d' : Value} (h : w.heap[R]? = some (.cells #[a, b, c, d] t (0, 0))) :
    (w.setCell ⟨R, 3, none⟩ d').heap[R]? = some (.cells #[a, b, c, d'] t (0, 0)) := by
  simp [World.setCell, Array.getElem?_modify, h]
theorem blk4_all {w : World} {R : Nat} {t : TypeId} {a b c d a' b' c' d' : Value} (h : w.heap[R]? = some (.cells #[a, b, c, d] t (0, 0))) :
    ((((w.setCell ⟨R, 0, none⟩ a').setCell ⟨R, 1, none⟩ b').setCell ⟨R, 2, none⟩ c').setCell ⟨R, 3, none⟩ d').heap[R]? = some (.cells #[a', b', c', d'] t (0, 0)) := by
  simp [World.setCell, Array.getElem?_modify, h]
theorem al3 (w : World) (a b c : Obj) : (((w.alloc a).alloc b).alloc c).heap[w.heap.size]? = some a ∧ (((w.alloc a).alloc b).alloc c).heap[w.heap.size + 1]? = some b ∧ (((w.alloc a).alloc b).alloc c).heap[w.heap.size + 2]? = some c ∧ Below w.heap.size w (((w.alloc a).alloc b).alloc c) ∧ (((w.alloc a).alloc b).alloc c).heap.size = w.heap.size + 3 := by
  have h0 := heap_alloc_new w a
  have h1 := heap_alloc_new (w.alloc a) b
  have h2 := heap_alloc_new ((w.alloc a).alloc b) c
  have s1 : (w.alloc a).heap.size = w.heap.size + 1 := by simp
  have s2 : ((w.alloc a).alloc b).heap.size = w.heap.size + 2 := by simp
  have b1 := (Below.refl _ (w.alloc a)).alloc (Nat.le_refl _) b
  have b2 := (Below.refl _ ((w.alloc a).alloc b)).alloc (Nat.le_refl _) c
  rw [s1] at h1
  rw [s2] at h2
  refine ⟨(b2.block _ (by omega)).trans ((b1.block _ (by omega)).trans h0), (b2.block _ (by omega)).trans h1, h2, (((Below.refl _ w).alloc (Nat.le_refl _) _).alloc (by simp) _).alloc (by simp; omega) _, by simp⟩
theorem bSetRow {B : Nat} {w w' : World} (h : Below B w w') {R : Nat} (hR : B ≤ R) (cs : Array Value) : Below B w (w'.setRow R cs) :=
  ⟨h.os, h.tape, h.output, by rw [size_setRow]; exact h.size, fun k hk => by
    show (w'.heap.modify R _)[k]? = _
    rw [Array.getElem?_modify, if_neg (by omega)]
    exact h.block k hk⟩
end Go.Proofs.Ytaffachjopjbgaa
namespace Go.Proofs.Ytaffachjopjbgaa
open Go.RowKit
open Wd
set_option linter.unusedVariables false
/-- a slice that reads as these numbers -/
def IsL (w : World) (v : Value) (zs : List Int) : Prop :=
  ∃ (A : Option Addr) (c : Nat), v = .slice A zs.length c ∧ (zs = [] ∨ ∃ a, A = some a ∧ ∀ j (hj : j < zs.length), w.cell? (a.add j) = some (.int .i64 zs[j]))
theorem IsL.kept {w w' : World} {v : Value} {zs : List Int} (h : IsL w v zs) (hb : Below w.heap.size w w') : IsL w' v zs := by
  obtain ⟨A, c, hv, h | ⟨a, hA, hc⟩⟩ := h
  · exact ⟨A, c, hv, .inl h⟩
  · exact ⟨A, c, hv, .inr ⟨a, hA, fun j hj => (hb.cell (lt_of_cell (hc j hj))).trans (hc j hj)⟩⟩
theorem IsL.shape {w : World} {v : Value} {zs : List Int} (h : IsL w v zs) : ∃ A c, v = .slice A zs.length c := by
  obtain ⟨A, c, hv, _⟩ := h
  exact ⟨A, c, hv⟩
theorem add_zero' (g j : Nat) : (⟨g, 0, none⟩ : Addr).add j = ⟨g, j, none⟩ := by
  unfold Addr.add
  split
  · subst_vars; rfl
  · simp
theorem IsL.of_own {w : World} {B : Nat} {v : Value} {zs : List Int} (h : OwnsI w B v zs) : IsL w v zs := by
  rcases h.shape with ⟨rfl, hz⟩ | ⟨g, c, rfl, _⟩
  · exact ⟨none, 0, by rw [hz]; rfl, .inl hz⟩
  · exact ⟨_, c, rfl, .inr ⟨_, rfl, fun j hj => by rw [add_zero']; exact h.cell j hj⟩⟩
namespace Wd
def toK (zs : List Int) (k : Nat) : List Int := zs.take k ++ List.replicate (zs.length - k) 0
theorem toK_len (zs : List Int) (k : Nat) (h : k ≤ zs.length) : (toK zs k).length = zs.length := by simp [toK]; omega
theorem toK_set (zs : List Int) (k : Nat) (h : k < zs.length) : (toK zs k).set k zs[k] = toK zs (k + 1) := by
  unfold toK
  have h1 : (zs.take k).length = k := by simp; omega
  rw [List.set_append_right _ _ (by omega), h1, Nat.sub_self, show zs.length - k = (zs.length - (k + 1)) + 1 from by omega, List.replicate_succ, List.set_cons_zero, List.take_succ_eq_append_getElem h, List.append_assoc]
  rfl
theorem toK_zero (zs : List Int) : toK zs 0 = List.replicate zs.length 0 := by simp [toK]
theorem toK_all (zs : List Int) : toK zs zs.length = zs := by simp [toK]
end Wd
set_option maxRecDepth 100000 in
set_option maxHeartbeats 1600000 in
theorem toI_any (v : Value) (zs : List Int) (w : World) (hn : zs.length ≤ 1048576) (h : IsL w v zs) :
    Calls Try.prog 83 #[v] w fun e w' => ∃ y, e = .returned y ∧ OwnsI w' w.heap.size y zs ∧ Below w.heap.size w w' := by
  obtain ⟨i0, hi, hz0, hz1, hz2⟩ := info_parts Try.info_i64
  obtain ⟨A, c, rfl, hin⟩ := h
  have HI := Lib.hid hin
  obtain ⟨n, hn'⟩ : ∃ n, n = zs.length := ⟨_, rfl⟩
  rw [← hn'] at hn ⊢
  have HN := Lib.hid hn'
  clear hin hn'
  go_enter Try.func83, Try.ntmps83
  go_wp2_with (refine wpList_make_full _ rfl _ _ 22 rfl w.heap.size 2 i0 (.int .i64 0) 1 Try.underlying22 hi hz0 hz1 .i64 .i64 _ _ n rfl rfl rfl rfl (by rw [hz2]; omega) (by unfold maxLen; omega) (Nat.le_refl _) ?_)
  intro w1 hown hg
  have hB1 := below_of_grown hg
  rw [made_i64, show List.replicate n (0 : Int) = toK zs 0 from by rw [toK_zero, HN.out]] at hown
  obtain ⟨B, hBe⟩ : ∃ B, B = w.heap.size := ⟨_, rfl⟩
  rw [← hBe] at hown ⊢
  have HBE := Lib.hid hBe
  clear hg hBe
  go_wp2
  go_loopw [4] (fun i wr => ∃ k : Nat, k ≤ n ∧ i = .int .i64 k ∧ wr.ownsRow B 2 1 (.slice (some ⟨B, 0, none⟩) n n) n (iv (toK zs k)) ∧ Below w.heap.size w wr) (fun i _ => n - (intOf i).toNat)
  case atStart => exact ⟨0, Nat.zero_le _, rfl, hown, hB1⟩
  case round =>
    obtain ⟨k, hk, rfl, hown, hB⟩ := hrel
    by_cases hlt : k < n
    · have hkg : k < zs.length := by rw [← HN.out]; exact hlt
      rcases HI.out with hn | ⟨x, rfl, hc⟩
      · rw [hn] at hkg; simp at hkg
      have c0 := hc k hkg
      have d0 := (hB.cell (lt_of_cell c0)).trans c0
      have e0 := (hown.cellAt k (by omega)).trans (List.getElem?_eq_getElem (by simp [iv, toK_len zs k (by omega)]; exact hkg))
      have f0 : wr.frozen? ⟨B, k, none⟩ = false := hown.frozenAt _
      have hs := (hown.stored k (.int .i64 zs[k])).1
      rw [show (iv (toK zs k)).set k (.int .i64 zs[k]) = iv (toK zs (k + 1)) from by rw [← toK_set zs k hkg]; simp [iv, List.map_set]] at hs
      have HS := Lib.hid hs
      have HB := Lib.hid (hB.setCell (p := ⟨B, k, none⟩) (by rw [← HBE.out]; exact Nat.le_refl _) (.int .i64 zs[k]))
      generalize zs[k] = z at *
      clear c0 hc hown hB hs
      generalize (iv (toK zs k))[k]'_ = u0 at *
      go_wp2
      go_roundw
      case rel => exact ⟨k + 1, by omega, by go_num, HS.out, HB.out⟩
      case measure => simp [intOf]; omega
    · obtain rfl : k = n := by omega
      go_wp2
      go_ret
      refine ⟨_, rfl, ?_, hB⟩
      unfold OwnsI
      rw [← HN.out]
      have := hown
      rw [HN.out, toK_all, ← HN.out] at this
      rw [HBE.out] at this ⊢
      exact this


theorem eqJ_zero (a b : Option Addr) (c d : Nat) (w : World) :
    Calls Try.prog 35 #[.slice a 0 c, .slice b 0 d] w fun e w' => e = .returned (.bool true) ∧ Drawn w w' := by
  go_enter Try.func35, Try.ntmps35
  go_wp2
  refine wp_loop_rounds 1 ?_
  rw [rounds_succ]
  go_wp2
  go_ret
  exact ⟨rfl, Drawn.refl _⟩

set_option maxHeartbeats 400000 in
theorem eqJ_some (g1 g2 c d n : Nat) (zs : List Int) (hn : zs.length = n) (hn' : n ≤ 1048576) (w : World) (h1 : ∀ j (hj : j < zs.length), w.cell? ⟨g1, j, none⟩ = some (.int .i64 zs[j])) (h2 : ∀ j (hj : j < zs.length), w.cell? ⟨g2, j, none⟩ = some (.int .i64 zs[j])) :
    Calls Try.prog 35 #[.slice (some ⟨g1, 0, none⟩) n c, .slice (some ⟨g2, 0, none⟩) n d] w fun e w' => e = .returned (.bool true) ∧ Drawn w w' := by
  have H1 := Lib.hid h1
  have H2 := Lib.hid h2
  have HN := Lib.hid hn
  clear h1 h2 hn
  go_enter Try.func35, Try.ntmps35
  go_wp2
  go_loopw [5] (fun i wr => ∃ k : Nat, k ≤ n ∧ i = .int .i64 k ∧ Drawn w wr) (fun i _ => n - (intOf i).toNat)
  case atStart => exact ⟨0, Nat.zero_le _, rfl, Drawn.refl _⟩
  case round =>
    obtain ⟨k, hk, rfl, hD⟩ := hrel
    by_cases hlt : k < n
    · have hkz : k < zs.length := by rw [HN.out]; exact hlt
      have c1 : wr.cell? ⟨g1, k, none⟩ = some (.int .i64 zs[k]) := by obtain ⟨m, rfl⟩ := hD; exact H1.out k hkz
      have c2 : wr.cell? ⟨g2, k, none⟩ = some (.int .i64 zs[k]) := by obtain ⟨m, rfl⟩ := hD; exact H2.out k hkz
      generalize zs[k] = z at c1 c2
      clear hkz
      go_wp2
      go_quiet (fail)
      go_wp2
      go_roundw
      case rel => exact ⟨k + 1, by omega, by go_num, hD.drewN _⟩
      case measure => simp [intOf]; omega
    · go_wp2
      go_ret
      exact ⟨rfl, hD⟩

theorem eqJ (a b : Value) (zs : List Int) (B C : Nat) (w : World) (h1 : OwnsI w B a zs) (h2 : OwnsI w C b zs) (hn : zs.length ≤ 1048576) :
    Calls Try.prog 35 #[a, b] w fun e w' => e = .returned (.bool true) ∧ Drawn w w' := by
  by_cases h0 : zs.length = 0
  · have hz := List.eq_nil_of_length_eq_zero h0
    subst hz
    have sh : ∀ {v B}, OwnsI w B v [] → ∃ a c, v = .slice a 0 c := fun h => by
      rcases h.shape with ⟨rfl, _⟩ | ⟨g, cap, rfl, _⟩
      · exact ⟨_, _, rfl⟩
      · exact ⟨_, _, rfl⟩
    obtain ⟨_, _, rfl⟩ := sh h1
    obtain ⟨_, _, rfl⟩ := sh h2
    exact eqJ_zero _ _ _ _ _
  · rcases h1.shape with ⟨_, rfl⟩ | ⟨g1, c1, rfl, _⟩
    · simp at h0
    rcases h2.shape with ⟨_, rfl⟩ | ⟨g2, c2, rfl, _⟩
    · simp at h0
    exact eqJ_some g1 g2 c1 c2 _ zs rfl hn w (fun j hj => h1.cell j hj) (fun j hj => h2.cell j hj)
end Go.Proofs.Ytaffachjopjbgaa
namespace Go.Proofs.Ytaffachjopjbgaa
open Go.RowKit
open Wd
set_option linter.unusedVariables false
/-- rows of one's own, no two of them in one block -/
structure Rws (w : World) (lo : Nat) (U : List Value) (Z : List (List Int)) : Prop where
  len : U.length = Z.length
  row : ∀ (j : Nat) (u : Value) (zs : List Int), U[j]? = some u → Z[j]? = some zs → OwnsI w lo u zs
  ne : ∀ (i j : Nat) (u y : Value), i < j → U[i]? = some u → U[j]? = some y → u.ownBlock = none ∨ u.ownBlock ≠ y.ownBlock
/-- nothing is changed but in these rows' blocks -/
structure OnlyIn (U : List Value) (w w' : World) : Prop where
  os : w'.os = w.os
  tape : w'.tape = w.tape
  output : w'.output = w.output
  size : w.heap.size ≤ w'.heap.size
  block : ∀ k, k < w.heap.size → (∀ u ∈ U, u.ownBlock ≠ some k) → w'.heap[k]? = w.heap[k]?
theorem OnlyIn.refl (U : List Value) (w : World) : OnlyIn U w w := ⟨rfl, rfl, rfl, Nat.le_refl _, fun _ _ _ => rfl⟩
theorem OnlyIn.trans {U : List Value} {a b c : World} (h : OnlyIn U a b) (h' : OnlyIn U b c) : OnlyIn U a c :=
  ⟨h'.os.trans h.os, h'.tape.trans h.tape, h'.output.trans h.output, Nat.le_trans h.size h'.size, fun k hk hn => (h'.block k (Nat.lt_of_lt_of_le hk h.size) hn).trans (h.block k hk hn)⟩
theorem OnlyIn.mono {U V : List Value} {a b : World} (h : OnlyIn U a b) (hs : ∀ u ∈ U, u ∈ V) : OnlyIn V a b :=
  ⟨h.os, h.tape, h.output, h.size, fun k hk hn => h.block k hk fun u hu => hn u (hs u hu)⟩
theorem OnlyIn.of_grown {U : List Value} {u : Value} {a b : World} (h : a.grownBy b u.ownBlock) (hu : u ∈ U) : OnlyIn U a b :=
  ⟨h.os, h.tape, h.output, h.size, fun k hk hn => h.block k hk fun e => hn u hu e.symm⟩
theorem OnlyIn.of_below {U : List Value} {a b : World} (h : Below a.heap.size a b) : OnlyIn U a b :=
  ⟨h.os, h.tape, h.output, h.size, fun k hk _ => h.block k hk⟩
theorem OnlyIn.below {U : List Value} {a b : World} {lo : Nat} (h : OnlyIn U a b) (hlo : lo ≤ a.heap.size) (hU : ∀ u ∈ U, ∀ q, u.ownBlock = some q → lo ≤ q) : Below lo a b :=
  ⟨h.os, h.tape, h.output, h.size, fun k hk => h.block k (by omega) fun u hu e => by have := hU u hu k e; omega⟩
theorem own_only {U : List Value} {w w' : World} {B e s n : Nat} {v : Value} {xs : List Value} (h : w.ownsRow B e s v n xs) (ho : OnlyIn U w w') (hne : ∀ u ∈ U, u.ownBlock = none ∨ u.ownBlock ≠ v.ownBlock) : w'.ownsRow B e s v n xs := by
  refine ⟨h.1, ?_⟩
  rcases h.2 with h' | ⟨g, cap, cur, rfl, hb, hg, rest⟩
  · exact .inl h'
  · refine .inr ⟨g, cap, cur, rfl, hb, (ho.block g (Array.getElem?_eq_some_iff.1 hg).1 fun u hu e => ?_).trans hg, rest⟩
    rcases hne u hu with h1 | h1
    · rw [h1] at e; cases e
    · exact h1 e
theorem Rws.ge {w : World} {lo : Nat} {U : List Value} {Z : List (List Int)} (h : Rws w lo U Z) : ∀ u ∈ U, ∀ q, u.ownBlock = some q → lo ≤ q ∧ q < w.heap.size := by
  intro u hu q hq
  obtain ⟨j, hj, rfl⟩ := List.mem_iff_getElem.1 hu
  exact (h.row j _ _ (List.getElem?_eq_getElem hj) (List.getElem?_eq_getElem (by rw [← h.len]; exact hj))).lt q hq
theorem Rws.kept {w w' : World} {lo : Nat} {U : List Value} {Z : List (List Int)} (h : Rws w lo U Z) (hb : Below w.heap.size w w') : Rws w' lo U Z :=
  ⟨h.len, fun j u zs h1 h2 => own_below (h.row j u zs h1 h2) hb (Nat.le_refl _), h.ne⟩
theorem Rws.lower {w : World} {lo B : Nat} {U : List Value} {Z : List (List Int)} (h : Rws w lo U Z) (hb : B ≤ lo) : Rws w B U Z :=
  ⟨h.len, fun j u zs h1 h2 => own_lower (h.row j u zs h1 h2) hb, h.ne⟩
theorem Rws.only {w w' : World} {lo : Nat} {U V : List Value} {Z : List (List Int)} (h : Rws w lo U Z) (ho : OnlyIn V w w') (hV : ∀ u ∈ V, ∀ q, u.ownBlock = some q → q < lo) : Rws w' lo U Z := by
  refine ⟨h.len, fun j u zs h1 h2 => own_only (h.row j u zs h1 h2) ho (fun y hy => ?_), h.ne⟩
  cases hq : y.ownBlock with
  | none => exact .inl rfl
  | some q =>
    refine .inr fun e => ?_
    have h3 := hV y hy q hq
    have h4 := ((h.row j u zs h1 h2).lt q e.symm).1
    omega
theorem Rws.mark {w w' : World} {lo : Nat} {U : List Value} {Z : List (List Int)} (h : Rws w lo U Z) {j : Nat} {u : Value} {zs : List Int} (hu : U[j]? = some u) (hg : w.grownBy w' u.ownBlock) (ho : OwnsI w' lo u zs) : Rws w' lo U (Z.set j zs) := by
  refine ⟨by simpa using h.len, fun i y ys h1 h2 => ?_, h.ne⟩
  by_cases e : j = i
  · subst e
    rw [hu] at h1
    injection h1 with h1
    subst h1
    have hj : j < Z.length := by rw [← h.len]; exact (List.getElem?_eq_some_iff.1 hu).1
    rw [List.getElem?_set_self hj] at h2
    injection h2 with h2
    subst h2
    exact ho
  · rw [List.getElem?_set_ne e] at h2
    refine World.ownsRow.kept (h.row i y ys h1 h2) hg ?_
    rcases Nat.lt_or_gt_of_ne e with hlt | hlt
    · rcases h.ne j i u y hlt hu h1 with h3 | h3
      · cases hy : y.ownBlock with
        | none => exact .inl rfl
        | some q => exact .inr (by rw [h3]; simp)
      · exact .inr fun e => h3 e.symm
    · exact h.ne i j y u hlt h1 hu
theorem Rws.tail {w : World} {lo : Nat} {u : Value} {U : List Value} {z : List Int} {Z : List (List Int)} (h : Rws w lo (u :: U) (z :: Z)) : OwnsI w lo u z ∧ Rws w lo U Z ∧ ∀ y ∈ U, y.ownBlock = none ∨ y.ownBlock ≠ u.ownBlock := by
  refine ⟨h.row 0 u z rfl rfl, ⟨by simpa using h.len, fun j y zs h1 h2 => h.row (j + 1) y zs (by simpa using h1) (by simpa using h2), fun i j y y' hij h1 h2 => h.ne (i + 1) (j + 1) y y' (by omega) (by simpa using h1) (by simpa using h2)⟩, fun y hy => ?_⟩
  obtain ⟨j, hj, rfl⟩ := List.mem_iff_getElem.1 hy
  rcases h.ne 0 (j + 1) u U[j] (by omega) rfl (by simp [hj]) with h1 | h1
  · cases hy : U[j].ownBlock with
    | none => exact .inl rfl
    | some q => exact .inr (by rw [h1]; simp)
  · exact .inr fun e => h1 e.symm
theorem Rws.cons {w : World} {lo : Nat} {u : Value} {U : List Value} {z : List Int} {Z : List (List Int)} (h0 : OwnsI w lo u z) (h : Rws w lo U Z) (hne : ∀ y ∈ U, u.ownBlock = none ∨ u.ownBlock ≠ y.ownBlock) : Rws w lo (u :: U) (z :: Z) := by
  refine ⟨by simpa using h.len, fun j y zs h1 h2 => ?_, fun i j y y' hij h1 h2 => ?_⟩
  · cases j with
    | zero =>
      have e1 : u = y := by simpa using h1
      have e2 : z = zs := by simpa using h2
      subst e1 e2
      exact h0
    | succ j => exact h.row j y zs (by simpa using h1) (by simpa using h2)
  · cases j with
    | zero => omega
    | succ j =>
      cases i with
      | zero =>
        have e1 : u = y := by simpa using h1
        subst e1
        exact hne y' (List.mem_iff_getElem?.2 ⟨j, by simpa using h2⟩)
      | succ i => exact h.ne i j y y' (by omega) (by simpa using h1) (by simpa using h2)
theorem Rws.snoc {w : World} {lo : Nat} {u : Value} {U : List Value} {z : List Int} {Z : List (List Int)} (h : Rws w lo U Z) (h0 : OwnsI w lo u z) (hne : ∀ y ∈ U, y.ownBlock = none ∨ y.ownBlock ≠ u.ownBlock) : Rws w lo (U ++ [u]) (Z ++ [z]) := by
  have hl := h.len
  have last : ∀ {α : Type} {l : List α} {a b : α} {j : Nat}, (l ++ [a])[j]? = some b → l[j]? = some b ∨ (j = l.length ∧ a = b) := by
    intro α l a b j hj
    by_cases hlt : j < l.length
    · rw [List.getElem?_append_left hlt] at hj; exact .inl hj
    · rw [List.getElem?_append_right (by omega)] at hj
      have hj0 : j - l.length = 0 := by have := (List.getElem?_eq_some_iff.1 hj).1; simp at this; omega
      rw [hj0] at hj
      exact .inr ⟨by omega, by simpa using hj⟩
  refine ⟨by simp [hl], fun j y zs h1 h2 => ?_, fun i j y y' hij h1 h2 => ?_⟩
  · rcases last h1 with h1 | ⟨h1, rfl⟩ <;> rcases last h2 with h2 | ⟨h2, rfl⟩
    · exact h.row j y zs h1 h2
    · have := (List.getElem?_eq_some_iff.1 h1).1; omega
    · have := (List.getElem?_eq_some_iff.1 h2).1; omega
    · exact h0
  · rcases last h1 with h1 | ⟨h1, rfl⟩ <;> rcases last h2 with h2 | ⟨h2, rfl⟩
    · exact h.ne i j y y' hij h1 h2
    · exact hne y (List.mem_iff_getElem?.2 ⟨i, h1⟩)
    · have := (List.getElem?_eq_some_iff.1 h2).1; omega
    · omega
theorem Rws.nil (w : World) (lo : Nat) : Rws w lo [] [] := ⟨rfl, fun j u zs h => by simp at h, fun i j u y _ h => by simp at h⟩
/-- rows of rows that the call owns: the outer row's slice, its values, what they hold -/
structure OwnM (w : World) (lo : Nat) (v : Value) (U : List Value) (Z : List (List Int)) : Prop where
  outer : w.ownsRow lo 22 1 v U.length U
  rows : Rws w lo U Z
theorem OwnM.ne {w : World} {lo : Nat} {v : Value} {U : List Value} {Z : List (List Int)} (h : OwnM w lo v U Z) : ∀ u ∈ U, u.ownBlock = none ∨ u.ownBlock ≠ v.ownBlock := by
  intro u hu
  obtain ⟨j, hj, rfl⟩ := List.mem_iff_getElem.1 hu
  have h1 := h.rows.row j _ _ (List.getElem?_eq_getElem hj) (List.getElem?_eq_getElem (by rw [← h.rows.len]; exact hj))
  exact own_kinds_ne h1 h.outer (by decide)
theorem OwnM.kept {w w' : World} {lo : Nat} {v : Value} {U : List Value} {Z : List (List Int)} (h : OwnM w lo v U Z) (hb : Below w.heap.size w w') : OwnM w' lo v U Z :=
  ⟨own_below h.outer hb (Nat.le_refl _), h.rows.kept hb⟩
theorem OwnM.lower {w : World} {lo B : Nat} {v : Value} {U : List Value} {Z : List (List Int)} (h : OwnM w lo v U Z) (hb : B ≤ lo) : OwnM w B v U Z :=
  ⟨own_lower h.outer hb, h.rows.lower hb⟩
theorem OwnM.lt {w : World} {lo : Nat} {v : Value} {U : List Value} {Z : List (List Int)} (h : OwnM w lo v U Z) : ∀ q, v.ownBlock = some q → lo ≤ q ∧ q < w.heap.size := fun q hq => h.outer.lt q hq
theorem OwnM.only {w w' : World} {lo : Nat} {v : Value} {U V : List Value} {Z : List (List Int)} (h : OwnM w lo v U Z) (ho : OnlyIn V w w') (hV : ∀ u ∈ V, ∀ q, u.ownBlock = some q → q < lo) : OwnM w' lo v U Z := by
  refine ⟨own_only h.outer ho (fun u hu => ?_), h.rows.only ho hV⟩
  cases hq : u.ownBlock with
  | none => exact .inl rfl
  | some q =>
    refine .inr fun e => ?_
    have h1 := hV u hu q hq
    have h2 := (h.outer.lt q e.symm).1
    omega
theorem OwnM.len {w : World} {lo : Nat} {v : Value} {U : List Value} {Z : List (List Int)} (h : OwnM w lo v U Z) : U.length = Z.length := h.rows.len
theorem OwnM.shape {w : World} {lo : Nat} {v : Value} {U : List Value} {Z : List (List Int)} (h : OwnM w lo v U Z) : (v = .slice none 0 0 ∧ U = []) ∨ ∃ g c, v = .slice (some ⟨g, 0, none⟩) U.length c ∧ lo ≤ g ∧ g < w.heap.size := by
  rcases h.outer.2 with ⟨h1, h2⟩ | ⟨g, cap, cur, rfl, hb, hg, _⟩
  · exact .inl ⟨h1, List.eq_nil_of_length_eq_zero h2⟩
  · exact .inr ⟨g, cap, rfl, hb, (Array.getElem?_eq_some_iff.1 hg).1⟩
theorem OwnM.snoc {w w5 : World} {lo : Nat} {y y' u : Value} {U : List Value} {Z : List (List Int)} {z : List Int} {o : Obj} (h : OwnM w lo y U Z) (hu : OwnsI w lo u z)
    (hne : ∀ q ∈ U, q.ownBlock = none ∨ q.ownBlock ≠ u.ownBlock) (hown : w5.ownsRow lo 22 1 y' (U.length + 1) (U ++ [u])) (hg : (w.alloc o).grownBy w5 y.ownBlock) : OwnM w5 lo y' (U ++ [u]) (Z ++ [z]) := by
  refine ⟨by simpa using hown, Rws.snoc ⟨h.rows.len, fun j q zs h1 h2 => own_other (h.rows.row j q zs h1 h2) h.outer (by decide) hg, h.rows.ne⟩ (own_other hu h.outer (by decide) hg) hne⟩
theorem OwnM.fresh {w : World} {lo B : Nat} {y u : Value} {U : List Value} {Z : List (List Int)} {w' : World} {z : List Int} (h : OwnM w lo y U Z) (hB : w.heap.size ≤ B) (hu : OwnsI w' B u z) : ∀ q ∈ U, q.ownBlock = none ∨ q.ownBlock ≠ u.ownBlock := by
  intro q hq
  cases e : q.ownBlock with
  | none => exact .inl rfl
  | some g =>
    refine .inr fun e' => ?_
    have h1 := (h.rows.ge q hq g e).2
    have h2 := (hu.lt g e'.symm).1
    omega
/-- rows of the call's own, so many yet -/
def MSt (w : World) (Z : List (List Int)) (y : Value) (wr : World) : Prop := ∃ U, OwnM wr w.heap.size y U Z ∧ Below w.heap.size w wr
theorem MSt.start (w : World) (o : Obj) (ho : o = .cells #[] 22) : MSt w [] (.slice (some ⟨w.heap.size, 0, none⟩) 0 0) (w.alloc o) := by
  subst ho
  exact ⟨[], ⟨World.ownsRow_lit (base := w.heap.size) (e := 22) (size := 1) w #[] 0 (Nat.le_refl _) (by decide) rfl, Rws.nil _ _⟩, (Below.refl _ w).alloc (Nat.le_refl _) _⟩
theorem MSt.append {w wo w5 w6 : World} {Z : List (List Int)} {y y' u : Value} {z : List Int} {o : Obj} {U : List Value} (h : OwnM wo w.heap.size y U Z ∧ Below w.heap.size w wo) (hb : Below wo.heap.size wo w5) (hu : OwnsI w5 wo.heap.size u z)
    (hown : w6.ownsRow w.heap.size 22 1 y' (U.length + 1) (U ++ [u])) (hg : (w5.alloc o).grownBy w6 y.ownBlock) : MSt w (Z ++ [z]) y' w6 := by
  obtain ⟨h1, h2⟩ := h
  have hs := h2.size
  have hs5 := hb.size
  refine ⟨U ++ [u], (h1.kept hb).snoc (own_lower hu hs) (h1.fresh (Nat.le_refl _) hu) hown hg, ?_⟩
  exact ((h2.trans (hb.mono hs)).alloc (by omega) o).grown hg (by simp; omega) (fun q hq => (h1.outer.lt q hq).1)
theorem one_slice (A : Option Addr) (n c : Nat) : ∀ u ∈ [Value.slice A n c], u.oneCell' = true := by intro u hu; simp at hu; subst hu; rfl
theorem Try.info_ints : (Try.prog.info? 22).map (fun i => (i.zero, i.size, i.bytes)) = some (some (.slice none 0 0), 1, 24) := by kernel_rfl
end Go.Proofs.Ytaffachjopjbgaa
namespace Go.Proofs.Ytaffachjopjbgaa
open Go.RowKit
open Wd
set_option linter.unusedVariables false

/-- a slice of such slices -/
def IsLL (w : World) (v : Value) (xss : List (List Int)) : Prop :=
  ∃ (A : Option Addr) (c : Nat), v = .slice A xss.length c ∧ (xss = [] ∨ ∃ a, A = some a ∧ ∀ j (hj : j < xss.length), ∃ u, w.cell? (a.add j) = some u ∧ IsL w u xss[j])
theorem IsLL.kept {w w' : World} {v : Value} {xss : List (List Int)} (h : IsLL w v xss) (hb : Below w.heap.size w w') : IsLL w' v xss := by
  obtain ⟨A, c, hv, h | ⟨a, hA, hc⟩⟩ := h
  · exact ⟨A, c, hv, .inl h⟩
  · refine ⟨A, c, hv, .inr ⟨a, hA, fun j hj => ?_⟩⟩
    obtain ⟨u, h1, h2⟩ := hc j hj
    exact ⟨u, (hb.cell (lt_of_cell h1)).trans h1, h2.kept hb⟩
/-- an automaton -/
structure Au where
  st : Int
  go : Int
  fin : List Int
  nx : List (List Int)
def IsAu (w : World) (v : Value) (x : Au) : Prop := ∃ f n, v = .agg #[.int .i64 x.st, .int .i64 x.go, f, n] ∧ IsL w f x.fin ∧ IsLL w n x.nx
theorem IsAu.kept {w w' : World} {v : Value} {x : Au} (h : IsAu w v x) (hb : Below w.heap.size w w') : IsAu w' v x := by
  obtain ⟨f, n, hv, h1, h2⟩ := h
  exact ⟨f, n, hv, h1.kept hb, h2.kept hb⟩
/-- short enough for the machine -/
structure MaxA (x : Au) : Prop where
  fin : x.fin.length ≤ maxLen
  nx : x.nx.length ≤ maxLen
  row : ∀ r ∈ x.nx, r.length ≤ maxLen
/-- few -/
structure FewA (x : Au) : Prop where
  fin : x.fin.length ≤ 1048576
  nx : x.nx.length ≤ 1048576
  row : ∀ r ∈ x.nx, r.length ≤ 1048576
namespace Wd
/-- a valid automaton's row -/
def rowOk (n : Int) (r : List Int) : Bool := decide (r.length = 4) && r.all fun x => decide (0 ≤ x ∧ x < n)
def goodAt (lo hi : Int) (l : List Int) (k : Nat) : Prop := (lo ≤ l.getD k 0 ∧ l.getD k 0 ≤ hi) ∧ (0 < k → l.getD (k - 1) 0 < l.getD k 0)
instance (lo hi : Int) (l : List Int) (k : Nat) : Decidable (goodAt lo hi l k) := by unfold goodAt; exact inferInstance
/-- numbers that rise, between bounds -/
def risesL (lo hi : Int) (l : List Int) : Bool := decide (∀ k, k < l.length → goodAt lo hi l k)
/-- a valid automaton -/
def aOk (x : Au) : Bool := decide (1 ≤ x.st ∧ x.st ≤ 24) && decide (0 ≤ x.go ∧ x.go ≤ x.st - 1) && risesL 0 (x.st - 1) x.fin && (x.nx.all (rowOk x.st) && decide ((x.nx.length : Int) = x.st))
end Wd

theorem szI_any (A : Option Addr) (n c : Nat) (left : Int) (w : World) (hn : n ≤ maxLen) (h0 : 0 ≤ left) (h1 : left ≤ 1048576) :
    Calls Try.prog 75 #[.slice A n c, .int .i64 left] w fun e w' => e = .returned (.int .i64 (if left - n < 0 then -1 else left - n)) ∧ w = w' := by
  unfold maxLen at hn
  by_cases h : left - (n : Int) < 0
  all_goals
    go_enter Try.func75, Try.ntmps75
    go_wp2
    go_ret
    refine ⟨ret_int ?_, rfl⟩
    first | (rw [if_pos h]; done) | (rw [if_neg h]; done) | simp
/-- a purse that is not spent, over lists that are short -/
def Paid (left y : Int) (P : Prop) : Prop := (y = -1 ∨ (0 ≤ y ∧ y ≤ left ∧ P))

set_option maxRecDepth 100000 in
set_option maxHeartbeats 1600000 in
theorem szLL_any (v : Value) (xss : List (List Int)) (left : Int) (w : World) (hn : xss.length ≤ maxLen) (hr : ∀ r ∈ xss, r.length ≤ maxLen) (h : IsLL w v xss) (h0 : 0 ≤ left) (h1 : left ≤ 1048576) :
    Calls Try.prog 76 #[v, .int .i64 left] w fun e w' => ∃ y, e = .returned (.int .i64 y) ∧ w = w' ∧ Paid left y (xss.length ≤ 1048576 ∧ ∀ r ∈ xss, r.length ≤ 1048576) := by
  unfold maxLen at hn
  obtain ⟨A, c, rfl, hin⟩ := h
  by_cases hbig : left - (xss.length : Int) < 0
  · clear hin
    go_enter Try.func76, Try.ntmps76
    go_wp2_with fail
    go_ret
    exact ⟨_, rfl, rfl, .inl rfl⟩
  · have HI := Lib.hid hin
    have HR := Lib.hid hr
    clear hin hr
    go_enter Try.func76, Try.ntmps76
    go_wp2_with fail
    go_loopw [1, 5] (fun p i wr => ∃ k : Nat, k ≤ xss.length ∧ i = .int .i64 k ∧ (∃ q : Int, p = .int .i64 q ∧ 0 ≤ q ∧ q ≤ left) ∧ (∀ j (hj : j < xss.length), j < k → xss[j].length ≤ 1048576) ∧ w = wr) (fun _ i _ => xss.length - (intOf i).toNat)
    case atStart => exact ⟨0, Nat.zero_le _, rfl, ⟨_, rfl, by omega, by omega⟩, fun j hj h => by omega, rfl⟩
    case round =>
      obtain ⟨k, hk, rfl, ⟨q, rfl, hq0, hq1⟩, hle, rfl⟩ := hrel
      by_cases hlt : k < xss.length
      · rcases HI.out with hn' | ⟨a, rfl, hc⟩
        · rw [hn'] at hlt; simp at hlt
        obtain ⟨u, c0, hu⟩ := hc k hlt
        obtain ⟨A2, c2, rfl⟩ := hu.shape
        have hm := HR.out xss[k] (List.getElem_mem hlt)
        have HZ := Lib.hid (fun W => szI_any A2 xss[k].length c2 q W hm hq0 (by omega))
        have HLE := Lib.hid (fun (hh : xss[k].length ≤ 1048576) => (fun j (hj : j < xss.length) (h : j < k + 1) => by
          by_cases e : j = k
          · subst e; exact hh
          · exact hle j hj (by omega) : ∀ j (hj : j < xss.length), j < k + 1 → xss[j].length ≤ 1048576))
        generalize xss[k].length = m at *
        clear hu hc hle
        by_cases hneg : q - (m : Int) < 0
        · rw [if_pos hneg] at HZ
          go_wp2_with fail
          refine (HZ.out _).mono ?_
          rintro e w2 ⟨rfl, rfl⟩
          go_wp2_with fail
          go_ret
          exact ⟨_, rfl, rfl, .inl rfl⟩
        · rw [if_neg hneg] at HZ
          go_wp2_with fail
          refine (HZ.out _).mono ?_
          rintro e w2 ⟨rfl, rfl⟩
          go_wp2_with fail
          go_roundw
          case rel => exact ⟨k + 1, by omega, by go_num, ⟨_, rfl, by omega, by omega⟩, HLE.out (by omega), by trivial⟩
          case measure => simp [intOf]; omega
      · obtain rfl : k = xss.length := by omega
        go_wp2_with fail
        go_ret
        exact ⟨_, rfl, rfl, .inr ⟨hq0, hq1, by omega, fun r hr => by obtain ⟨j, hj, e⟩ := List.getElem_of_mem hr; rw [← e]; exact hle j hj hj⟩⟩

set_option maxRecDepth 100000 in
set_option maxHeartbeats 1600000 in
theorem szAuto_any (v : Value) (x : Au) (left : Int) (w : World) (hm : MaxA x) (h : IsAu w v x) (h0 : 0 ≤ left) (h1 : left ≤ 1048576) :
    Calls Try.prog 17 #[v, .int .i64 left] w fun e w' => ∃ y, e = .returned (.int .i64 y) ∧ Below w.heap.size w w' ∧ Paid left y (FewA x) := by
  obtain ⟨f, n, rfl, hf, hn⟩ := h
  obtain ⟨A, c, rfl⟩ := hf.shape
  have hfm := hm.fin
  have HZ := Lib.hid (fun W => szI_any A x.fin.length c left W hfm h0 h1)
  have HN := Lib.hid (hn.kept ((Below.refl _ w).alloc (Nat.le_refl _) (.cells #[.int .i64 x.st, .int .i64 x.go, .slice A x.fin.length c, n] 25)))
  have HM := Lib.hid hm
  have hB := (Below.refl _ w).alloc (Nat.le_refl _) (.cells #[.int .i64 x.st, .int .i64 x.go, .slice A x.fin.length c, n] 25)
  have HB := Lib.hid hB
  clear hf hn hm hB
  by_cases hneg : left - (x.fin.length : Int) < 0
  · rw [if_pos hneg] at HZ
    go_enter Try.func17, Try.ntmps17
    go_wp2_with fail
    refine (HZ.out _).mono ?_
    rintro e w2 ⟨rfl, rfl⟩
    go_wp2_with fail
    go_ret
    exact ⟨_, rfl, HB.out, .inl rfl⟩
  · rw [if_neg hneg] at HZ
    go_enter Try.func17, Try.ntmps17
    go_wp2_with fail
    refine (HZ.out _).mono ?_
    rintro e w2 ⟨rfl, rfl⟩
    go_wp2_with fail
    refine (szLL_any n x.nx _ _ HM.out.nx HM.out.row HN.out (by omega) (by omega)).mono ?_
    rintro e w2 ⟨y, rfl, rfl, hp⟩
    rcases hp with rfl | ⟨hy0, hy1, hl, hr⟩
    · go_wp2_with fail
      go_ret
      exact ⟨_, rfl, HB.out, .inl rfl⟩
    · go_wp2_with fail
      go_ret
      exact ⟨_, rfl, HB.out, .inr ⟨hy0, by omega, by omega, hl, hr⟩⟩
/-- rows of the call's own, at most so many yet -/
def LLK (xss : List (List Int)) (w : World) (B k : Nat) (wr : World) : Prop :=
  ∃ vs : List Value, vs.length = xss.length ∧ wr.ownsRow B 22 1 (.slice (some ⟨B, 0, none⟩) xss.length xss.length) xss.length vs ∧ ∀ j (hj : j < xss.length), j < k → ∃ u, vs[j]? = some u ∧ OwnsI wr (B + 1) u xss[j]
theorem LLK.kept {xss : List (List Int)} {w wr w1 : World} {B k : Nat} (h : LLK xss w B k wr) (hb : Below wr.heap.size wr w1) : LLK xss w B k w1 := by
  obtain ⟨vs, h1, h2, h3⟩ := h
  refine ⟨vs, h1, own_below h2 hb (Nat.le_refl _), fun j hj hk => ?_⟩
  obtain ⟨u, h4, h5⟩ := h3 j hj hk
  exact ⟨u, h4, own_below h5 hb (Nat.le_refl _)⟩
theorem LLK.store {xss : List (List Int)} {w wr : World} {B k : Nat} {u : Value} (h : LLK xss w B k wr) (hk : k < xss.length) (hu : OwnsI wr (B + 1) u xss[k]) : LLK xss w B (k + 1) (wr.setCell ⟨B, k, none⟩ u) := by
  obtain ⟨vs, h1, h2, h3⟩ := h
  refine ⟨vs.set k u, by simpa using h1, (h2.stored k u).1, fun j hj hjk => ?_⟩
  by_cases e : j = k
  · subst e
    exact ⟨u, by rw [List.getElem?_set_self (by omega)], own_setLow hu _ _ (by simp)⟩
  · obtain ⟨y, h4, h5⟩ := h3 j hj (by omega)
    exact ⟨y, by rw [List.getElem?_set_ne (by omega)]; exact h4, own_setLow h5 _ _ (by simp)⟩
theorem LLK.cell {xss : List (List Int)} {w wr : World} {B k : Nat} (h : LLK xss w B k wr) (j : Nat) (hj : j < xss.length) : ∃ u, wr.cell? ⟨B, j, none⟩ = some u ∧ wr.frozen? ⟨B, j, none⟩ = false := by
  obtain ⟨vs, h1, h2, h3⟩ := h
  exact ⟨_, (h2.cellAt j (by omega)).trans (List.getElem?_eq_getElem (by omega)), h2.frozenAt j⟩
/-- a slice of slices, all of them from a block on -/
def OwnLL (w : World) (lo : Nat) (v : Value) (xss : List (List Int)) : Prop :=
  ∃ (A : Option Addr) (c : Nat), v = .slice A xss.length c ∧ (xss = [] ∨ ∃ B, A = some ⟨B, 0, none⟩ ∧ lo ≤ B ∧ ∀ j (hj : j < xss.length), ∃ u, w.cell? ⟨B, j, none⟩ = some u ∧ OwnsI w lo u xss[j])
theorem OwnLL.isLL {w : World} {lo : Nat} {v : Value} {xss : List (List Int)} (h : OwnLL w lo v xss) : IsLL w v xss := by
  obtain ⟨A, c, hv, h | ⟨B, hA, _, hc⟩⟩ := h
  · exact ⟨A, c, hv, .inl h⟩
  · refine ⟨A, c, hv, .inr ⟨_, hA, fun j hj => ?_⟩⟩
    obtain ⟨u, h1, h2⟩ := hc j hj
    exact ⟨u, by rw [add_zero']; exact h1, IsL.of_own h2⟩
theorem OwnLL.far {w : World} {lo : Nat} {v : Value} {xss : List (List Int)} (h : OwnLL w lo v xss) (p : Addr) (u : Value) (hp : p.block < lo) : OwnLL (w.setCell p u) lo v xss := by
  obtain ⟨A, c, hv, h | ⟨B, hA, hB, hc⟩⟩ := h
  · exact ⟨A, c, hv, .inl h⟩
  · refine ⟨A, c, hv, .inr ⟨B, hA, hB, fun j hj => ?_⟩⟩
    obtain ⟨y, h1, h2⟩ := hc j hj
    exact ⟨y, (World.cell?_of_block (a := ⟨B, j, none⟩) (Below.heap_setCell w p u B (by omega))).trans h1, own_setLow h2 _ _ hp⟩
theorem LLK.all {xss : List (List Int)} {w wr : World} {B : Nat} (h : LLK xss w B xss.length wr) : OwnLL wr B (.slice (some ⟨B, 0, none⟩) xss.length xss.length) xss := by
  obtain ⟨vs, h1, h2, h3⟩ := h
  refine ⟨_, _, rfl, .inr ⟨B, rfl, Nat.le_refl _, fun j hj => ?_⟩⟩
  obtain ⟨u, h4, h5⟩ := h3 j hj hj
  exact ⟨u, by rw [h2.cellAt j (by omega)]; exact h4, own_lower h5 (by omega)⟩
theorem made_nil (n : Nat) : (madeCells #[.slice none 0 0] n).toList = List.replicate n (.slice none 0 0) := by
  apply List.ext_getElem
  · simp [madeCells]
  · intro i h1 h2
    simp [madeCells, Nat.mod_one]
set_option maxRecDepth 100000 in
set_option maxHeartbeats 1600000 in
theorem toLL_any (v : Value) (xss : List (List Int)) (w : World) (hn : xss.length ≤ 1048576) (hr : ∀ r ∈ xss, r.length ≤ 1048576) (h : IsLL w v xss) :
    Calls Try.prog 84 #[v] w fun e w' => ∃ y, e = .returned y ∧ OwnLL w' w.heap.size y xss ∧ Below w.heap.size w w' := by
  obtain ⟨i0, hi, hz0, hz1, hz2⟩ := info_parts Try.info_ints
  obtain ⟨A, c, rfl, hin⟩ := h
  have HI := Lib.hid hin
  obtain ⟨n, hn'⟩ : ∃ n, n = xss.length := ⟨_, rfl⟩
  rw [← hn'] at hn ⊢
  have HN := Lib.hid hn'
  have HR := Lib.hid hr
  clear hin hn' hr
  go_enter Try.func84, Try.ntmps84
  go_wp2_with (refine wpList_make_full _ rfl _ _ 23 rfl w.heap.size 22 i0 (.slice none 0 0) 1 Try.underlying23 hi hz0 hz1 .i64 .i64 _ _ n rfl rfl rfl rfl (by rw [hz2]; omega) (by unfold maxLen; omega) (Nat.le_refl _) ?_)
  intro w1 hown hg
  have hB1 := below_of_grown hg
  obtain ⟨B, hBe⟩ : ∃ B, B = w.heap.size := ⟨_, rfl⟩
  rw [← hBe] at hown ⊢
  have HST : Hid (LLK xss w B 0 w1) := Lib.hid ⟨List.replicate n (.slice none 0 0), by simp [HN.out], by
    have h := hown
    rw [made_nil] at h
    rw [← HN.out]; exact h, fun j hj hk => by omega⟩
  have HBE := Lib.hid hBe
  clear hg hBe hown
  go_wp2_with fail
  go_loopw [4] (fun i wr => ∃ k : Nat, k ≤ n ∧ i = .int .i64 k ∧ LLK xss w B k wr ∧ Below w.heap.size w wr) (fun i _ => n - (intOf i).toNat)
  case atStart => exact ⟨0, Nat.zero_le _, rfl, HST.out, hB1⟩
  case round =>
    obtain ⟨k, hk, rfl, hown, hB⟩ := hrel
    obtain ⟨wo, rfl⟩ : ∃ wo : World, wo = wr := ⟨_, rfl⟩
    have HW := Lib.hid hown
    have HB := Lib.hid hB
    by_cases hlt : k < n
    · have hkg : k < xss.length := by rw [← HN.out]; exact hlt
      rcases HI.out with hn | ⟨x, rfl, hc⟩
      · rw [hn] at hkg; simp at hkg
      obtain ⟨u, c0, hu⟩ := hc k hkg
      have d0 := (hB.cell (lt_of_cell c0)).trans c0
      have HT := Lib.hid (toI_any u xss[k] wo (HR.out _ (List.getElem_mem hkg)) (by
        obtain ⟨A', c', hv', h'⟩ := hu
        refine ⟨A', c', hv', h'.imp id ?_⟩
        rintro ⟨a, ha, hcc⟩
        exact ⟨a, ha, fun j hj => (hB.cell (lt_of_cell (hcc j hj))).trans (hcc j hj)⟩))
      have HLT : Hid (B + 1 ≤ wo.heap.size) := Lib.hid (by obtain ⟨vs, h1, h2, _⟩ := hown; exact (h2.lt B rfl).2)
      have HST := Lib.hid (fun (w' : World) (y : Value) (hb : Below wo.heap.size wo w') (hy : OwnsI w' wo.heap.size y xss[k]) => (hown.kept hb).store hkg (own_lower hy HLT.out))
      clear c0 hc hown hB hu
      go_wp2_with fail
      refine HT.out.mono ?_
      rintro e w5 ⟨y, rfl, hy, hB5⟩
      obtain ⟨Ay, cy, rfl⟩ := own_slice hy
      obtain ⟨u0, e0, f0⟩ := (HW.out.kept hB5).cell k hkg
      have HS := Lib.hid (HST.out w5 _ hB5 hy)
      have HB5 := Lib.hid ((HB.out.trans (hB5.mono HB.out.size)).setCell (p := ⟨B, k, none⟩) (by rw [← HBE.out]; exact Nat.le_refl _) (.slice Ay xss[k].length cy))
      clear hy hB5 d0
      go_wp2_with fail
      go_roundw
      case rel => exact ⟨k + 1, by omega, by go_num, HS.out, HB5.out⟩
      case measure => simp [intOf]; omega
    · obtain rfl : k = n := by omega
      clear hown hB
      go_wp2_with fail
      go_ret
      refine ⟨_, rfl, ?_, HB.out⟩
      have := HW.out
      rw [HN.out] at this ⊢
      rw [← HBE.out]
      exact this.all
set_option maxRecDepth 100000 in
set_option maxHeartbeats 1600000 in
theorem toAuto_any (v : Value) (x : Au) (w : World) (hf : FewA x) (h : IsAu w v x) :
    Calls Try.prog 20 #[v] w fun e w' => ∃ y, e = .returned y ∧ IsAu w' y x ∧ Below w.heap.size w w' := by
  obtain ⟨f, n, rfl, hF, hN⟩ := h
  obtain ⟨st, go, fin, nx⟩ := x
  simp only at hF hN
  have hf1 := hf.fin
  have hf2 := hf.nx
  have hf3 := hf.row
  simp only at hf1 hf2 hf3
  obtain ⟨Af, cf, rfl⟩ := hF.shape
  obtain ⟨An, cn, rfl, hNn⟩ := hN
  have hN : IsLL w (.slice An nx.length cn) nx := ⟨An, cn, rfl, hNn⟩
  have HF := Lib.hid hF
  have HNL := Lib.hid hN
  clear hF hN hNn hf
  show Calls Try.prog _ #[.agg #[.int .i64 st, .int .i64 go, .slice Af fin.length cf, .slice An nx.length cn]] _ _
  go_enter Try.func20, Try.ntmps20
  go_upto_region 4 with fail
  obtain ⟨hP, hZ, hR, hB3, hs3⟩ := al3 w (.cells #[.int .i64 st, .int .i64 go, .slice Af fin.length cf, .slice An nx.length cn] 25) (.cells #[.int .i64 0, .int .i64 0, .slice none 0 0, .slice none 0 0] 33) (.cells #[.int .i64 st, .int .i64 go, .slice none 0 0, .slice none 0 0] 33)
  generalize ((w.alloc (.cells #[.int .i64 st, .int .i64 go, .slice Af fin.length cf, .slice An nx.length cn] 25)).alloc (.cells #[.int .i64 0, .int .i64 0, .slice none 0 0, .slice none 0 0] 33)).alloc (.cells #[.int .i64 st, .int .i64 go, .slice none 0 0, .slice none 0 0] 33) = w3 at *
  obtain ⟨⟨_, _, p2, p3⟩, _⟩ := blk4_cells hP
  have HS3 := Lib.hid hs3
  have HP := Lib.hid hP
  have HZ := Lib.hid hZ
  have HR := Lib.hid hR
  have HB3 := Lib.hid hB3
  have HF3 := Lib.hid (HF.out.kept hB3)
  clear hs3 hP hZ hR hB3
  go_wp2_with fail
  refine (toI_any _ fin _ hf1 HF3.out).mono ?_
  rintro e w4 ⟨y1, rfl, hy1, hB4⟩
  have hP := (hB4.block w.heap.size (by rw [HS3.out]; omega)).trans HP.out
  have hZ := (hB4.block (w.heap.size + 1) (by rw [HS3.out]; omega)).trans HZ.out
  have hR := (hB4.block (w.heap.size + 2) (by rw [HS3.out]; omega)).trans HR.out
  have HB4 := Lib.hid (HB3.out.trans (hB4.mono (by rw [HS3.out]; omega)))
  obtain ⟨A1, c1, rfl⟩ := own_slice hy1
  have HS4 : Hid (w.heap.size + 3 ≤ w4.heap.size) := Lib.hid (by have := hB4.size; rw [HS3.out] at this; exact this)
  obtain ⟨⟨_, _, r2, _⟩, _, _, f2, _⟩ := blk4_cells hR
  have HR5 := Lib.hid (blk4_2 (c' := .slice A1 fin.length c1) hR)
  have HP5 := Lib.hid ((Below.heap_setCell w4 ⟨w.heap.size + 2, 2, none⟩ (.slice A1 fin.length c1) w.heap.size (by simp)).trans hP)
  have HZ5 := Lib.hid ((Below.heap_setCell w4 ⟨w.heap.size + 2, 2, none⟩ (.slice A1 fin.length c1) (w.heap.size + 1) (by simp)).trans hZ)
  have HO5 := Lib.hid (own_setLow hy1 ⟨w.heap.size + 2, 2, none⟩ (.slice A1 fin.length c1) (by rw [HS3.out]; simp))
  have HB5 := Lib.hid (HB4.out.setCell (p := ⟨w.heap.size + 2, 2, none⟩) (by simp) (.slice A1 fin.length c1))
  have HS5 : Hid (w.heap.size + 3 ≤ (w4.setCell ⟨w.heap.size + 2, 2, none⟩ (.slice A1 fin.length c1)).heap.size) := Lib.hid (by have := HS4.out; simpa [World.setCell] using this)
  clear hy1 hB4 hP hZ hR p2
  go_upto_region 5 with fail
  generalize w4.setCell ⟨w.heap.size + 2, 2, none⟩ (.slice A1 fin.length c1) = w5 at *
  obtain ⟨⟨_, _, p2, p3⟩, _⟩ := blk4_cells HP5.out
  have HN5 := Lib.hid (HNL.out.kept HB5.out)
  clear r2 f2
  go_wp2_with fail
  refine (toLL_any _ nx _ hf2 hf3 HN5.out).mono ?_
  rintro e w6 ⟨y2, rfl, hy2, hB6⟩
  have hZ := (hB6.block (w.heap.size + 1) (by have := HS5.out; omega)).trans HZ5.out
  have hR := (hB6.block (w.heap.size + 2) (by have := HS5.out; omega)).trans HR5.out
  obtain ⟨A2, c2, rfl, _⟩ := hy2.isLL
  obtain ⟨⟨_, _, _, r3⟩, _, _, _, f3⟩ := blk4_cells hR
  have HR7 := Lib.hid (blk4_3 (d' := .slice A2 nx.length c2) hR)
  have HZ7 := Lib.hid ((Below.heap_setCell w6 ⟨w.heap.size + 2, 3, none⟩ (.slice A2 nx.length c2) (w.heap.size + 1) (by simp)).trans hZ)
  have HO7 := Lib.hid (own_setLow (own_below HO5.out hB6 (Nat.le_refl _)) ⟨w.heap.size + 2, 3, none⟩ (.slice A2 nx.length c2) (by rw [HS3.out]; simp))
  have HL7 := Lib.hid (hy2.far ⟨w.heap.size + 2, 3, none⟩ (.slice A2 nx.length c2) (by have := HS5.out; simp only; omega))
  have HB7 := Lib.hid ((HB5.out.trans (hB6.mono (by have := HS5.out; omega))).setCell (p := ⟨w.heap.size + 2, 3, none⟩) (by simp) (.slice A2 nx.length c2))
  clear hy2 hB6 hZ hR p2 p3
  go_upto_region 6 with fail
  generalize w6.setCell ⟨w.heap.size + 2, 3, none⟩ (.slice A2 nx.length c2) = w7 at *
  obtain ⟨⟨q0, q1, q2, q3⟩, _⟩ := blk4_cells HR7.out
  obtain ⟨⟨z0, z1, z2, z3⟩, g0, g1, g2, g3⟩ := blk4_cells HZ7.out
  have HE := Lib.hid (blk4_cells (blk4_all (a' := .int .i64 st) (b' := .int .i64 go) (c' := .slice A1 fin.length c1) (d' := .slice A2 nx.length c2) HZ7.out)).1
  clear r3 f3
  go_wp2_with fail
  obtain ⟨y0, y1, y2, y3⟩ := HE.out
  refine bodyPost_ret (v := .agg #[.int .i64 st, .int .i64 go, .slice A1 fin.length c1, .slice A2 nx.length c2]) (by simp [results, Try.results20, go_sem, y0, y1, y2, y3]) rfl ⟨_, rfl, ⟨_, _, rfl, ?_, ?_⟩, ?_⟩
  · refine IsL.of_own (own_setLow (own_setLow (own_setLow (own_setLow HO7.out _ _ ?_) _ _ ?_) _ _ ?_) _ _ ?_) <;> (rw [HS3.out]; simp)
  · refine OwnLL.isLL ((((HL7.out.far _ _ ?_).far _ _ ?_).far _ _ ?_).far _ _ ?_) <;> (have := HS5.out; simp only; omega)
  · exact (((HB7.out.setCell (by simp) _).setCell (by simp) _).setCell (by simp) _).setCell (by simp) _
end Go.Proofs.Ytaffachjopjbgaa
namespace Go.Proofs.Ytaffachjopjbgaa
open Go.RowKit
open Wd
set_option linter.unusedVariables false

set_option maxRecDepth 100000 in
set_option maxHeartbeats 800000 in
theorem eqL_any (u v : Value) (zs : List Int) (w : World) (hn : zs.length ≤ 1048576) (h1 : IsL w u zs) (h2 : IsL w v zs) :
    Calls Try.prog 35 #[u, v] w fun e w' => e = .returned (.bool true) ∧ Below w.heap.size w w' := by
  obtain ⟨A1, c1, rfl, h1⟩ := h1
  obtain ⟨A2, c2, rfl, h2⟩ := h2
  obtain ⟨n, hng⟩ : ∃ n, n = zs.length := ⟨_, rfl⟩
  rw [← hng] at hn ⊢
  have HN := Lib.hid hng
  have H1 := Lib.hid h1
  have H2 := Lib.hid h2
  clear h1 h2 hng
  go_enter Try.func35, Try.ntmps35
  go_wp2
  go_loopw [5] (fun i wr => ∃ k : Nat, k ≤ n ∧ i = .int .i64 k ∧ Below w.heap.size w wr) (fun i _ => n - (intOf i).toNat)
  case atStart => exact ⟨0, Nat.zero_le _, rfl, Below.refl _ _⟩
  case round =>
    obtain ⟨k, hk, rfl, hB⟩ := hrel
    by_cases hlt : k < n
    · have hkg : k < zs.length := by rw [← HN.out]; exact hlt
      rcases H1.out with hn | ⟨x, rfl, hc1⟩
      · rw [hn] at hkg; simp at hkg
      rcases H2.out with hn | ⟨y, rfl, hc2⟩
      · rw [hn] at hkg; simp at hkg
      have a0 := (hB.cell (lt_of_cell (hc1 k hkg))).trans (hc1 k hkg)
      have b0 := (hB.cell (lt_of_cell (hc2 k hkg))).trans (hc2 k hkg)
      generalize zs[k] = z at *
      have HB := Lib.hid hB
      clear hc1 hc2 hB hkg
      go_wp2
      go_quiet (fail)
      go_wp2
      go_roundw
      case rel => exact ⟨k + 1, by omega, by go_num, HB.out.trans (((Drawn.refl _).drewN _).below _)⟩
      case measure => simp [intOf]; omega
    · go_wp2
      go_ret
      exact ⟨rfl, hB⟩
set_option maxRecDepth 100000 in
set_option maxHeartbeats 800000 in
theorem eqLL_any (u v : Value) (xss : List (List Int)) (w : World) (hn : xss.length ≤ 1048576) (hr : ∀ r ∈ xss, r.length ≤ 1048576) (h1 : IsLL w u xss) (h2 : IsLL w v xss) :
    Calls Try.prog 52 #[u, v] w fun e w' => e = .returned (.bool true) ∧ Below w.heap.size w w' := by
  have HU := Lib.hid (fun W (hb : Below w.heap.size w W) => h1.kept hb)
  have HV := Lib.hid (fun W (hb : Below w.heap.size w W) => h2.kept hb)
  have HR := Lib.hid hr
  obtain ⟨A1, c1, rfl, h1⟩ := h1
  obtain ⟨A2, c2, rfl, h2⟩ := h2
  obtain ⟨n, hng⟩ : ∃ n, n = xss.length := ⟨_, rfl⟩
  rw [← hng] at hn HU HV ⊢
  have HN := Lib.hid hng
  have H1 := Lib.hid h1
  have H2 := Lib.hid h2
  clear h1 h2 hng hr
  go_enter Try.func52, Try.ntmps52
  go_wp2
  go_loopw [5] (fun i wr => ∃ k : Nat, k ≤ n ∧ i = .int .i64 k ∧ Below w.heap.size w wr) (fun i _ => n - (intOf i).toNat)
  case atStart => exact ⟨0, Nat.zero_le _, rfl, Below.refl _ _⟩
  case round =>
    obtain ⟨k, hk, rfl, hB⟩ := hrel
    obtain ⟨wo, rfl⟩ : ∃ wo : World, wo = wr := ⟨_, rfl⟩
    by_cases hlt : k < n
    · have hkg : k < xss.length := by rw [← HN.out]; exact hlt
      rcases H1.out with hn | ⟨x, rfl, hc1⟩
      · rw [hn] at hkg; simp at hkg
      rcases H2.out with hn | ⟨y, rfl, hc2⟩
      · rw [hn] at hkg; simp at hkg
      obtain ⟨u1, a1, i1⟩ := hc1 k hkg
      obtain ⟨u2, a2, i2⟩ := hc2 k hkg
      have a0 := (hB.cell (lt_of_cell a1)).trans a1
      have b0 := (hB.cell (lt_of_cell a2)).trans a2
      have hm := HR.out _ (List.getElem_mem hkg)
      have HQ := Lib.hid (fun W (hb : Below w.heap.size w W) => eqL_any u1 u2 xss[k] W hm (i1.kept hb) (i2.kept hb))
      have HB := Lib.hid hB
      obtain ⟨A3, c3, rfl⟩ := i1.shape
      obtain ⟨A4, c4, rfl⟩ := i2.shape
      generalize xss[k].length = m at *
      clear hc1 hc2 hB hkg a1 a2 i1 i2
      go_wp2
      go_still_tail 8, (by kernel_rfl)
      change wpList _ _ _ _ _ wo.drew
      have hB2 : Below w.heap.size w wo.drew := HB.out.drew
      generalize wo.drew = w2 at hB2 ⊢
      clear HB a0 b0
      have HB2 := Lib.hid hB2
      clear hB2
      go_wp2_with fail
      refine (HQ.out _ HB2.out).mono ?_; rintro e w' ⟨rfl, hB'⟩
      have hB3 := HB2.out.trans (hB'.mono HB2.out.size)
      clear hB'
      go_wp2
      go_roundw
      case rel => exact ⟨k + 1, by omega, by go_num, hB3⟩
      case measure => simp [intOf]; omega
    · go_wp2
      go_ret
      exact ⟨rfl, hB⟩
set_option maxRecDepth 100000 in
set_option maxHeartbeats 1600000 in
theorem eqAuto_any (u v : Value) (x : Au) (w : World) (hf : FewA x) (h1 : IsAu w u x) (h2 : IsAu w v x) :
    Calls Try.prog 23 #[u, v] w fun e w' => e = .returned (.bool true) ∧ Below w.heap.size w w' := by
  obtain ⟨f1, n1, rfl, hF1, hN1⟩ := h1
  obtain ⟨f2, n2, rfl, hF2, hN2⟩ := h2
  have hB0 : Below w.heap.size w ((w.alloc (.cells #[.int .i64 x.st, .int .i64 x.go, f1, n1] 33)).alloc (.cells #[.int .i64 x.st, .int .i64 x.go, f2, n2] 33)) := ((Below.refl _ w).alloc (Nat.le_refl _) _).alloc (by simp) _
  have b1 := (Below.refl _ (w.alloc (.cells #[.int .i64 x.st, .int .i64 x.go, f1, n1] 33))).alloc (Nat.le_refl _) (.cells #[.int .i64 x.st, .int .i64 x.go, f2, n2] 33)
  have hP := (b1.block w.heap.size (by simp)).trans (heap_alloc_new w _)
  have hQ := heap_alloc_new (w.alloc (.cells #[.int .i64 x.st, .int .i64 x.go, f1, n1] 33)) (.cells #[.int .i64 x.st, .int .i64 x.go, f2, n2] 33)
  rw [show (w.alloc (.cells #[.int .i64 x.st, .int .i64 x.go, f1, n1] 33)).heap.size = w.heap.size + 1 from by simp] at hQ
  have hs : w.heap.size + 2 ≤ ((w.alloc (.cells #[.int .i64 x.st, .int .i64 x.go, f1, n1] 33)).alloc (.cells #[.int .i64 x.st, .int .i64 x.go, f2, n2] 33)).heap.size := by simp
  obtain ⟨A1, c1, rfl⟩ := hF1.shape
  obtain ⟨A2, c2, rfl⟩ := hF2.shape
  obtain ⟨A3, c3, rfl, _⟩ := id hN1
  obtain ⟨A4, c4, rfl, _⟩ := id hN2
  have HF := Lib.hid (fun W (hb : Below w.heap.size w W) => eqL_any _ _ x.fin W hf.fin (hF1.kept hb) (hF2.kept hb))
  have HN := Lib.hid (fun W (hb : Below w.heap.size w W) => eqLL_any _ _ x.nx W hf.nx hf.row (hN1.kept hb) (hN2.kept hb))
  have HP := Lib.hid hP
  have HQ := Lib.hid hQ
  have HB := Lib.hid hB0
  have HS := Lib.hid hs
  obtain ⟨⟨p0, p1, p2, p3⟩, _⟩ := blk4_cells hP
  obtain ⟨⟨q0, q1, q2, q3⟩, _⟩ := blk4_cells hQ
  clear hF1 hF2 hN1 hN2 hP hQ hB0 b1 hs
  go_enter Try.func23, Try.ntmps23
  go_wp2_with fail
  refine (HF.out _ HB.out).mono ?_
  rintro e w1 ⟨rfl, hB1⟩
  have hP := (hB1.block w.heap.size (by have := HS.out; omega)).trans HP.out
  have hQ := (hB1.block (w.heap.size + 1) (by have := HS.out; omega)).trans HQ.out
  obtain ⟨⟨_, _, _, s3⟩, _⟩ := blk4_cells hP
  obtain ⟨⟨_, _, _, t3⟩, _⟩ := blk4_cells hQ
  have HB1 := Lib.hid (HB.out.trans (hB1.mono (by have := HS.out; omega)))
  clear hB1 hP hQ
  go_wp2_with fail
  refine (HN.out _ HB1.out).mono ?_
  rintro e w2 ⟨rfl, hB2⟩
  have HB2 := Lib.hid (HB1.out.trans (hB2.mono HB1.out.size))
  clear hB2
  go_wp2_with fail
  go_ret
  exact ⟨rfl, HB2.out⟩
end Go.Proofs.Ytaffachjopjbgaa
namespace Go.Proofs.Ytaffachjopjbgaa
open Go.ChangeShapes Go.WideShapes Go.Deep Go.Joins Go.RowKit
open Wd
set_option linter.unusedVariables false
section
variable {H : Type} {enc : TypeId × Value → H} {w : World} {base b0 : Nat} {r : Reach} {held : Bool}
theorem isL_of {A : Option Addr} {len cap : Nat} {Z : List Int} (hl : len ≤ cap) (hz : Z.length = cap) (hn : A = none → cap = 0) (h : ∀ a, A = some a → ∀ c, c < cap → w.cell? (a.add c) = some (.int .i64 (Z.getD c 0))) :
    IsL w (.slice A len cap) (Z.take len) := by
  have hlen : (Z.take len).length = len := by rw [List.length_take, hz]; omega
  refine ⟨A, cap, by rw [hlen], ?_⟩
  cases A with
  | none =>
    have := hn rfl
    exact .inl (List.eq_nil_of_length_eq_zero (by rw [hlen]; omega))
  | some a =>
    refine .inr ⟨a, rfl, fun j hj => ?_⟩
    rw [hlen] at hj
    rw [h a rfl j (by omega), List.getElem_take, List.getD_eq_getElem?_getD, List.getElem?_eq_getElem (by omega), Option.getD_some]
set_option maxRecDepth 100000 in
theorem open_auto {v : Value} {d : DataW H} {p : List MemPlace} (hv : Value.okWide Try.prog w r b0 25 v) (h : DataW.Trod enc Try.prog w base (fun _ => true) held 25 v d p) :
    ∃ x : Au, IsAu w v x ∧ MaxA x := by
  obtain ⟨cs, rfl, hsz⟩ := okWide_struct Try.underlying25 hv
  have hC : Try.prog.cellsOf 25 = 4 := by kernel_rfl
  obtain ⟨l⟩ := cs
  match l, hsz.trans hC with
  | [c0, c1, c2, c3], _ =>
    obtain ⟨fuel, hf⟩ := h
    obtain ⟨xs, n, _, hx, _, hlen, hg⟩ := DataW.trod_struct Try.underlying25 hf
    have h0 := hg 0 _ rfl
    have h1 := hg 1 _ rfl
    have h2 := hg 2 _ rfl
    have h3 := hg 3 _ rfl
    have hCi : Try.prog.cellsOf 2 = 1 := by kernel_rfl
    have hCs : Try.prog.cellsOf 22 = 1 := by kernel_rfl
    have hCm : Try.prog.cellsOf 23 = 1 := by kernel_rfl
    match xs, hlen with
    | [x0, x1, x2, x3], _ =>
      have h0 : DataW.trod enc Try.prog w base (fun _ => true) held n 2 [c0] = some x0 := by simpa [Value.cells, hCi] using h0
      have h1 : DataW.trod enc Try.prog w base (fun _ => true) held n 2 [c1] = some x1 := by simpa [Value.cells, hCi] using h1
      have h2 : DataW.trod enc Try.prog w base (fun _ => true) held n 22 [c2] = some x2 := by simpa [Value.cells, hCs] using h2
      have h3 : DataW.trod enc Try.prog w base (fun _ => true) held n 23 [c3] = some x3 := by simpa [Value.cells, hCm] using h3
      obtain ⟨st, e0, _, _⟩ := DataW.trod_int Try.underlying2 h0
      obtain ⟨go, e1, _, _⟩ := DataW.trod_int Try.underlying2 h1
      injection e0 with e0
      injection e1 with e1
      subst e0 e1
      have hfin : ∃ zs, IsL w c2 zs ∧ zs.length ≤ maxLen := by
        rcases open_ints Try.underlying22 Try.underlying2 hCi h2 with ⟨hcs, _⟩ | ⟨x, l, c, zs, hcs, _, hl, hm, hz, _, hcell, hwz⟩
        · injection hcs with hcs
          subst hcs
          exact ⟨[], ⟨none, 0, rfl, .inl rfl⟩, by simp [maxLen]⟩
        · injection hcs with hcs
          subst hcs
          have hz' : zs.length = c := by simpa using hz
          refine ⟨zs.take l, isL_of hl hz' (fun h => by cases h) (fun a ha j hj => ?_), by rw [List.length_take]; omega⟩
          injection ha with ha
          subst ha
          exact hcell j (by omega)
      have hnx : ∃ xss, IsLL w c3 xss ∧ xss.length ≤ maxLen ∧ ∀ q ∈ xss, q.length ≤ maxLen := by
        rcases open_int_rows Try.underlying23 Try.underlying22 Try.underlying2 hCs hCi h3 with ⟨hcs, _⟩ | ⟨a, len, cap, A, L, C, Z, hcs, _, hl, hm, _, hrow⟩
        · injection hcs with hcs
          subst hcs
          exact ⟨[], ⟨none, 0, rfl, .inl rfl⟩, by simp [maxLen], by simp⟩
        · injection hcs with hcs
          subst hcs
          refine ⟨(List.range len).map fun q => (Z q).take (L q), ⟨some a, cap, by simp, .inr ⟨a, rfl, fun j hj => ?_⟩⟩, by simp; omega, ?_⟩
          · have hj' : j < len := by simpa using hj
            obtain ⟨g1, g2, g3, g4, g5, g6, g7⟩ := hrow j (by omega)
            refine ⟨_, g1, ?_⟩
            simp only [List.getElem_map, List.getElem_range]
            exact isL_of g2 g4 g6 (fun a' ha c hc => (g7 a' ha).2 c hc)
          · intro q hq
            obtain ⟨j, hj, rfl⟩ := List.mem_map.1 hq
            have hj' : j < len := List.mem_range.1 hj
            obtain ⟨g1, g2, g3, g4, _⟩ := hrow j (by omega)
            rw [List.length_take]
            omega
      obtain ⟨zs, hz1, hz2⟩ := hfin
      obtain ⟨xss, hx1, hx2, hx3⟩ := hnx
      exact ⟨⟨st, go, zs, xss⟩, ⟨c2, c3, rfl, hz1, hx1⟩, ⟨hz2, hx2, hx3⟩⟩
end
end Go.Proofs.Ytaffachjopjbgaa
namespace Go.Proofs.Ytaffachjopjbgaa
open Go.RowKit
open Wd
set_option linter.unusedVariables false
namespace Wd
/-- how many numbers lie in the first rows -/
def pre (rs : List (List Int)) (j : Nat) : Nat := ((rs.take j).map List.length).sum
theorem pre_zero (rs : List (List Int)) : pre rs 0 = 0 := by simp [pre]
theorem pre_succ (rs : List (List Int)) (j : Nat) (h : j < rs.length) : pre rs (j + 1) = pre rs j + (rs[j]).length := by
  unfold pre
  rw [List.take_succ_eq_append_getElem h, List.map_append, List.sum_append]
  simp
theorem pre_le (rs : List (List Int)) (m : Nat) (hr : ∀ r ∈ rs, r.length ≤ m) : ∀ j, j ≤ rs.length → pre rs j ≤ j * m
  | 0, _ => by simp [pre_zero]
  | j + 1, h => by
    rw [pre_succ rs j (by omega), Nat.succ_mul]
    have h1 := pre_le rs m hr j (by omega)
    have h2 := hr _ (List.getElem_mem (show j < rs.length by omega))
    omega
/-- the first rows marked -/
def mkF (j : Nat) (k : Int) (rs : List (List Int)) : List (List Int) := (List.range rs.length).map fun i => if i < j then marks (k + pre rs i) (rs.getD i []).length else rs.getD i []
theorem mkF_len (j : Nat) (k : Int) (rs : List (List Int)) : (mkF j k rs).length = rs.length := by simp [mkF]
theorem mkF_get (j : Nat) (k : Int) (rs : List (List Int)) (i : Nat) (h : i < rs.length) : (mkF j k rs)[i]? = some (if i < j then marks (k + pre rs i) (rs[i]).length else rs[i]) := by
  unfold mkF
  rw [List.getElem?_map, List.getElem?_range h]
  simp [h]
theorem mkF_zero (k : Int) (rs : List (List Int)) : mkF 0 k rs = rs := by
  apply List.ext_getElem?
  intro i
  by_cases h : i < rs.length
  · rw [mkF_get 0 k rs i h, if_neg (by omega), List.getElem?_eq_getElem h]
  · rw [List.getElem?_eq_none (by rw [mkF_len]; omega), List.getElem?_eq_none (by omega)]
theorem mkF_set (j : Nat) (k : Int) (rs : List (List Int)) (h : j < rs.length) : (mkF j k rs).set j (marks (k + pre rs j) (rs[j]).length) = mkF (j + 1) k rs := by
  apply List.ext_getElem?
  intro i
  by_cases hi : i < rs.length
  · rw [mkF_get _ k rs i hi]
    by_cases e : j = i
    · subst e
      rw [List.getElem?_set_self (by rw [mkF_len]; exact h), if_pos (by omega)]
    · rw [List.getElem?_set_ne e, mkF_get _ k rs i hi]
      by_cases h1 : i < j
      · rw [if_pos h1, if_pos (by omega)]
      · rw [if_neg h1, if_neg (by omega)]
  · rw [List.getElem?_eq_none (by rw [List.length_set, mkF_len]; omega), List.getElem?_eq_none (by rw [mkF_len]; omega)]
end Wd
theorem OwnM.isLL {w : World} {lo : Nat} {v : Value} {U : List Value} {Z : List (List Int)} (h : OwnM w lo v U Z) : IsLL w v Z := by
  rcases h.shape with ⟨rfl, h0⟩ | ⟨g, c, rfl, _⟩
  · have hz : Z = [] := List.eq_nil_of_length_eq_zero (by rw [← h.len, h0]; rfl)
    subst hz
    exact ⟨none, 0, rfl, .inl rfl⟩
  · refine ⟨_, c, by rw [h.len], .inr ⟨_, rfl, fun j hj => ?_⟩⟩
    have hju : j < U.length := by rw [h.len]; exact hj
    refine ⟨U[j], ?_, IsL.of_own (h.rows.row j _ _ (List.getElem?_eq_getElem hju) (List.getElem?_eq_getElem hj))⟩
    rw [add_zero', h.outer.cellAt j (by omega), List.getElem?_eq_getElem hju]
theorem mkF_all (k : Int) (rs : List (List Int)) : mkF rs.length k rs = (List.range rs.length).map fun i => marks (k + pre rs i) (rs.getD i []).length := by
  unfold mkF
  apply List.map_congr_left
  intro i hi
  rw [if_pos (List.mem_range.1 hi)]
theorem Rws.rowAt {w : World} {lo : Nat} {U : List Value} {Z : List (List Int)} (h : Rws w lo U Z) {j : Nat} {u : Value} {zs : List Int} (hu : U[j]? = some u) (hz : Z[j]? = some zs) : OwnsI w lo u zs := h.row j u zs hu hz
/-- an automaton's value that the call owns -/
structure OwnA (w : World) (lo : Nat) (f n : Value) (U : List Value) (fin : List Int) (nx : List (List Int)) : Prop where
  fin : OwnsI w lo f fin
  nx : OwnM w lo n U nx
  ne : ∀ u ∈ U, f.ownBlock = none ∨ f.ownBlock ≠ u.ownBlock
theorem OwnA.kept {w w' : World} {lo : Nat} {f n : Value} {U : List Value} {fin : List Int} {nx : List (List Int)} (h : OwnA w lo f n U fin nx) (hb : Below w.heap.size w w') : OwnA w' lo f n U fin nx :=
  ⟨own_below h.fin hb (Nat.le_refl _), h.nx.kept hb, h.ne⟩
theorem OwnA.lower {w : World} {lo B : Nat} {f n : Value} {U : List Value} {fin : List Int} {nx : List (List Int)} (h : OwnA w lo f n U fin nx) (hb : B ≤ lo) : OwnA w B f n U fin nx :=
  ⟨own_lower h.fin hb, h.nx.lower hb, h.ne⟩
theorem OwnA.blocks {w : World} {lo : Nat} {f n : Value} {U : List Value} {fin : List Int} {nx : List (List Int)} (h : OwnA w lo f n U fin nx) : ∀ u ∈ f :: U, ∀ q, u.ownBlock = some q → lo ≤ q ∧ q < w.heap.size := by
  intro u hu q hq
  rcases List.mem_cons.1 hu with rfl | hu
  · exact h.fin.lt q hq
  · exact h.nx.rows.ge u hu q hq
theorem OwnA.only {w w' : World} {lo : Nat} {f n : Value} {U V : List Value} {fin : List Int} {nx : List (List Int)} (h : OwnA w lo f n U fin nx) (ho : OnlyIn V w w') (hV : ∀ u ∈ V, ∀ q, u.ownBlock = some q → q < lo) : OwnA w' lo f n U fin nx := by
  refine ⟨own_only h.fin ho (fun u hu => ?_), h.nx.only ho hV, h.ne⟩
  cases hq : u.ownBlock with
  | none => exact .inl rfl
  | some q =>
    refine .inr fun e => ?_
    have h1 := hV u hu q hq
    have h2 := (h.fin.lt q e.symm).1
    omega
theorem OwnA.isAu {w : World} {lo : Nat} {f n : Value} {U : List Value} {x : Au} (h : OwnA w lo f n U x.fin x.nx) : IsAu w (.agg #[.int .i64 x.st, .int .i64 x.go, f, n]) x :=
  ⟨f, n, rfl, IsL.of_own h.fin, h.nx.isLL⟩
/-- how many numbers an automaton holds -/
def auN (x : Au) : Int := x.fin.length + pre x.nx x.nx.length
end Go.Proofs.Ytaffachjopjbgaa
namespace Go.Proofs.Ytaffachjopjbgaa
open Go.RowKit
open Wd
set_option linter.unusedVariables false

theorem inB_any (n lo hi : Int) (w : World) :
    Calls Try.prog 80 #[.int .i64 n, .int .i64 lo, .int .i64 hi] w fun e w' => e = .returned (.bool (decide (lo ≤ n ∧ n ≤ hi))) ∧ w' = w := by
  by_cases h1 : lo ≤ n
  · by_cases h2 : n ≤ hi
    · rw [decide_eq_true ⟨h1, h2⟩]
      go_enter Try.func80, Try.ntmps80
      go_wp2
      go_ret
      exact ⟨rfl, rfl⟩
    · rw [decide_eq_false (fun h => h2 h.2)]
      go_enter Try.func80, Try.ntmps80
      go_wp2
      go_ret
      exact ⟨rfl, rfl⟩
  · rw [decide_eq_false (fun h => h1 h.1)]
    go_enter Try.func80, Try.ntmps80
    go_wp2
    go_ret
    exact ⟨rfl, rfl⟩
set_option maxRecDepth 100000 in
set_option maxHeartbeats 1600000 in
theorem rises_any (v : Value) (zs : List Int) (lo hi : Int) (w : World) (hn : zs.length ≤ 1048576) (h : IsL w v zs) :
    Calls Try.prog 151 #[v, .int .i64 lo, .int .i64 hi] w fun e w' => e = .returned (.bool (risesL lo hi zs)) ∧ Drawn w w' := by
  obtain ⟨A, c, rfl, hin⟩ := h
  have HI := Lib.hid hin
  obtain ⟨n, hn'⟩ : ∃ n, n = zs.length := ⟨_, rfl⟩
  rw [← hn'] at hn ⊢
  have HN := Lib.hid hn'
  clear hin hn'
  have HINA := Lib.hid (fun (x : Int) W => inB_any x lo hi W)
  go_enter Try.func151, Try.ntmps151
  go_wp2_with fail
  go_loopw [7] (fun i wr => ∃ k : Nat, k ≤ n ∧ i = .int .i64 k ∧ (∀ j, j < k → goodAt lo hi zs j) ∧ Drawn w wr) (fun i _ => n - (intOf i).toNat)
  case atStart => exact ⟨0, Nat.zero_le _, rfl, fun j hj => by omega, Drawn.refl _⟩
  case round =>
    obtain ⟨k, hk, rfl, hgood, hD⟩ := hrel
    obtain ⟨wo, rfl⟩ : ∃ wo : World, wo = wr := ⟨_, rfl⟩
    have HG := Lib.hid hgood
    have HD := Lib.hid hD
    clear hgood
    by_cases hlt : k < n
    · have hkg : k < zs.length := by rw [← HN.out]; exact hlt
      rcases HI.out with hn | ⟨x, rfl, hc⟩
      · rw [hn] at hkg; simp at hkg
      have c0 : wo.cell? (x.add k) = some (.int .i64 (zs.getD k 0)) := by
        obtain ⟨m, rfl⟩ := hD
        rw [List.getD_eq_getElem?_getD, List.getElem?_eq_getElem hkg]
        exact hc k hkg
      have c1 : 0 < k → wo.cell? (x.add (k - 1)) = some (.int .i64 (zs.getD (k - 1) 0)) := by
        intro h0
        obtain ⟨m, rfl⟩ := hD
        rw [List.getD_eq_getElem?_getD, List.getElem?_eq_getElem (by omega)]
        exact hc (k - 1) (by omega)
      have HBAD : Hid (¬ goodAt lo hi zs k → risesL lo hi zs = false) := Lib.hid (fun h => decide_eq_false (fun h' => h (h' k hkg)))
      have HNEXT : Hid (goodAt lo hi zs k → ∀ j, j < k + 1 → goodAt lo hi zs j) := Lib.hid (fun h j hj => by
        by_cases e : j = k
        · subst e; exact h
        · exact HG.out j (by omega))
      have hk0 : (0 : Int) ≤ (k : Int) := by omega
      have hk1 : (k : Int) < (n : Int) := by omega
      have c0d : wo.drew.cell? (x.add k) = some (.int .i64 (zs.getD k 0)) := c0
      clear hc hD hkg
      by_cases hb : lo ≤ zs.getD k 0 ∧ zs.getD k 0 ≤ hi
      · have HC := Lib.hid (fun W => HINA.out (zs.getD k 0) W)
        rw [decide_eq_true hb] at HC
        by_cases h0 : 0 < k
        · have d1 := c1 h0
          obtain ⟨m, hm⟩ : ∃ m, k = m + 1 := ⟨k - 1, by omega⟩
          rw [show k - 1 = m from by omega] at d1
          have d1d : wo.drew.cell? (x.add m) = some (.int .i64 (zs.getD m 0)) := d1
          have hm0 : (0 : Int) ≤ (m : Int) := by omega
          have hm1 : (m : Int) < (n : Int) := by omega
          have hsub2 : wrap64 ((k : Int) - 1) = (m : Int) := by unfold wrap64; omega
          have hsub : IntKind.i64.wrap ((k : Int) - 1) = (m : Int) := by rw [IntKind.wrap_i64]; omega
          have hgt : decide ((0 : Int) < (k : Int)) = true := decide_eq_true (by omega)
          have hgt2 : decide (0 < k) = true := decide_eq_true (by omega)
          have HB0 := Lib.hid hb
          have HM := Lib.hid hm
          clear HINA hb h0 hm c1
          generalize hz : zs.getD k 0 = z at *
          generalize hy : zs.getD m 0 = y at *
          have HZ := Lib.hid (And.intro hz hy)
          clear hz hy
          by_cases hle : z ≤ y
          · have hge : decide (z ≤ y) = true := decide_eq_true hle
            have HFIN : Hid (risesL lo hi zs = false) := Lib.hid (HBAD.out (fun h => by
              have hm := HM.out
              have := h.2 (by omega)
              rw [show k - 1 = m from by omega, HZ.out.1, HZ.out.2] at this
              omega))
            clear HBAD HNEXT HG
            go_wp2_with fail
            go_quiet ((go_at_call 80; exact Calls.quiet_of_same (HC.out _)))
            go_wp2_with fail
            go_ret
            exact ⟨by rw [HFIN.out] <;> rfl, HD.out.drewN _⟩
          · have hge : decide (z ≤ y) = false := decide_eq_false hle
            have HOKK := Lib.hid (HNEXT.out ⟨by rw [HZ.out.1]; exact HB0.out, fun _ => by rw [show k - 1 = m from by have := HM.out; omega, HZ.out.1, HZ.out.2]; omega⟩)
            clear HBAD HNEXT HG
            go_wp2_with fail
            go_quiet ((go_at_call 80; exact Calls.quiet_of_same (HC.out _)))
            go_wp2_with fail
            go_roundw
            all_goals first | exact ⟨k + 1, by omega, by go_num, HOKK.out, HD.out.drewN _⟩ | (simp [intOf]; done) | (simp [intOf]; omega) | omega
        · have HOKK := Lib.hid (HNEXT.out ⟨hb, fun h => absurd h h0⟩)
          have hgt : decide ((0 : Int) < (k : Int)) = false := decide_eq_false (by omega)
          have hgt2 : decide (0 < k) = false := decide_eq_false (by omega)
          clear HINA hb h0 c1 HBAD HNEXT HG
          generalize zs.getD k 0 = z at *
          go_wp2_with fail
          go_quiet ((go_at_call 80; exact Calls.quiet_of_same (HC.out _)))
          all_goals go_wp2_with fail
          all_goals go_roundw
          all_goals first | exact ⟨k + 1, by omega, by go_num, HOKK.out, HD.out.drewN _⟩ | (simp [intOf]; done) | (simp [intOf]; omega) | omega
      · have HC := Lib.hid (fun W => HINA.out (zs.getD k 0) W)
        rw [decide_eq_false hb] at HC
        have HFIN := Lib.hid (HBAD.out (fun h => hb h.1))
        generalize zs.getD k 0 = z at *
        clear hb HBAD HNEXT HINA c1
        go_wp2_with fail
        go_quiet ((go_at_call 80; exact Calls.quiet_of_same (HC.out _)))
        all_goals go_wp2_with fail
        all_goals go_ret
        all_goals exact ⟨by rw [HFIN.out] <;> rfl, HD.out.drewN _⟩
    · obtain rfl : k = n := by omega
      have HFIN : Hid (risesL lo hi zs = true) := Lib.hid (decide_eq_true (fun j hj => HG.out j (by rw [HN.out]; exact hj)))
      go_wp2_with fail
      go_ret
      exact ⟨by rw [HFIN.out] <;> rfl, HD.out⟩
set_option maxRecDepth 100000 in
set_option maxHeartbeats 1600000 in
theorem next_any (v : Value) (xss : List (List Int)) (n : Int) (w : World) (hn1 : 1 ≤ n) (hn2 : n ≤ 24) (hl : xss.length ≤ 1048576) (hr : ∀ r ∈ xss, r.length ≤ 1048576) (h : IsLL w v xss) :
    Calls Try.prog 152 #[.int .i64 n, v] w fun e w' => e = .returned (.bool (xss.all (rowOk n) && decide ((xss.length : Int) = n))) ∧ w' = w := by
  obtain ⟨A, c, rfl, hin⟩ := h
  have HI := Lib.hid hin
  obtain ⟨N, hN⟩ : ∃ N, N = xss.length := ⟨_, rfl⟩
  rw [← hN] at hl
  have HN := Lib.hid hN
  have HR := Lib.hid hr
  have HFIN : Hid (∀ k (hk : k < xss.length), rowOk n xss[k] = false → (xss.all (rowOk n) && decide ((xss.length : Int) = n)) = false) := Lib.hid (fun k hk h => by
    have : xss.all (rowOk n) = false := by
      rw [List.all_eq_false]
      exact ⟨xss[k], List.getElem_mem hk, by rw [h]; decide⟩
    rw [this]; rfl)
  clear hin hr
  by_cases hcnt : (N : Int) = n
  all_goals
    have HCNT := Lib.hid hcnt
    rw [← hN]
    clear hN hcnt
    go_enter Try.func152, Try.ntmps152
    go_wp2_with fail
    go_loopw [5] (fun i wr => ∃ k : Nat, k ≤ N ∧ i = .int .i64 k ∧ (∀ j (hj : j < xss.length), j < k → rowOk n xss[j] = true) ∧ wr = w) (fun i _ => N - (intOf i).toNat)
    case atStart => exact ⟨0, Nat.zero_le _, rfl, fun j hj h => by omega, rfl⟩
    case round =>
      obtain ⟨k, hk, rfl, hall, rfl⟩ := hrel
      obtain ⟨wo, rfl⟩ : ∃ wo : World, wo = wr := ⟨_, rfl⟩
      have HALL := Lib.hid hall
      clear hall
      by_cases hlt : k < N
      · have hkg : k < xss.length := by rw [← HN.out]; exact hlt
        rcases HI.out with hn | ⟨x, rfl, hc⟩
        · rw [hn] at hkg; simp at hkg
        obtain ⟨u, c0, A2, c2, rfl, hrow⟩ := hc k hkg
        have hm := HR.out _ (List.getElem_mem hkg)
        have HBAD := Lib.hid (HFIN.out k hkg)
        have HGOOD : Hid (rowOk n xss[k] = true → ∀ j (hj : j < xss.length), j < k + 1 → rowOk n xss[j] = true) := Lib.hid (fun h j hj hjk => by
          by_cases e : j = k
          · subst e; exact h
          · exact HALL.out j hj (by omega))
        generalize xss[k] = r at *
        have HROW := Lib.hid hrow
        obtain ⟨m, hm'⟩ : ∃ m, m = r.length := ⟨_, rfl⟩
        rw [← hm'] at hm c0
        have HM := Lib.hid hm'
        clear hrow hc hm'
        by_cases h4 : m = 4
        · subst h4
          have hw1 : IntKind.i64.wrap (n - 1) = n - 1 := by rw [IntKind.wrap_i64]; omega
          have HM0 := HM.out
          rcases HROW.out with he | ⟨y, rfl, hz⟩
          · rw [he] at HM0; simp at HM0
          have HZ := Lib.hid hz
          have HIN := Lib.hid (fun (z : Int) W => inB_any z 0 (n - 1) W)
          clear HM0 hz HROW
          go_wp2_with fail
          go_loopw [6] (fun i wr => ∃ q : Nat, q ≤ 4 ∧ i = .int .i64 q ∧ (∀ j (hj : j < r.length), j < q → 0 ≤ r[j] ∧ r[j] < n) ∧ wr = wo) (fun i _ => 4 - (intOf i).toNat)
          case atStart => exact ⟨0, Nat.zero_le _, rfl, fun j hj h => by omega, rfl⟩
          case round =>
            obtain ⟨q, hq, rfl, hall, rfl⟩ := hrel
            have HA := Lib.hid hall
            clear hall
            by_cases hq4 : q < 4
            · have hqr : q < r.length := by rw [← HM.out]; exact hq4
              have z0 := HZ.out q hqr
              have hq0 : (0 : Int) ≤ (q : Int) := by omega
              have hq1 : (q : Int) < 4 := by omega
              have HB2 : Hid (¬ (0 ≤ r[q] ∧ r[q] ≤ n - 1) → rowOk n r = false) := Lib.hid (fun h => by
                unfold rowOk
                have : r.all (fun x => decide (0 ≤ x ∧ x < n)) = false := by
                  rw [List.all_eq_false]
                  exact ⟨r[q], List.getElem_mem hqr, by rw [decide_eq_true_iff]; omega⟩
                rw [this, Bool.and_false])
              have HG2 : Hid ((0 ≤ r[q] ∧ r[q] ≤ n - 1) → ∀ j (hj : j < r.length), j < q + 1 → 0 ≤ r[j] ∧ r[j] < n) := Lib.hid (fun h j hj hjq => by
                by_cases e : j = q
                · subst e; omega
                · exact HA.out j hj (by omega))
              have HI2 := Lib.hid (fun W => HIN.out r[q] W)
              generalize r[q] = z at *
              by_cases hb : 0 ≤ z ∧ z ≤ n - 1
              · rw [decide_eq_true hb] at HI2
                have HNX := Lib.hid (HG2.out hb)
                clear hb HB2 HG2 HIN
                go_wp2_with fail
                refine (HI2.out _).mono ?_
                rintro e w5 ⟨rfl, rfl⟩
                go_wp2_with fail
                go_roundw
                all_goals first | exact ⟨q + 1, by omega, by go_num, HNX.out, by first | rfl | trivial⟩ | ((repeat apply Exists.intro); exact ⟨⟨q + 1, by omega, by go_num, HNX.out, by first | rfl | trivial⟩, by first | rfl | trivial⟩) | (simp [intOf]; done) | (simp [intOf]; omega) | omega
              · rw [decide_eq_false hb] at HI2
                have HF := Lib.hid (HBAD.out (HB2.out hb))
                clear hb HB2 HG2 HIN
                go_wp2_with fail
                refine (HI2.out _).mono ?_
                rintro e w5 ⟨rfl, rfl⟩
                go_wp2_with fail
                go_ret
                exact ⟨by rw [HN.out, HF.out] <;> rfl, rfl⟩
            · obtain rfl : q = 4 := by omega
              have HNX := Lib.hid (HGOOD.out (by
                unfold rowOk
                rw [← HM.out]
                have : r.all (fun x => decide (0 ≤ x ∧ x < n)) = true := by
                  rw [List.all_eq_true]
                  intro x hx
                  obtain ⟨j, hj, e⟩ := List.getElem_of_mem hx
                  rw [← e, decide_eq_true_iff]
                  exact HA.out j hj (by rw [HM.out]; exact hj)
                rw [this]; rfl))
              clear HIN
              go_wp2_with fail
              go_roundw
              all_goals first | exact ⟨k + 1, by omega, by go_num, HNX.out, by first | rfl | trivial⟩ | ((repeat apply Exists.intro); exact ⟨⟨k + 1, by omega, by go_num, HNX.out, by first | rfl | trivial⟩, by first | rfl | trivial⟩) | (simp [intOf]; done) | (simp [intOf]; omega) | omega
        · have hne : ¬ (m : Int) = 4 := by omega
          have HF := Lib.hid (HBAD.out (by unfold rowOk; rw [← HM.out, decide_eq_false h4]; rfl))
          clear HBAD HGOOD HALL
          go_wp2_with fail
          go_ret
          exact ⟨by rw [HN.out, HF.out] <;> rfl, rfl⟩
      · obtain rfl : k = N := by omega
        have HT : Hid (xss.all (rowOk n) = true) := Lib.hid (by
          rw [List.all_eq_true]
          intro r hr
          obtain ⟨j, hj, e⟩ := List.getElem_of_mem hr
          rw [← e]
          exact HALL.out j hj (by rw [HN.out]; exact hj))
        have hcnt := HCNT.out
        clear HALL
        go_wp2_with fail
        go_ret
        refine ⟨?_, rfl⟩
        rw [HT.out]
        first
          | (rw [decide_eq_true HCNT.out]; simp [hcnt]; done)
          | (rw [decide_eq_false HCNT.out]; simp [hcnt]; done)
end Go.Proofs.Ytaffachjopjbgaa
namespace Go.Proofs.Ytaffachjopjbgaa
open Go.RowKit
open Wd
set_option linter.unusedVariables false
theorem Try.info_int64 : (Try.prog.info? 2).map (fun i => (i.zero, i.size, i.bytes)) = some (some (.int .i64 0), 1, 8) := by kernel_rfl
theorem isL_cases {w : World} {v : Value} {zs : List Int} (h : IsL w v zs) :
    (∃ c, v = .slice none 0 c ∧ zs = []) ∨ ∃ a c, v = .slice (some a) zs.length c ∧ ∀ j u, (iv zs)[j]? = some u → w.cell? (a.add j) = some u := by
  obtain ⟨A, c, rfl, h⟩ := h
  cases A with
  | none =>
    rcases h with h | ⟨a, ha, _⟩
    · subst h; exact .inl ⟨c, rfl, rfl⟩
    · cases ha
  | some a =>
    refine .inr ⟨a, c, rfl, fun j u hu => ?_⟩
    rcases h with h | ⟨b, hb, hc⟩
    · subst h; simp [iv] at hu
    · injection hb with hb
      subst hb
      have hj : j < zs.length := by have := (List.getElem?_eq_some_iff.1 hu).1; rwa [iv_len] at this
      rw [iv_get zs j hj] at hu
      injection hu with hu
      subst hu
      exact hc j hj
theorem iv_cell (zs : List Int) : ∀ u ∈ iv zs, u.oneCell' = true := by
  intro u hu
  obtain ⟨x, _, rfl⟩ := List.mem_map.1 hu
  rfl
namespace Wd
/-- whether a number is in a list -/
def hasN (zs : List Int) (n : Int) : Bool := decide (n ∈ zs)
end Wd
theorem hasN_yes {zs : List Int} {n : Int} {k : Nat} (hk : k < zs.length) (h : zs[k] = n) : hasN zs n = true := decide_eq_true (h ▸ List.getElem_mem hk)
theorem hasN_no {zs : List Int} {n : Int} (h : ∀ j (hj : j < zs.length), zs[j] ≠ n) : hasN zs n = false := decide_eq_false (fun hm => by
  obtain ⟨j, hj, e⟩ := List.getElem_of_mem hm
  exact h j hj e)
end Go.Proofs.Ytaffachjopjbgaa
namespace Go.Proofs.Ytaffachjopjbgaa
open Go.RowKit
open Wd
set_option linter.unusedVariables false

set_option maxRecDepth 100000 in
set_option maxHeartbeats 3200000 in
theorem l04Ok_any (pb : Nat) (f nv : Value) (x : Au) (w : World) (hP : w.heap[pb]? = some (.cells #[.int .i64 x.st, .int .i64 x.go, f, nv] 33 (0, 0))) (hF : IsL w f x.fin) (hN : IsLL w nv x.nx) (hf : FewA x) :
    Calls Try.prog 78 #[.pointer (some ⟨pb, 0, none⟩)] w fun e w' => e = .returned (.bool (aOk x)) ∧ Drawn w w' := by
  obtain ⟨st, go, fin, nx⟩ := x
  simp only at hP hF hN
  have hf1 := hf.fin
  have hf2 := hf.nx
  have hf3 := hf.row
  simp only at hf1 hf2 hf3
  obtain ⟨⟨p0, p1, p2, p3⟩, _⟩ := blk4_cells hP
  have H1 := Lib.hid (fun W => inB_any st 1 24 W)
  have H2 := Lib.hid (fun W => inB_any go 0 (st - 1) W)
  have H3 := Lib.hid (fun n => rises_any f fin 0 (st - 1) (w.drewN n) hf1 (hF.kept (((Drawn.refl w).drewN n).below _)))
  have H4 := Lib.hid (fun n (h1 : 1 ≤ st) (h2 : st ≤ 24) => next_any nv nx st (w.drewN n) h1 h2 hf2 hf3 (hN.kept (((Drawn.refl w).drewN n).below _)))
  clear hP hF hN hf
  obtain ⟨R, hR⟩ : ∃ R, R = aOk ⟨st, go, fin, nx⟩ := ⟨_, rfl⟩
  have HR := Lib.hid hR
  rw [← hR]
  unfold aOk at hR
  simp only at hR
  by_cases h1 : 1 ≤ st ∧ st ≤ 24
  · rw [decide_eq_true h1, Bool.true_and] at hR
    rw [decide_eq_true h1] at H1
    have hw1 : IntKind.i64.wrap (st - 1) = st - 1 := by rw [IntKind.wrap_i64]; omega
    obtain ⟨h1a, h1b⟩ := h1
    by_cases h2 : 0 ≤ go ∧ go ≤ st - 1
    · rw [decide_eq_true h2, Bool.true_and] at hR
      rw [decide_eq_true h2] at H2
      cases h3 : risesL 0 (st - 1) fin
      · rw [h3, Bool.false_and] at hR
        rw [h3] at H3
        have HF := Lib.hid hR
        clear h1a h1b h2 h3 H4 hR
        go_enter Try.func78, Try.ntmps78
        go_wp2_with fail
        go_quiet ((first
          | (go_at_call_of 80 (Value.int .i64 24); exact Calls.quiet_of_same (H1.out _))
          | (go_at_call_of 80 (Value.int .i64 go); exact Calls.quiet_of_same (H2.out _))
          | (go_at_call 151; exact Calls.quiet_of (H3.out _))))
        go_wp2_with fail
        go_ret
        exact ⟨by rw [HF.out] <;> rfl, (Drawn.refl w).drewN _⟩
      · rw [h3, Bool.true_and] at hR
        rw [h3] at H3
        have H4 := Lib.hid (fun n => H4.out n h1a h1b)
        rw [← hR] at H4
        have HF := Lib.hid hR
        clear h1a h1b h2 h3 hR
        go_enter Try.func78, Try.ntmps78
        go_wp2_with fail
        go_quiet ((first
          | (go_at_call_of 80 (Value.int .i64 24); exact Calls.quiet_of_same (H1.out _))
          | (go_at_call_of 80 (Value.int .i64 go); exact Calls.quiet_of_same (H2.out _))
          | (go_at_call 151; exact Calls.quiet_of (H3.out _))
          | (go_at_call 152; exact Calls.quiet_of_same (H4.out _))))
        go_wp2_with fail
        go_ret
        exact ⟨rfl, (Drawn.refl w).drewN _⟩
    · rw [decide_eq_false h2, Bool.false_and, Bool.false_and] at hR
      rw [decide_eq_false h2] at H2
      have HF := Lib.hid hR
      clear h1a h1b h2 H3 H4 hR
      go_enter Try.func78, Try.ntmps78
      go_wp2_with fail
      go_quiet ((first
        | (go_at_call_of 80 (Value.int .i64 24); exact Calls.quiet_of_same (H1.out _))
        | (go_at_call_of 80 (Value.int .i64 go); exact Calls.quiet_of_same (H2.out _))))
      go_wp2_with fail
      go_ret
      exact ⟨by rw [HF.out] <;> rfl, (Drawn.refl w).drewN _⟩
  · rw [decide_eq_false h1, Bool.false_and, Bool.false_and, Bool.false_and] at hR
    rw [decide_eq_false h1] at H1
    have HF := Lib.hid hR
    clear h1 H2 H3 H4 hR
    go_enter Try.func78, Try.ntmps78
    go_wp2_with fail
    go_quiet ((first
      | (go_at_call_of 80 (Value.int .i64 24); exact Calls.quiet_of_same (H1.out _))))
    go_wp2_with fail
    go_ret
    exact ⟨by rw [HF.out] <;> rfl, (Drawn.refl w).drewN _⟩
theorem aOk_parts {x : Au} (h : aOk x = true) : (1 ≤ x.st ∧ x.st ≤ 24) ∧ x.nx.all (rowOk x.st) = true ∧ (x.nx.length : Int) = x.st := by
  unfold aOk at h
  simp only [Bool.and_eq_true, decide_eq_true_iff] at h
  exact ⟨h.1.1.1, h.2.1, h.2.2⟩
end Go.Proofs.Ytaffachjopjbgaa
namespace Go.Proofs.Ytaffachjopjbgaa
open Go.RowKit
open Wd
set_option linter.unusedVariables false
namespace Wd
/-- the numbers below k that are wanted -/
def finK (p : Nat → Bool) (k : Nat) : List Int := ((List.range k).filter p).map fun (s : Nat) => (s : Int)
theorem finK_zero (p : Nat → Bool) : finK p 0 = [] := rfl
theorem finK_yes {p : Nat → Bool} {k : Nat} (h : p k = true) : finK p (k + 1) = finK p k ++ [(k : Int)] := by simp [finK, List.range_succ, List.filter_append, h]
theorem finK_no {p : Nat → Bool} {k : Nat} (h : p k = false) : finK p (k + 1) = finK p k := by simp [finK, List.range_succ, List.filter_append, h]
theorem finK_len (p : Nat → Bool) (k : Nat) : (finK p k).length ≤ k := by
  unfold finK
  rw [List.length_map]
  have := List.length_filter_le p (List.range k)
  rwa [List.length_range] at this
def notP (x : Au) (s : Nat) : Bool := !hasN x.fin (s : Int)
def notA (x : Au) : Au := ⟨x.st, x.go, finK (notP x) x.st.toNat, x.nx⟩
def zeroA : Au := ⟨0, 0, [], []⟩
def autNotAuto (x : Au) : Au × Int := if aOk x = true then (notA x, 0) else (zeroA, 1)
end Wd
theorem zeroA_few : FewA zeroA := ⟨by decide, by decide, by intro r hr; simp [zeroA] at hr⟩
theorem autNotAuto_few {x : Au} (hf : FewA x) : FewA (autNotAuto x).1 := by
  unfold autNotAuto
  by_cases h : aOk x = true
  · rw [if_pos h]
    have h1 := (aOk_parts h).1
    refine ⟨?_, hf.nx, hf.row⟩
    have := finK_len (notP x) x.st.toNat
    show (finK (notP x) x.st.toNat).length ≤ 1048576
    omega
  · rw [if_neg h]; exact zeroA_few
theorem zeroA_is (w : World) : IsAu w (.agg #[.int .i64 0, .int .i64 0, .slice none 0 0, .slice none 0 0]) zeroA :=
  ⟨_, _, rfl, ⟨none, 0, rfl, .inl rfl⟩, ⟨none, 0, rfl, .inl rfl⟩⟩
/-- the zero answer is the call's own -/
theorem zeroA_own (w : World) (lo : Nat) : OwnA w lo (.slice none 0 0) (.slice none 0 0) [] zeroA.fin zeroA.nx :=
  ⟨World.ownsRow_nil _ _ _ _, ⟨World.ownsRow_nil _ _ _ _, Rws.nil _ _⟩, fun u hu => by simp at hu⟩
/-- four cells of a block -/
abbrev B4 (w : World) (b : Nat) (c0 c1 c2 c3 : Value) (t : TypeId) : Prop := w.heap[b]? = some (.cells #[c0, c1, c2, c3] t (0, 0))
theorem B4.lt {w : World} {b : Nat} {c0 c1 c2 c3 : Value} {t : TypeId} (h : B4 w b c0 c1 c2 c3 t) : b < w.heap.size := (Array.getElem?_eq_some_iff.1 h).1
theorem B4.kept {w w' : World} {b : Nat} {c0 c1 c2 c3 : Value} {t : TypeId} (h : B4 w b c0 c1 c2 c3 t) (hb : Below w.heap.size w w') : B4 w' b c0 c1 c2 c3 t := (hb.block b h.lt).trans h
theorem B4.alloc {w : World} {b : Nat} {c0 c1 c2 c3 : Value} {t : TypeId} (h : B4 w b c0 c1 c2 c3 t) (o : Obj) : B4 (w.alloc o) b c0 c1 c2 c3 t := h.kept ((Below.refl _ w).alloc (Nat.le_refl _) o)
theorem B4.far {w : World} {b : Nat} {c0 c1 c2 c3 : Value} {t : TypeId} (h : B4 w b c0 c1 c2 c3 t) (p : Addr) (u : Value) (hp : b ≠ p.block) : B4 (w.setCell p u) b c0 c1 c2 c3 t := (Below.heap_setCell w p u b hp).trans h
theorem B4.grown {w w' : World} {b : Nat} {c0 c1 c2 c3 : Value} {t : TypeId} {row : Option Nat} (h : B4 w b c0 c1 c2 c3 t) (hg : w.grownBy w' row) (hne : row ≠ some b) : B4 w' b c0 c1 c2 c3 t := (hg.block b h.lt (fun e => hne e.symm)).trans h
theorem B4.new (w : World) (c0 c1 c2 c3 : Value) (t : TypeId) : B4 (w.alloc (.cells #[c0, c1, c2, c3] t)) w.heap.size c0 c1 c2 c3 t := heap_alloc_new w _
/-- an automaton whose final states are being found: it lies in block X, its rows before B, its finals from B on -/
structure FSt (w : World) (X : Nat) (st go : Int) (nx : List (List Int)) (fin : List Int) (f n : Value) (wr : World) : Prop where
  out : B4 wr X (.int .i64 st) (.int .i64 go) f n 33
  own : ∃ (U : List Value) (B : Nat), OwnM wr w.heap.size n U nx ∧ (∀ u ∈ U, ∀ q, u.ownBlock = some q → q < B) ∧ (∀ q, n.ownBlock = some q → q < B) ∧ X < B ∧ B ≤ wr.heap.size ∧ OwnsI wr B f fin
  x : w.heap.size ≤ X
  below : Below w.heap.size w wr
theorem FSt.drewN {w wr : World} {X : Nat} {st go : Int} {nx : List (List Int)} {fin : List Int} {f n : Value} (h : FSt w X st go nx fin f n wr) (q : Nat) : FSt w X st go nx fin f n (wr.drewN q) := by
  obtain ⟨U, B, h1, h2, h3, h4, h5, h6⟩ := h.own
  exact ⟨h.out, ⟨U, B, h1.kept (below_drewN (Below.refl _ wr) q), h2, h3, h4, h5, h6⟩, h.x, below_drewN h.below q⟩
theorem grownBy_set (w : World) (p : Addr) (u : Value) : w.grownBy (w.setCell p u) (some p.block) :=
  ⟨rfl, rfl, rfl, by simp, fun i hi hne => Below.heap_setCell w p u i (fun e => hne (by rw [e]))⟩
theorem OwnM.apart {w w' : World} {lo B : Nat} {v : Value} {U : List Value} {Z : List (List Int)} {row : Option Nat} (h : OwnM w lo v U Z) (hU : ∀ u ∈ U, ∀ q, u.ownBlock = some q → q < B) (hv : ∀ q, v.ownBlock = some q → q < B) (hg : w.grownBy w' row) (hrow : ∀ q, row = some q → B ≤ q) : OwnM w' lo v U Z := by
  have key : ∀ y : Value, (∀ q, y.ownBlock = some q → q < B) → y.ownBlock = none ∨ y.ownBlock ≠ row := fun y hy => by
    cases e : y.ownBlock with
    | none => exact .inl rfl
    | some q => exact .inr fun e' => by have h1 := hy q e; have h2 := hrow q e'.symm; omega
  exact ⟨World.ownsRow.kept h.outer hg (key v hv), h.rows.len, fun j u zs h1 h2 => World.ownsRow.kept (h.rows.row j u zs h1 h2) hg (key u (hU u (List.mem_iff_getElem?.2 ⟨j, h1⟩))), h.rows.ne⟩
theorem own_b4_ne {w : World} {B e s n X : Nat} {v : Value} {xs : List Value} {c0 c1 c2 c3 : Value} {t : TypeId} (h : w.ownsRow B e s v n xs) (hx : B4 w X c0 c1 c2 c3 t) (hne : e ≠ t) : v.ownBlock = none ∨ v.ownBlock ≠ some X := by
  rcases h.2 with ⟨rfl, _⟩ | ⟨g, cap, cur, rfl, _, hg, _⟩
  · exact .inl rfl
  · refine .inr fun e => ?_
    have : g = X := by simpa [Value.ownBlock] using e
    subst this
    rw [hx] at hg
    injection hg with h1
    injection h1 with _ h2
    exact hne h2.symm
theorem OwnM.setB4 {w : World} {lo X : Nat} {v : Value} {U : List Value} {Z : List (List Int)} {c0 c1 c2 c3 : Value} (h : OwnM w lo v U Z) (hx : B4 w X c0 c1 c2 c3 33) (i : Nat) (u : Value) : OwnM (w.setCell ⟨X, i, none⟩ u) lo v U Z :=
  ⟨World.ownsRow.kept h.outer (grownBy_set w ⟨X, i, none⟩ u) (own_b4_ne h.outer hx (by decide)), h.rows.len, fun j y zs h1 h2 => World.ownsRow.kept (h.rows.row j y zs h1 h2) (grownBy_set w ⟨X, i, none⟩ u) (own_b4_ne (h.rows.row j y zs h1 h2) hx (by decide)), h.rows.ne⟩
theorem FSt.append {w wr w5 : World} {X : Nat} {st go : Int} {nx : List (List Int)} {fin : List Int} {f n f' : Value} {k : Int} {o : Obj} {U : List Value} {B : Nat} (h : FSt w X st go nx fin f n wr)
    (h' : OwnM wr w.heap.size n U nx ∧ (∀ u ∈ U, ∀ q, u.ownBlock = some q → q < B) ∧ (∀ q, n.ownBlock = some q → q < B) ∧ X < B ∧ B ≤ wr.heap.size ∧ OwnsI wr B f fin)
    (hown : w5.ownsRow B 2 1 f' (fin.length + 1) (iv fin ++ [.int .i64 k])) (hg : (wr.alloc o).grownBy w5 f.ownBlock) : FSt w X st go nx (fin ++ [k]) f' n (w5.setCell ⟨X, 2, none⟩ f') := by
  obtain ⟨h1, h2, h3, h4, h5, h6⟩ := h'
  have hrow : ∀ q, f.ownBlock = some q → B ≤ q := fun q hq => (h6.lt q hq).1
  have ho5 : B4 w5 X (.int .i64 st) (.int .i64 go) f n 33 := (h.out.alloc o).grown hg (fun e => by have := hrow X e; omega)
  have hs := hg.size
  refine ⟨blk4_2 ho5, ⟨U, B, (((h1.kept ((Below.refl _ wr).alloc (Nat.le_refl _) o)).apart h2 h3 hg hrow).setB4 ho5 2 f'), h2, h3, h4, ?_, ?_⟩, h.x, ?_⟩
  · simp at hs ⊢; omega
  · have e1 : OwnsI w5 B f' (fin ++ [k]) := by
      unfold OwnsI
      rw [List.length_append, iv_app]
      exact hown
    exact own_setLow e1 ⟨X, 2, none⟩ f' h4
  · have := h.x
    exact ((h.below.alloc h.below.size o).grown hg (by have := h.below.size; simp; omega) (fun q hq => by have := hrow q hq; omega)).setCell (by simpa using h.x) _
theorem FSt.start1 {w w7 : World} {st go : Int} {nx : List (List Int)} {y : Value} (h : ∃ U, OwnM w7 w.heap.size y U nx) (hb : Below w.heap.size w w7) : FSt w w7.heap.size st go nx [] (.slice none 0 0) y (w7.alloc (.cells #[.int .i64 st, .int .i64 go, .slice none 0 0, y] 33)) := by
  obtain ⟨U, h⟩ := h
  have h' := h.kept ((Below.refl _ w7).alloc (Nat.le_refl _) (.cells #[.int .i64 st, .int .i64 go, .slice none 0 0, y] 33))
  exact ⟨B4.new _ _ _ _ _ _, ⟨U, w7.heap.size + 1, h', fun u hu q hq => by have := (h.rows.ge u hu q hq).2; omega, fun q hq => by have := (h.outer.lt q hq).2; omega, by omega, by simp, World.ownsRow_nil _ _ _ _⟩, hb.size, hb.alloc hb.size _⟩
theorem FSt.start2 {w w7 : World} {st go : Int} {nx : List (List Int)} {y : Value} {c0 c1 c2 c3 : Value} (h : ∃ U, OwnM w7 w.heap.size y U nx) (hb : Below w.heap.size w w7) (hx : B4 w7 w.heap.size c0 c1 c2 c3 33) : FSt w w.heap.size st go nx [] (.slice none 0 0) y ((((w7.setCell ⟨w.heap.size, 0, none⟩ (.int .i64 st)).setCell ⟨w.heap.size, 1, none⟩ (.int .i64 go)).setCell ⟨w.heap.size, 2, none⟩ (.slice none 0 0)).setCell ⟨w.heap.size, 3, none⟩ y) := by
  obtain ⟨U, h⟩ := h
  have hX := hx.lt
  have b1 := blk4_01 (a' := .int .i64 st) (b' := c1) hx
  have g1 : w7.grownBy ((((w7.setCell ⟨w.heap.size, 0, none⟩ (.int .i64 st)).setCell ⟨w.heap.size, 1, none⟩ (.int .i64 go)).setCell ⟨w.heap.size, 2, none⟩ (.slice none 0 0)).setCell ⟨w.heap.size, 3, none⟩ y) (some w.heap.size) := by
    refine ⟨rfl, rfl, rfl, by simp, fun i hi hne => ?_⟩
    have hne' : i ≠ w.heap.size := fun e => hne (by rw [e])
    rw [Below.heap_setCell _ _ _ _ hne', Below.heap_setCell _ _ _ _ hne', Below.heap_setCell _ _ _ _ hne', Below.heap_setCell _ _ _ _ hne']
  have hk : OwnM ((((w7.setCell ⟨w.heap.size, 0, none⟩ (.int .i64 st)).setCell ⟨w.heap.size, 1, none⟩ (.int .i64 go)).setCell ⟨w.heap.size, 2, none⟩ (.slice none 0 0)).setCell ⟨w.heap.size, 3, none⟩ y) w.heap.size y U nx :=
    ⟨World.ownsRow.kept h.outer g1 (own_b4_ne h.outer hx (by decide)), h.rows.len, fun j y zs h1 h2 => World.ownsRow.kept (h.rows.row j y zs h1 h2) g1 (own_b4_ne (h.rows.row j y zs h1 h2) hx (by decide)), h.rows.ne⟩
  exact ⟨blk4_all hx, ⟨U, w7.heap.size, hk, fun u hu q hq => (h.rows.ge u hu q hq).2, fun q hq => (h.outer.lt q hq).2, hX, by simp, World.ownsRow_nil _ _ _ _⟩, Nat.le_refl _, (((hb.setCell (Nat.le_refl _) _).setCell (Nat.le_refl _) _).setCell (Nat.le_refl _) _).setCell (Nat.le_refl _) _⟩
end Go.Proofs.Ytaffachjopjbgaa
namespace Go.Proofs.Ytaffachjopjbgaa
open Go.RowKit
open Wd
set_option linter.unusedVariables false
structure GSt (w : World) (X : Nat) (st go : Int) (fin : List Int) (f : Value) (Z : List (List Int)) (n : Value) (wr : World) : Prop where
  out : B4 wr X (.int .i64 st) (.int .i64 go) f n 33
  own : ∃ (U : List Value) (B : Nat), OwnsI wr w.heap.size f fin ∧ (∀ q, f.ownBlock = some q → q < B) ∧ X < B ∧ B ≤ wr.heap.size ∧ OwnM wr B n U Z
  x : w.heap.size ≤ X
  below : Below w.heap.size w wr
theorem GSt.kept {w wr w1 : World} {X : Nat} {st go : Int} {fin : List Int} {f n : Value} {Z : List (List Int)} (h : GSt w X st go fin f Z n wr) (hb : Below wr.heap.size wr w1) : GSt w X st go fin f Z n w1 := by
  obtain ⟨U, B, h1, h2, h3, h4, h5⟩ := h.own
  exact ⟨h.out.kept hb, ⟨U, B, own_below h1 hb (Nat.le_refl _), h2, h3, Nat.le_trans h4 hb.size, h5.kept hb⟩, h.x, h.below.trans (hb.mono h.below.size)⟩
theorem OwnM.setLow {w : World} {lo : Nat} {v : Value} {U : List Value} {Z : List (List Int)} (h : OwnM w lo v U Z) (p : Addr) (u : Value) (hp : p.block < lo) : OwnM (w.setCell p u) lo v U Z :=
  ⟨own_setLow h.outer p u hp, h.rows.len, fun j y zs a b => own_setLow (h.rows.row j y zs a b) p u hp, h.rows.ne⟩
theorem GSt.append {w wr w5 w6 : World} {X : Nat} {st go : Int} {fin : List Int} {f n n' u : Value} {Z : List (List Int)} {z : List Int} {o : Obj} {U : List Value} {B : Nat} (h : GSt w X st go fin f Z n wr)
    (h' : OwnsI wr w.heap.size f fin ∧ (∀ q, f.ownBlock = some q → q < B) ∧ X < B ∧ B ≤ wr.heap.size ∧ OwnM wr B n U Z) (hb : Below wr.heap.size wr w5) (hu : OwnsI w5 wr.heap.size u z)
    (hown : w6.ownsRow B 22 1 n' (U.length + 1) (U ++ [u])) (hg : (w5.alloc o).grownBy w6 n.ownBlock) :
    B4 w6 X (.int .i64 st) (.int .i64 go) f n 33 ∧ GSt w X st go fin f (Z ++ [z]) n' (w6.setCell ⟨X, 3, none⟩ n') := by
  obtain ⟨h1, h2, h3, h4, h5⟩ := h'
  have hs5 := hb.size
  have hrow : ∀ q, n.ownBlock = some q → B ≤ q := fun q hq => (h5.outer.lt q hq).1
  have ho6 : B4 w6 X (.int .i64 st) (.int .i64 go) f n 33 := ((h.out.kept hb).alloc o).grown hg (fun e => by have := hrow X e; omega)
  have hm6 : OwnM w6 B n' (U ++ [u]) (Z ++ [z]) := (h5.kept hb).snoc (own_lower hu h4) (h5.fresh (Nat.le_refl _) hu) hown hg
  have hf6 : OwnsI w6 w.heap.size f fin := World.ownsRow.kept ((own_below h1 hb (Nat.le_refl _)).alloc o) hg (by
    cases e : f.ownBlock with
    | none => exact .inl rfl
    | some q => exact .inr fun e' => by have a := h2 q e; have b := hrow q e'.symm; omega)
  have hs := hg.size
  refine ⟨ho6, blk4_3 ho6, ⟨U ++ [u], B, World.ownsRow.kept hf6 (grownBy_set w6 ⟨X, 3, none⟩ n') (own_b4_ne hf6 ho6 (by decide)), h2, h3, ?_, hm6.setLow _ _ h3⟩, h.x, ?_⟩
  · simp at hs ⊢; omega
  · have hx := h.x
    have hbs := h.below.size
    exact ((((h.below.trans (hb.mono hbs)).alloc (by omega) o).grown hg (by simp; omega) (fun q hq => by have := hrow q hq; omega)).setCell (by simpa using hx) _)
theorem GSt.start {w w7 : World} {X : Nat} {st go : Int} {fin : List Int} {f : Value} {c : Value} {B0 : Nat} (hX : B4 w7 X (.int .i64 st) (.int .i64 go) c (.slice none 0 0) 33) (hx : w.heap.size ≤ X) (hb : Below w.heap.size w w7) (hf : OwnsI w7 B0 f fin) (hB : w.heap.size ≤ B0) :
    GSt w X st go fin f [] (.slice none 0 0) (w7.setCell ⟨X, 2, none⟩ f) :=
  ⟨blk4_2 hX, ⟨[], w7.heap.size, own_lower (World.ownsRow.kept hf (grownBy_set w7 ⟨X, 2, none⟩ f) (own_b4_ne hf hX (by decide))) hB, fun q hq => (hf.lt q hq).2, hX.lt, by simp, ⟨World.ownsRow_nil _ _ _ _, Rws.nil _ _⟩⟩, hx, hb.setCell (by simpa using hx) _⟩
theorem GSt.ownA {w wr : World} {X : Nat} {st go : Int} {fin : List Int} {f n : Value} {Z : List (List Int)} {c0 c1 c2 c3 : Value} {R : Nat} (h : GSt w X st go fin f Z n wr) (hR : B4 wr R c0 c1 c2 c3 33) (d0 d1 d2 d3 : Value) :
    ∃ U, OwnA ((((wr.setCell ⟨R, 0, none⟩ d0).setCell ⟨R, 1, none⟩ d1).setCell ⟨R, 2, none⟩ d2).setCell ⟨R, 3, none⟩ d3) w.heap.size f n U fin Z := by
  obtain ⟨U, B, h1, h2, h3, h4, h5⟩ := h.own
  have gk : wr.grownBy ((((wr.setCell ⟨R, 0, none⟩ d0).setCell ⟨R, 1, none⟩ d1).setCell ⟨R, 2, none⟩ d2).setCell ⟨R, 3, none⟩ d3) (some R) := by
    refine ⟨rfl, rfl, rfl, by simp, fun i hi hne => ?_⟩
    have hne' : i ≠ R := fun e => hne (by rw [e])
    rw [Below.heap_setCell _ _ _ _ hne', Below.heap_setCell _ _ _ _ hne', Below.heap_setCell _ _ _ _ hne', Below.heap_setCell _ _ _ _ hne']
  have hB : w.heap.size ≤ B := by have := h.x; omega
  have hm : OwnM _ B n U Z := ⟨World.ownsRow.kept h5.outer gk (own_b4_ne h5.outer hR (by decide)), h5.rows.len, fun j y zs a b => World.ownsRow.kept (h5.rows.row j y zs a b) gk (own_b4_ne (h5.rows.row j y zs a b) hR (by decide)), h5.rows.ne⟩
  refine ⟨U, World.ownsRow.kept h1 gk (own_b4_ne h1 hR (by decide)), hm.lower hB, fun u hu => ?_⟩
  cases e : f.ownBlock with
  | none => exact .inl rfl
  | some q => exact .inr fun e' => by have a := h2 q e; have b := (h5.rows.ge u hu q e'.symm).1; omega
end Go.Proofs.Ytaffachjopjbgaa
namespace Go.Proofs.Ytaffachjopjbgaa
open Go.RowKit
open Wd
set_option linter.unusedVariables false
theorem Rws.setLow {w : World} {lo : Nat} {U : List Value} {Z : List (List Int)} (h : Rws w lo U Z) (p : Addr) (u : Value) (hp : p.block < lo) : Rws (w.setCell p u) lo U Z :=
  ⟨h.len, fun j y zs a b => own_setLow (h.row j y zs a b) p u hp, h.ne⟩
theorem take_set_snoc (vs : List Value) (k : Nat) (u : Value) (h : k < vs.length) : (vs.set k u).take (k + 1) = vs.take k ++ [u] := by
  rw [List.take_succ_eq_append_getElem (by simpa using h), List.take_set_of_le (Nat.le_refl _)]
  simp
/-- rows of the call's own, at most so many yet, in a row that was made as long as it will be -/
def LLW (xss : List (List Int)) (B k : Nat) (wr : World) : Prop :=
  ∃ vs : List Value, vs.length = xss.length ∧ wr.ownsRow B 22 1 (.slice (some ⟨B, 0, none⟩) xss.length xss.length) xss.length vs ∧ Rws wr (B + 1) (vs.take k) (xss.take k)
theorem LLW.cell {xss : List (List Int)} {wr : World} {B k : Nat} (h : LLW xss B k wr) (j : Nat) (hj : j < xss.length) : ∃ u, wr.cell? ⟨B, j, none⟩ = some u ∧ wr.frozen? ⟨B, j, none⟩ = false := by
  obtain ⟨vs, h1, h2, h3⟩ := h
  exact ⟨_, (h2.cellAt j (by omega)).trans (List.getElem?_eq_getElem (by omega)), h2.frozenAt j⟩
theorem LLW.kept {xss : List (List Int)} {wr w1 : World} {B k : Nat} (h : LLW xss B k wr) (hb : Below wr.heap.size wr w1) : LLW xss B k w1 := by
  obtain ⟨vs, h1, h2, h3⟩ := h
  exact ⟨vs, h1, own_below h2 hb (Nat.le_refl _), h3.kept hb⟩
theorem LLW.store {xss : List (List Int)} {wr w1 : World} {B k : Nat} {u : Value} (h : LLW xss B k wr) (hk : k < xss.length) (hb : Below wr.heap.size wr w1) (hu : OwnsI w1 wr.heap.size u xss[k]) : LLW xss B (k + 1) (w1.setCell ⟨B, k, none⟩ u) := by
  obtain ⟨vs, h1, h2, h3⟩ := h
  have h2' := own_below h2 hb (Nat.le_refl _)
  have hlt := (h2.lt B rfl).2
  refine ⟨vs.set k u, by simpa using h1, (h2'.stored k u).1, ?_⟩
  rw [take_set_snoc vs k u (by omega), List.take_succ_eq_append_getElem hk]
  refine Rws.snoc ((h3.kept hb).setLow ⟨B, k, none⟩ u (by simp)) (own_setLow (own_lower hu (by omega)) _ _ (by simp)) (fun y hy => ?_)
  cases e : y.ownBlock with
  | none => exact .inl rfl
  | some q => exact .inr fun e' => by have a := (h3.ge y hy q e).2; have b := (hu.lt q e'.symm).1; omega
theorem LLW.all {xss : List (List Int)} {wr : World} {B : Nat} (h : LLW xss B xss.length wr) : ∃ U, OwnM wr B (.slice (some ⟨B, 0, none⟩) xss.length xss.length) U xss := by
  obtain ⟨vs, h1, h2, h3⟩ := h
  rw [List.take_of_length_le (by omega), List.take_of_length_le (Nat.le_refl _)] at h3
  exact ⟨vs, by rw [h1]; exact h2, h3.lower (by omega)⟩
set_option maxRecDepth 100000 in
set_option maxHeartbeats 1600000 in
theorem toLLW_any (v : Value) (xss : List (List Int)) (w : World) (hn : xss.length ≤ 1048576) (hr : ∀ r ∈ xss, r.length ≤ 1048576) (h : IsLL w v xss) :
    Calls Try.prog 84 #[v] w fun e w' => ∃ y, e = .returned y ∧ (∃ U, OwnM w' w.heap.size y U xss) ∧ Below w.heap.size w w' := by
  obtain ⟨i0, hi, hz0, hz1, hz2⟩ := info_parts Try.info_ints
  obtain ⟨A, c, rfl, hin⟩ := h
  have HI := Lib.hid hin
  obtain ⟨n, hn'⟩ : ∃ n, n = xss.length := ⟨_, rfl⟩
  rw [← hn'] at hn ⊢
  have HN := Lib.hid hn'
  have HR := Lib.hid hr
  clear hin hn' hr
  go_enter Try.func84, Try.ntmps84
  go_wp2_with (refine wpList_make_full _ rfl _ _ 23 rfl w.heap.size 22 i0 (.slice none 0 0) 1 Try.underlying23 hi hz0 hz1 .i64 .i64 _ _ n rfl rfl rfl rfl (by rw [hz2]; omega) (by unfold maxLen; omega) (Nat.le_refl _) ?_)
  intro w1 hown hg
  have hB1 := below_of_grown hg
  obtain ⟨B, hBe⟩ : ∃ B, B = w.heap.size := ⟨_, rfl⟩
  rw [← hBe] at hown ⊢
  have HST : Hid (LLW xss B 0 w1) := Lib.hid ⟨List.replicate n (.slice none 0 0), by simp [HN.out], by
    have h := hown
    rw [made_nil] at h
    rw [← HN.out]; exact h, by rw [List.take_zero, List.take_zero]; exact Rws.nil _ _⟩
  have HBE := Lib.hid hBe
  clear hg hBe hown
  go_wp2_with fail
  go_loopw [4] (fun i wr => ∃ k : Nat, k ≤ n ∧ i = .int .i64 k ∧ LLW xss B k wr ∧ Below w.heap.size w wr) (fun i _ => n - (intOf i).toNat)
  case atStart => exact ⟨0, Nat.zero_le _, rfl, HST.out, hB1⟩
  case round =>
    obtain ⟨k, hk, rfl, hown, hB⟩ := hrel
    obtain ⟨wo, rfl⟩ : ∃ wo : World, wo = wr := ⟨_, rfl⟩
    have HW := Lib.hid hown
    have HB := Lib.hid hB
    by_cases hlt : k < n
    · have hkg : k < xss.length := by rw [← HN.out]; exact hlt
      rcases HI.out with hn | ⟨x, rfl, hc⟩
      · rw [hn] at hkg; simp at hkg
      obtain ⟨u, c0, hu⟩ := hc k hkg
      have d0 := (hB.cell (lt_of_cell c0)).trans c0
      have HT := Lib.hid (toI_any u xss[k] wo (HR.out _ (List.getElem_mem hkg)) (by
        obtain ⟨A', c', hv', h'⟩ := hu
        refine ⟨A', c', hv', h'.imp id ?_⟩
        rintro ⟨a, ha, hcc⟩
        exact ⟨a, ha, fun j hj => (hB.cell (lt_of_cell (hcc j hj))).trans (hcc j hj)⟩))
      have HST := Lib.hid (fun (w' : World) (y : Value) (hb : Below wo.heap.size wo w') (hy : OwnsI w' wo.heap.size y xss[k]) => hown.store hkg hb hy)
      clear c0 hc hown hB hu
      go_wp2_with fail
      refine HT.out.mono ?_
      rintro e w5 ⟨y, rfl, hy, hB5⟩
      obtain ⟨Ay, cy, rfl⟩ := own_slice hy
      obtain ⟨u0, e0, f0⟩ := (HW.out.kept hB5).cell k hkg
      have HS := Lib.hid (HST.out w5 _ hB5 hy)
      have HB5 := Lib.hid ((HB.out.trans (hB5.mono HB.out.size)).setCell (p := ⟨B, k, none⟩) (by rw [← HBE.out]; exact Nat.le_refl _) (.slice Ay xss[k].length cy))
      clear hy hB5 d0
      go_wp2_with fail
      go_roundw
      case rel => exact ⟨k + 1, by omega, by go_num, HS.out, HB5.out⟩
      case measure => simp [intOf]; omega
    · obtain rfl : k = n := by omega
      clear hown hB
      go_wp2_with fail
      go_ret
      refine ⟨_, rfl, ?_, HB.out⟩
      have := HW.out
      rw [HN.out] at this ⊢
      rw [← HBE.out]
      exact this.all
set_option maxRecDepth 100000 in
set_option maxHeartbeats 1600000 in
theorem toAutoO_any (v : Value) (x : Au) (w : World) (hf : FewA x) (h : IsAu w v x) :
    Calls Try.prog 20 #[v] w fun e w' => ∃ f n U, e = .returned (.agg #[.int .i64 x.st, .int .i64 x.go, f, n]) ∧ OwnA w' w.heap.size f n U x.fin x.nx ∧ Below w.heap.size w w' := by
  obtain ⟨f, n, rfl, hF, hN⟩ := h
  obtain ⟨st, go, fin, nx⟩ := x
  simp only at hF hN
  have hf1 := hf.fin
  have hf2 := hf.nx
  have hf3 := hf.row
  simp only at hf1 hf2 hf3
  obtain ⟨Af, cf, rfl⟩ := hF.shape
  obtain ⟨An, cn, rfl, hNn⟩ := hN
  have hN : IsLL w (.slice An nx.length cn) nx := ⟨An, cn, rfl, hNn⟩
  have HF := Lib.hid hF
  have HNL := Lib.hid hN
  clear hF hN hNn hf
  show Calls Try.prog _ #[.agg #[.int .i64 st, .int .i64 go, .slice Af fin.length cf, .slice An nx.length cn]] _ _
  go_enter Try.func20, Try.ntmps20
  go_upto_region 4 with fail
  obtain ⟨hP, hZ, hR, hB3, hs3⟩ := al3 w (.cells #[.int .i64 st, .int .i64 go, .slice Af fin.length cf, .slice An nx.length cn] 25) (.cells #[.int .i64 0, .int .i64 0, .slice none 0 0, .slice none 0 0] 33) (.cells #[.int .i64 st, .int .i64 go, .slice none 0 0, .slice none 0 0] 33)
  generalize ((w.alloc (.cells #[.int .i64 st, .int .i64 go, .slice Af fin.length cf, .slice An nx.length cn] 25)).alloc (.cells #[.int .i64 0, .int .i64 0, .slice none 0 0, .slice none 0 0] 33)).alloc (.cells #[.int .i64 st, .int .i64 go, .slice none 0 0, .slice none 0 0] 33) = w3 at *
  obtain ⟨⟨_, _, p2, p3⟩, _⟩ := blk4_cells hP
  have HS3 := Lib.hid hs3
  have HP := Lib.hid hP
  have HZ := Lib.hid hZ
  have HR := Lib.hid hR
  have HB3 := Lib.hid hB3
  have HF3 := Lib.hid (HF.out.kept hB3)
  clear hs3 hP hZ hR hB3
  go_wp2_with fail
  refine (toI_any _ fin _ hf1 HF3.out).mono ?_
  rintro e w4 ⟨y1, rfl, hy1, hB4⟩
  have hP := (hB4.block w.heap.size (by rw [HS3.out]; omega)).trans HP.out
  have hZ := (hB4.block (w.heap.size + 1) (by rw [HS3.out]; omega)).trans HZ.out
  have hR := (hB4.block (w.heap.size + 2) (by rw [HS3.out]; omega)).trans HR.out
  have HB4 := Lib.hid (HB3.out.trans (hB4.mono (by rw [HS3.out]; omega)))
  obtain ⟨A1, c1, rfl⟩ := own_slice hy1
  have HS4 : Hid (w.heap.size + 3 ≤ w4.heap.size) := Lib.hid (by have := hB4.size; rw [HS3.out] at this; exact this)
  obtain ⟨⟨_, _, r2, _⟩, _, _, f2, _⟩ := blk4_cells hR
  have HR5 := Lib.hid (blk4_2 (c' := .slice A1 fin.length c1) hR)
  have HP5 := Lib.hid ((Below.heap_setCell w4 ⟨w.heap.size + 2, 2, none⟩ (.slice A1 fin.length c1) w.heap.size (by simp)).trans hP)
  have HZ5 := Lib.hid ((Below.heap_setCell w4 ⟨w.heap.size + 2, 2, none⟩ (.slice A1 fin.length c1) (w.heap.size + 1) (by simp)).trans hZ)
  have HO5 := Lib.hid (own_setLow hy1 ⟨w.heap.size + 2, 2, none⟩ (.slice A1 fin.length c1) (by rw [HS3.out]; simp))
  have HB5 := Lib.hid (HB4.out.setCell (p := ⟨w.heap.size + 2, 2, none⟩) (by simp) (.slice A1 fin.length c1))
  have HS5 : Hid (w.heap.size + 3 ≤ (w4.setCell ⟨w.heap.size + 2, 2, none⟩ (.slice A1 fin.length c1)).heap.size) := Lib.hid (by have := HS4.out; simpa [World.setCell] using this)
  clear hy1 hB4 hP hZ hR p2
  go_upto_region 5 with fail
  generalize w4.setCell ⟨w.heap.size + 2, 2, none⟩ (.slice A1 fin.length c1) = w5 at *
  obtain ⟨⟨_, _, p2, p3⟩, _⟩ := blk4_cells HP5.out
  have HN5 := Lib.hid (HNL.out.kept HB5.out)
  clear r2 f2
  go_wp2_with fail
  have hlo5 : Hid (∀ q, (Value.slice A1 fin.length c1).ownBlock = some q → q < w5.heap.size) := Lib.hid (fun q hq => (HO5.out.lt q hq).2)
  refine (toLLW_any _ nx _ hf2 hf3 HN5.out).mono ?_
  rintro e w6 ⟨y2, rfl, hy2, hB6⟩
  have hZ := (hB6.block (w.heap.size + 1) (by have := HS5.out; omega)).trans HZ5.out
  have hR := (hB6.block (w.heap.size + 2) (by have := HS5.out; omega)).trans HR5.out
  obtain ⟨U, hy2⟩ := hy2
  obtain ⟨A2, c2, hy2e⟩ := own_slice hy2.outer
  rw [hy2.len] at hy2e
  subst hy2e
  obtain ⟨⟨_, _, _, r3⟩, _, _, _, f3⟩ := blk4_cells hR
  have HR7 := Lib.hid (blk4_3 (d' := .slice A2 nx.length c2) hR)
  have HZ7 := Lib.hid ((Below.heap_setCell w6 ⟨w.heap.size + 2, 3, none⟩ (.slice A2 nx.length c2) (w.heap.size + 1) (by simp)).trans hZ)
  have HO7 := Lib.hid (own_setLow (own_below HO5.out hB6 (Nat.le_refl _)) ⟨w.heap.size + 2, 3, none⟩ (.slice A2 nx.length c2) (by rw [HS3.out]; simp))
  have HL7 := Lib.hid (hy2.setLow ⟨w.heap.size + 2, 3, none⟩ (.slice A2 nx.length c2) (by have := HS5.out; simp only; omega))
  have HNE := Lib.hid (fun u (hu : u ∈ U) => (by
    cases e : (Value.slice A1 fin.length c1).ownBlock with
    | none => exact .inl rfl
    | some q => exact .inr fun e' => by have a := hlo5.out q e; have b := (hy2.rows.ge u hu q e'.symm).1; omega : (Value.slice A1 fin.length c1).ownBlock = none ∨ (Value.slice A1 fin.length c1).ownBlock ≠ u.ownBlock))
  have HB7 := Lib.hid ((HB5.out.trans (hB6.mono (by have := HS5.out; omega))).setCell (p := ⟨w.heap.size + 2, 3, none⟩) (by simp) (.slice A2 nx.length c2))
  clear hy2 hB6 hZ hR p2 p3
  go_upto_region 6 with fail
  generalize w6.setCell ⟨w.heap.size + 2, 3, none⟩ (.slice A2 nx.length c2) = w7 at *
  obtain ⟨⟨q0, q1, q2, q3⟩, _⟩ := blk4_cells HR7.out
  obtain ⟨⟨z0, z1, z2, z3⟩, g0, g1, g2, g3⟩ := blk4_cells HZ7.out
  have HE := Lib.hid (blk4_cells (blk4_all (a' := .int .i64 st) (b' := .int .i64 go) (c' := .slice A1 fin.length c1) (d' := .slice A2 nx.length c2) HZ7.out)).1
  clear r3 f3
  go_wp2_with fail
  obtain ⟨y0, y1, y2, y3⟩ := HE.out
  refine bodyPost_ret (v := .agg #[.int .i64 st, .int .i64 go, .slice A1 fin.length c1, .slice A2 nx.length c2]) (by simp [results, Try.results20, go_sem, y0, y1, y2, y3]) rfl ⟨_, _, U, rfl, ⟨?_, ?_, HNE.out⟩, ?_⟩
  · refine own_lower (own_setLow (own_setLow (own_setLow (own_setLow HO7.out _ _ ?_) _ _ ?_) _ _ ?_) _ _ ?_) (by rw [HS3.out]; omega) <;> (rw [HS3.out]; simp)
  · refine OwnM.lower ((((HL7.out.setLow _ _ ?_).setLow _ _ ?_).setLow _ _ ?_).setLow _ _ ?_) (by have := HS5.out; omega) <;> (have := HS5.out; simp only; omega)
  · exact (((HB7.out.setCell (by simp) _).setCell (by simp) _).setCell (by simp) _).setCell (by simp) _
end Go.Proofs.Ytaffachjopjbgaa
namespace Go.Proofs.Ytaffachjopjbgaa
open Go.RowKit
open Wd
set_option linter.unusedVariables false

theorem isOf_any (s n : Int) (w : World) :
    Calls Try.prog 87 #[.int .i64 s, .int .i64 n] w fun e w' => e = .returned (.bool (decide (0 ≤ s ∧ s < n))) ∧ w' = w := by
  by_cases h1 : 0 ≤ s
  · by_cases h2 : s < n
    · rw [decide_eq_true ⟨h1, h2⟩]
      go_enter Try.func87, Try.ntmps87
      go_wp2
      go_ret
      exact ⟨rfl, rfl⟩
    · rw [decide_eq_false (fun h => h2 h.2)]
      go_enter Try.func87, Try.ntmps87
      go_wp2
      go_ret
      exact ⟨rfl, rfl⟩
  · rw [decide_eq_false (fun h => h1 h.1)]
    go_enter Try.func87, Try.ntmps87
    go_wp2
    go_ret
    exact ⟨rfl, rfl⟩
theorem wrong_any (s n : Int) (pb : Nat) (w : World) (hp : w.cell? ⟨pb, 0, none⟩ = some (.int .i64 n)) :
    Calls Try.prog 205 #[.int .i64 s, .pointer (some ⟨pb, 0, none⟩)] w fun e w' => e = .returned (.bool (!decide (0 ≤ s ∧ s < n))) ∧ w' = w := by
  have H := Lib.hid (fun W => isOf_any s n W)
  by_cases h : 0 ≤ s ∧ s < n
  · rw [decide_eq_true h] at H ⊢
    clear h
    go_enter Try.func205, Try.ntmps205
    go_wp2_with fail
    refine (H.out _).mono ?_
    rintro e w5 ⟨rfl, rfl⟩
    go_wp2_with fail
    go_ret
    exact ⟨rfl, rfl⟩
  · rw [decide_eq_false h] at H ⊢
    clear h
    go_enter Try.func205, Try.ntmps205
    go_wp2_with fail
    refine (H.out _).mono ?_
    rintro e w5 ⟨rfl, rfl⟩
    go_wp2_with fail
    go_ret
    exact ⟨rfl, rfl⟩
/-- whether all numbers are states -/
def allIn (n : Int) (zs : List Int) : Bool := zs.all fun x => decide (0 ≤ x ∧ x < n)
set_option maxRecDepth 100000 in
set_option maxHeartbeats 1600000 in
theorem indexF_any (v : Value) (zs : List Int) (n : Int) (pb : Nat) (w : World) (hl : zs.length ≤ 1048576) (hp : w.cell? ⟨pb, 0, none⟩ = some (.int .i64 n)) (h : IsL w v zs) :
    Calls Try.prog 224 #[v, .func (.func 205) #[] #[.pointer (some ⟨pb, 0, none⟩)]] w fun e w' => ∃ y, e = .returned (.int .i64 y) ∧ w' = w ∧ ((allIn n zs = true ∧ y = -1) ∨ (allIn n zs = false ∧ 0 ≤ y)) := by
  obtain ⟨A, c, rfl, hin⟩ := h
  have HI := Lib.hid hin
  obtain ⟨N, hN⟩ : ∃ N, N = zs.length := ⟨_, rfl⟩
  rw [← hN] at hl ⊢
  have HN := Lib.hid hN
  have HC := Lib.hid (fun s => wrong_any s n pb w hp)
  clear hin hN hp
  go_enter Try.func224, Try.ntmps224
  go_wp2_with fail
  go_loopw [8] (fun i wr => ∃ k : Nat, k ≤ N ∧ i = .int .i64 k ∧ (∀ j (hj : j < zs.length), j < k → 0 ≤ zs[j] ∧ zs[j] < n) ∧ wr = w) (fun i _ => N - (intOf i).toNat)
  case atStart => exact ⟨0, Nat.zero_le _, rfl, fun j hj h => by omega, rfl⟩
  case round =>
    obtain ⟨k, hk, rfl, hall, rfl⟩ := hrel
    have HA := Lib.hid hall
    clear hall
    by_cases hlt : k < N
    · have hkg : k < zs.length := by rw [← HN.out]; exact hlt
      rcases HI.out with hn | ⟨x, rfl, hc⟩
      · rw [hn] at hkg; simp at hkg
      have c0 := hc k hkg
      have HBAD : Hid (¬ (0 ≤ zs[k] ∧ zs[k] < n) → allIn n zs = false) := Lib.hid (fun h => by
        unfold allIn
        rw [List.all_eq_false]
        exact ⟨zs[k], List.getElem_mem hkg, by rw [decide_eq_true_iff]; exact h⟩)
      have HG2 : Hid ((0 ≤ zs[k] ∧ zs[k] < n) → ∀ j (hj : j < zs.length), j < k + 1 → 0 ≤ zs[j] ∧ zs[j] < n) := Lib.hid (fun h j hj hjq => by
        by_cases e : j = k
        · subst e; exact h
        · exact HA.out j hj (by omega))
      have HW := Lib.hid (HC.out zs[k])
      generalize zs[k] = z at *
      clear hc hkg
      by_cases hb : 0 ≤ z ∧ z < n
      · rw [decide_eq_true hb] at HW
        have HNX := Lib.hid (HG2.out hb)
        clear hb HBAD HG2 HC
        go_wp2_with fail
        refine HW.out.mono ?_
        rintro e w5 ⟨rfl, rfl⟩
        go_wp2_with fail
        go_roundw
        all_goals first | exact ⟨k + 1, by omega, by go_num, HNX.out, by first | rfl | trivial⟩ | ((repeat apply Exists.intro); exact ⟨⟨k + 1, by omega, by go_num, HNX.out, by first | rfl | trivial⟩, by first | rfl | trivial⟩) | (simp [intOf]; done) | (simp [intOf]; omega) | omega
      · rw [decide_eq_false hb] at HW
        have HF := Lib.hid (HBAD.out hb)
        clear hb HBAD HG2 HC
        go_wp2_with fail
        refine HW.out.mono ?_
        rintro e w5 ⟨rfl, rfl⟩
        go_wp2_with fail
        go_ret
        exact ⟨_, rfl, rfl, .inr ⟨HF.out, by omega⟩⟩
    · obtain rfl : k = N := by omega
      have HT : Hid (allIn n zs = true) := Lib.hid (by
        unfold allIn
        rw [List.all_eq_true]
        intro r hr
        obtain ⟨j, hj, e⟩ := List.getElem_of_mem hr
        rw [← e, decide_eq_true_iff]
        exact HA.out j hj (by rw [HN.out]; exact hj))
      clear HC
      go_wp2_with fail
      go_ret
      exact ⟨_, rfl, rfl, .inl ⟨HT.out, rfl⟩⟩
theorem containsF_any (v : Value) (zs : List Int) (n : Int) (pb : Nat) (w : World) (hl : zs.length ≤ 1048576) (hp : w.cell? ⟨pb, 0, none⟩ = some (.int .i64 n)) (h : IsL w v zs) :
    Calls Try.prog 206 #[v, .func (.func 205) #[] #[.pointer (some ⟨pb, 0, none⟩)]] w fun e w' => e = .returned (.bool (!allIn n zs)) ∧ w' = w := by
  have HX := Lib.hid (indexF_any v zs n pb w hl hp h)
  obtain ⟨A, c, rfl, _⟩ := h
  clear hp
  go_enter Try.func206, Try.ntmps206
  go_wp2_with fail
  refine HX.out.mono ?_
  rintro e w5 ⟨y, rfl, rfl, ⟨ha, rfl⟩ | ⟨ha, hy⟩⟩
  · have HA := Lib.hid ha
    clear ha
    go_wp2_with fail
    go_ret
    exact ⟨by rw [HA.out] <;> rfl, rfl⟩
  · have HA := Lib.hid ha
    have hd : decide (0 ≤ y) = true := decide_eq_true hy
    clear ha
    go_wp2_with fail
    go_ret
    exact ⟨by rw [HA.out] <;> first | rfl | (simp; done) | simp [hd], rfl⟩
def stepsOk (st go : Int) (xss : List (List Int)) : Bool := decide (1 ≤ st ∧ st ≤ 24) && decide (0 ≤ go ∧ go < st) && (decide ((xss.length : Int) = st) && xss.all (rowOk st))
set_option maxRecDepth 100000 in
set_option maxHeartbeats 3200000 in
theorem steps_ok (st go : Int) (v : Value) (xss : List (List Int)) (w : World) (hl : xss.length ≤ 1048576) (hr : ∀ r ∈ xss, r.length ≤ 1048576) (h : IsLL w v xss)
    (h1 : 1 ≤ st) (h2 : st ≤ 24) (h3 : 0 ≤ go ∧ go < st) (h4 : (xss.length : Int) = st) :
    Calls Try.prog 164 #[.int .i64 st, .int .i64 go, v] w fun e w' => e = .returned (.bool (xss.all (rowOk st))) ∧ Below w.heap.size w w' := by
  have hb := (Below.refl _ w).alloc (Nat.le_refl _) (.cells #[.int .i64 st] 2)
  have hp : (w.alloc (.cells #[.int .i64 st] 2)).cell? ⟨w.heap.size, 0, none⟩ = some (.int .i64 st) := cell_new _ _ _
  obtain ⟨A, c, rfl, hin⟩ := h.kept hb
  have HB := Lib.hid hb
  have HI := Lib.hid hin
  have HR := Lib.hid hr
  have HP := Lib.hid hp
  have HS := Lib.hid (fun W => isOf_any go st W)
  rw [decide_eq_true h3] at HS
  obtain ⟨N, hN⟩ : ∃ N, N = xss.length := ⟨_, rfl⟩
  rw [← hN] at hl h4 ⊢
  have HN := Lib.hid hN
  have hbe : ((N : Int) != st) = false := by simp [h4]
  have hd1 : decide (st < 1) = false := decide_eq_false (by omega)
  have hd2 : decide (24 < st) = false := decide_eq_false (by omega)
  clear hin hr hN h3 hb h hp h4
  go_enter Try.func164, Try.ntmps164
  go_wp2_with fail
  refine (HS.out _).mono ?_
  rintro e w5 ⟨rfl, rfl⟩
  have hp := HP.out
  go_wp2_with fail
  generalize w.alloc (.cells #[.int .i64 st] 2) = w1 at *
  obtain ⟨P, hPe⟩ : ∃ P, P = w.heap.size := ⟨_, rfl⟩
  rw [← hPe] at hp HP ⊢
  have HPE := Lib.hid hPe
  clear hPe hbe hd1 hd2
  go_loopw [31] (fun i wr => ∃ k : Nat, k ≤ N ∧ i = .int .i64 k ∧ (∀ j (hj : j < xss.length), j < k → rowOk st xss[j] = true) ∧ wr = w1) (fun i _ => N - (intOf i).toNat)
  case atStart => exact ⟨0, Nat.zero_le _, rfl, fun j hj h => by omega, rfl⟩
  case round =>
    obtain ⟨k, hk, rfl, hall, rfl⟩ := hrel
    have HALL := Lib.hid hall
    clear hall
    by_cases hlt : k < N
    · have hkg : k < xss.length := by rw [← HN.out]; exact hlt
      rcases HI.out with hn | ⟨x, rfl, hc⟩
      · rw [hn] at hkg; simp at hkg
      obtain ⟨u, c0, hrow⟩ := hc k hkg
      have hm := HR.out _ (List.getElem_mem hkg)
      have HBAD : Hid (rowOk st xss[k] = false → xss.all (rowOk st) = false) := Lib.hid (fun h => by
        rw [List.all_eq_false]
        exact ⟨xss[k], List.getElem_mem hkg, by rw [h]; decide⟩)
      have HGOOD : Hid (rowOk st xss[k] = true → ∀ j (hj : j < xss.length), j < k + 1 → rowOk st xss[j] = true) := Lib.hid (fun h j hj hjk => by
        by_cases e : j = k
        · subst e; exact h
        · exact HALL.out j hj (by omega))
      have HC := Lib.hid (containsF_any u xss[k] st P _ hm HP.out hrow)
      generalize xss[k] = r at *
      obtain ⟨A2, c2, rfl⟩ := hrow.shape
      obtain ⟨m, hm'⟩ : ∃ m, m = r.length := ⟨_, rfl⟩
      rw [← hm'] at hm c0 HC
      have HM := Lib.hid hm'
      clear hrow hc hm'
      by_cases h4 : m = 4
      · subst h4
        cases ha : allIn st r
        · rw [ha] at HC
          have HF := Lib.hid (HBAD.out (by
            unfold rowOk
            rw [show (r.all fun x => decide (0 ≤ x ∧ x < st)) = false from ha, Bool.and_false]))
          clear ha HBAD HGOOD HALL
          go_wp2_with fail
          refine HC.out.mono ?_
          rintro e w5 ⟨rfl, rfl⟩
          go_wp2_with fail
          go_ret
          exact ⟨by rw [HF.out] <;> rfl, HB.out⟩
        · rw [ha] at HC
          have HNX := Lib.hid (HGOOD.out (by
            unfold rowOk
            rw [show (r.all fun x => decide (0 ≤ x ∧ x < st)) = true from ha, ← HM.out]; rfl))
          clear ha HBAD HGOOD HALL
          go_wp2_with fail
          refine HC.out.mono ?_
          rintro e w5 ⟨rfl, rfl⟩
          go_wp2_with fail
          go_roundw
          all_goals first | exact ⟨k + 1, by omega, by go_num, HNX.out, by first | rfl | trivial⟩ | ((repeat apply Exists.intro); exact ⟨⟨k + 1, by omega, by go_num, HNX.out, by first | rfl | trivial⟩, by first | rfl | trivial⟩) | (simp [intOf]; done) | (simp [intOf]; omega) | omega
      · have hne : ¬ (m : Int) = 4 := by omega
        have HF := Lib.hid (HBAD.out (by unfold rowOk; rw [← HM.out, decide_eq_false h4]; rfl))
        clear HBAD HGOOD HALL HC
        go_wp2_with fail
        go_ret
        exact ⟨by rw [HF.out] <;> rfl, HB.out⟩
    · obtain rfl : k = N := by omega
      have HT : Hid (xss.all (rowOk st) = true) := Lib.hid (by
        rw [List.all_eq_true]
        intro r hr
        obtain ⟨j, hj, e⟩ := List.getElem_of_mem hr
        rw [← e]
        exact HALL.out j hj (by rw [HN.out]; exact hj))
      clear HALL
      go_wp2_with fail
      go_ret
      exact ⟨by rw [HT.out] <;> rfl, HB.out⟩
set_option maxRecDepth 100000 in
set_option maxHeartbeats 3200000 in
theorem steps_any (st go : Int) (v : Value) (xss : List (List Int)) (w : World) (hl : xss.length ≤ 1048576) (hr : ∀ r ∈ xss, r.length ≤ 1048576) (h : IsLL w v xss) :
    Calls Try.prog 164 #[.int .i64 st, .int .i64 go, v] w fun e w' => e = .returned (.bool (stepsOk st go xss)) ∧ Below w.heap.size w w' := by
  have HB := Lib.hid ((Below.refl _ w).alloc (Nat.le_refl _) (.cells #[.int .i64 st] 2))
  have HS := Lib.hid (fun W => isOf_any go st W)
  by_cases h1 : 1 ≤ st
  · by_cases h2 : st ≤ 24
    · by_cases h3 : 0 ≤ go ∧ go < st
      · by_cases h4 : (xss.length : Int) = st
        · unfold stepsOk
          rw [decide_eq_true (show 1 ≤ st ∧ st ≤ 24 from ⟨h1, h2⟩), decide_eq_true h3, decide_eq_true h4]
          exact steps_ok st go v xss w hl hr h h1 h2 h3 h4
        · have hf : stepsOk st go xss = false := by unfold stepsOk; rw [decide_eq_false h4, Bool.false_and, Bool.and_false]
          rw [hf]
          rw [decide_eq_true h3] at HS
          have hbe : ((xss.length : Int) != st) = true := by simp [h4]
          have hd1 : decide (st < 1) = false := decide_eq_false (by omega)
          have hd2 : decide (24 < st) = false := decide_eq_false (by omega)
          clear h4
          obtain ⟨A, c, rfl, hx⟩ := h
          clear hf h3 hr hx
          generalize xss.length = N at *
          go_enter Try.func164, Try.ntmps164
          go_wp2_with fail
          refine (HS.out _).mono ?_
          rintro e w5 ⟨rfl, rfl⟩
          go_wp2_with fail
          go_ret
          exact ⟨rfl, HB.out⟩
      · have hf : stepsOk st go xss = false := by unfold stepsOk; rw [decide_eq_false h3, Bool.and_false, Bool.false_and]
        rw [hf]
        rw [decide_eq_false h3] at HS
        have hd1 : decide (st < 1) = false := decide_eq_false (by omega)
        have hd2 : decide (24 < st) = false := decide_eq_false (by omega)
        obtain ⟨A, c, rfl, hx⟩ := h
        clear hf h3 hr hx
        generalize xss.length = N at *
        go_enter Try.func164, Try.ntmps164
        go_wp2_with fail
        refine (HS.out _).mono ?_
        rintro e w5 ⟨rfl, rfl⟩
        go_wp2_with fail
        go_ret
        exact ⟨rfl, HB.out⟩
    · have hf : stepsOk st go xss = false := by unfold stepsOk; rw [decide_eq_false (fun h => h2 h.2), Bool.false_and, Bool.false_and]
      rw [hf]
      have hd1 : decide (st < 1) = false := decide_eq_false (by omega)
      have hd2 : decide (24 < st) = true := decide_eq_true (by omega)
      obtain ⟨A, c, rfl, hx⟩ := h
      clear hf hr HS hx
      generalize xss.length = N at *
      go_enter Try.func164, Try.ntmps164
      go_wp2_with fail
      go_ret
      exact ⟨rfl, HB.out⟩
  · have hf : stepsOk st go xss = false := by unfold stepsOk; rw [decide_eq_false (fun h => h1 h.1), Bool.false_and, Bool.false_and]
    rw [hf]
    have hd1 : decide (st < 1) = true := decide_eq_true (by omega)
    obtain ⟨A, c, rfl, hx⟩ := h
    clear hf hr HS hx
    generalize xss.length = N at *
    go_enter Try.func164, Try.ntmps164
    go_wp2_with fail
    go_ret
    exact ⟨rfl, HB.out⟩
end Go.Proofs.Ytaffachjopjbgaa
namespace Go.Proofs.Ytaffachjopjbgaa
open Go.RowKit
open Wd
set_option linter.unusedVariables false
theorem aOk_eq (x : Au) : aOk x = (stepsOk x.st x.go x.nx && risesL 0 (x.st - 1) x.fin) := by
  unfold aOk stepsOk
  rw [show (decide (0 ≤ x.go ∧ x.go ≤ x.st - 1)) = decide (0 ≤ x.go ∧ x.go < x.st) from by congr 1; rw [eq_iff_iff]; omega]
  simp only [Bool.and_assoc, Bool.and_comm, Bool.and_left_comm]
set_option maxRecDepth 100000 in
set_option maxHeartbeats 3200000 in
theorem implValidAuto (v : Value) (x : Au) (w : World) (hf : FewA x) (h : IsAu w v x) :
    Calls Try.prog 107 #[v] w fun e w' => e = .returned (.bool (aOk x)) ∧ Below w.heap.size w w' := by
  rw [aOk_eq]
  obtain ⟨f, n, rfl, hF, hN⟩ := h
  obtain ⟨st, go, fin, nx⟩ := x
  simp only at hF hN ⊢
  have hf1 := hf.fin
  have hf2 := hf.nx
  have hf3 := hf.row
  simp only at hf1 hf2 hf3
  have hb := (Below.refl _ w).alloc (Nat.le_refl _) (.cells #[.int .i64 st, .int .i64 go, f, n] 33)
  have hP := heap_alloc_new w (.cells #[.int .i64 st, .int .i64 go, f, n] 33)
  have HS := Lib.hid (steps_any st go n nx _ hf2 hf3 (hN.kept hb))
  obtain ⟨A, c, rfl, hin⟩ := hF
  obtain ⟨An, cn, rfl, _⟩ := hN
  have HB := Lib.hid hb
  have HP := Lib.hid hP
  have HI := Lib.hid hin
  have HW := Lib.hid (show w.heap.size < (w.alloc (.cells #[.int .i64 st, .int .i64 go, .slice A fin.length c, .slice An nx.length cn] 33)).heap.size by simp)
  clear hb hP hin hf
  cases hs : stepsOk st go nx
  · rw [hs] at HS
    rw [Bool.false_and]
    clear hs
    go_enter Try.func107, Try.ntmps107
    go_wp2_with fail
    refine HS.out.mono ?_
    rintro e w1 ⟨rfl, hB1⟩
    have HB1 := Lib.hid (HB.out.trans (hB1.mono (by simp)))
    clear hB1
    go_wp2_with fail
    go_ret
    exact ⟨rfl, HB1.out⟩
  · rw [hs] at HS
    rw [Bool.true_and]
    have hst : 1 ≤ st ∧ st ≤ 24 := by
      unfold stepsOk at hs
      rw [Bool.and_eq_true, Bool.and_eq_true, decide_eq_true_iff] at hs
      exact hs.1.1
    obtain ⟨hst1, hst2⟩ := hst
    clear hs
    obtain ⟨N, hN⟩ : ∃ N, N = fin.length := ⟨_, rfl⟩
    rw [← hN] at hf1 HB HP HS HW ⊢
    have HN := Lib.hid hN
    clear hN
    go_enter Try.func107, Try.ntmps107
    go_wp2_with fail
    refine HS.out.mono ?_
    rintro e w1 ⟨rfl, hB1⟩
    have HB1 := Lib.hid (HB.out.trans (hB1.mono (by simp)))
    have hP1 := (hB1.block w.heap.size HW.out).trans HP.out
    obtain ⟨⟨p0, p1, p2, p3⟩, _⟩ := blk4_cells hP1
    have HI1 : Hid (fin = [] ∨ ∃ a, A = some a ∧ ∀ j (hj : j < fin.length), w1.cell? (a.add j) = some (.int .i64 fin[j])) := Lib.hid (by
      rcases HI.out with h | ⟨a, h1, h2⟩
      · exact .inl h
      · exact .inr ⟨a, h1, fun j hj => (HB1.out.cell (lt_of_cell (h2 j hj))).trans (h2 j hj)⟩)
    clear hB1 hP1 HB HP HI HS HW
    go_wp2_with fail
    obtain ⟨P, hPe⟩ : ∃ P, P = w.heap.size := ⟨_, rfl⟩
    rw [← hPe] at p0 p1 p2 p3 ⊢
    clear hPe
    go_loopw [16] (fun i wr => ∃ k : Nat, k ≤ N ∧ i = .int .i64 k ∧ (∀ j, j < k → goodAt 0 (st - 1) fin j) ∧ wr = w1) (fun i _ => N - (intOf i).toNat)
    case atStart => exact ⟨0, Nat.zero_le _, rfl, fun j hj => by omega, rfl⟩
    case round =>
      obtain ⟨k, hk, rfl, hgood, rfl⟩ := hrel
      have HG := Lib.hid hgood
      clear hgood
      by_cases hlt : k < N
      · have hkg : k < fin.length := by rw [← HN.out]; exact hlt
        rcases HI1.out with hn | ⟨x, rfl, hc⟩
        · rw [hn] at hkg; simp at hkg
        have c0 := hc k hkg
        rw [show fin[k] = fin.getD k 0 from by rw [List.getD_eq_getElem?_getD, List.getElem?_eq_getElem hkg]; rfl] at c0
        have HBAD : Hid (¬ goodAt 0 (st - 1) fin k → risesL 0 (st - 1) fin = false) := Lib.hid (fun h => decide_eq_false (fun h' => h (h' k hkg)))
        have HNEXT : Hid (goodAt 0 (st - 1) fin k → ∀ j, j < k + 1 → goodAt 0 (st - 1) fin j) := Lib.hid (fun h j hj => by
          by_cases e : j = k
          · subst e; exact h
          · exact HG.out j (by omega))
        have HOF := Lib.hid (fun W => isOf_any (fin.getD k 0) st W)
        by_cases hb : 0 ≤ fin.getD k 0 ∧ fin.getD k 0 < st
        · rw [decide_eq_true hb] at HOF
          by_cases h0 : 0 < k
          · obtain ⟨m, hm⟩ : ∃ m, k = m + 1 := ⟨k - 1, by omega⟩
            have d1 := hc m (by omega)
            rw [show fin[m]'(by omega) = fin.getD m 0 from by rw [List.getD_eq_getElem?_getD, List.getElem?_eq_getElem (by omega)]; rfl] at d1
            have hm0 : (0 : Int) ≤ (m : Int) := by omega
            have hm1 : (m : Int) < (N : Int) := by omega
            have hsub : IntKind.i64.wrap ((k : Int) - 1) = (m : Int) := by rw [IntKind.wrap_i64]; omega
            have hgt : decide ((0 : Int) < (k : Int)) = true := decide_eq_true (by omega)
            have hgt2 : decide (0 < k) = true := decide_eq_true (by omega)
            have HB0 := Lib.hid hb
            have HM := Lib.hid hm
            clear hb h0 hm hc hkg
            generalize hz : fin.getD k 0 = z at *
            generalize hy : fin.getD m 0 = y at *
            have HZ := Lib.hid (And.intro hz hy)
            clear hz hy
            by_cases hle : z ≤ y
            · have hge : decide (z ≤ y) = true := decide_eq_true hle
              have HFIN : Hid (risesL 0 (st - 1) fin = false) := Lib.hid (HBAD.out (fun h => by
                have hm := HM.out
                have := h.2 (by omega)
                rw [show k - 1 = m from by omega, HZ.out.1, HZ.out.2] at this
                omega))
              clear HBAD HNEXT HG
              go_wp2_with fail
              refine (HOF.out _).mono ?_
              rintro e w5 ⟨rfl, rfl⟩
              go_wp2_with fail
              go_ret
              exact ⟨by rw [HFIN.out] <;> rfl, HB1.out⟩
            · have hge : decide (z ≤ y) = false := decide_eq_false hle
              have HOKK := Lib.hid (HNEXT.out ⟨by rw [HZ.out.1]; have := HB0.out; omega, fun _ => by rw [show k - 1 = m from by have := HM.out; omega, HZ.out.1, HZ.out.2]; omega⟩)
              clear HBAD HNEXT HG
              go_wp2_with fail
              refine (HOF.out _).mono ?_
              rintro e w5 ⟨rfl, rfl⟩
              go_wp2_with fail
              go_roundw
              all_goals first | exact ⟨k + 1, by omega, by go_num, HOKK.out, by first | rfl | trivial⟩ | ((repeat apply Exists.intro); exact ⟨⟨k + 1, by omega, by go_num, HOKK.out, by first | rfl | trivial⟩, by first | rfl | trivial⟩) | (simp [intOf]; done) | (simp [intOf]; omega) | omega
          · have HOKK := Lib.hid (HNEXT.out ⟨by omega, fun h => absurd h h0⟩)
            have hgt : decide ((0 : Int) < (k : Int)) = false := decide_eq_false (by omega)
            have hgt2 : decide (0 < k) = false := decide_eq_false (by omega)
            clear hb h0 HBAD HNEXT HG hc hkg
            generalize fin.getD k 0 = z at *
            go_wp2_with fail
            refine (HOF.out _).mono ?_
            rintro e w5 ⟨rfl, rfl⟩
            go_wp2_with fail
            go_roundw
            all_goals first | exact ⟨k + 1, by omega, by go_num, HOKK.out, by first | rfl | trivial⟩ | ((repeat apply Exists.intro); exact ⟨⟨k + 1, by omega, by go_num, HOKK.out, by first | rfl | trivial⟩, by first | rfl | trivial⟩) | (simp [intOf]; done) | (simp [intOf]; omega) | omega
        · rw [decide_eq_false hb] at HOF
          have HFIN := Lib.hid (HBAD.out (fun h => hb ⟨h.1.1, by have := h.1.2; omega⟩))
          clear hb HBAD HNEXT HG hc hkg
          generalize fin.getD k 0 = z at *
          go_wp2_with fail
          refine (HOF.out _).mono ?_
          rintro e w5 ⟨rfl, rfl⟩
          go_wp2_with fail
          go_ret
          exact ⟨by rw [HFIN.out] <;> rfl, HB1.out⟩
      · obtain rfl : k = N := by omega
        have HFIN : Hid (risesL 0 (st - 1) fin = true) := Lib.hid (decide_eq_true (fun j hj => HG.out j (by rw [HN.out]; exact hj)))
        clear HG
        go_wp2_with fail
        go_ret
        exact ⟨by rw [HFIN.out] <;> rfl, HB1.out⟩
end Go.Proofs.Ytaffachjopjbgaa
namespace Go.Proofs.Ytaffachjopjbgaa
open Go.RowKit
open Wd
set_option linter.unusedVariables false
set_option maxRecDepth 100000 in
set_option maxHeartbeats 1600000 in
theorem has_any (v : Value) (zs : List Int) (n : Int) (w : World) (hl : zs.length ≤ 1048576) (h : IsL w v zs) :
    Calls Try.prog 106 #[v, .int .i64 n] w fun e w' => e = .returned (.bool (hasN zs n)) ∧ w' = w := by
  obtain ⟨A, c, rfl, hin⟩ := h
  have HI := Lib.hid hin
  obtain ⟨N, hN⟩ : ∃ N, N = zs.length := ⟨_, rfl⟩
  rw [← hN] at hl ⊢
  have HN := Lib.hid hN
  clear hin hN
  go_enter Try.func106, Try.ntmps106
  go_wp2_with fail
  go_loopw [5] (fun i wr => ∃ k : Nat, k ≤ N ∧ i = .int .i64 k ∧ (∀ j (hj : j < zs.length), j < k → zs[j] ≠ n) ∧ wr = w) (fun i _ => N - (intOf i).toNat)
  case atStart => exact ⟨0, Nat.zero_le _, rfl, fun j hj h => by omega, rfl⟩
  case round =>
    obtain ⟨k, hk, rfl, hall, rfl⟩ := hrel
    have HA := Lib.hid hall
    clear hall
    by_cases hlt : k < N
    · have hkg : k < zs.length := by rw [← HN.out]; exact hlt
      rcases HI.out with hn | ⟨x, rfl, hc⟩
      · rw [hn] at hkg; simp at hkg
      have c0 := hc k hkg
      by_cases he : zs[k] = n
      · have HT := Lib.hid (hasN_yes hkg he)
        rw [he] at c0
        clear hc hkg he
        go_wp2_with fail
        go_ret
        exact ⟨by rw [HT.out] <;> rfl, rfl⟩
      · have HNX : Hid (∀ j (hj : j < zs.length), j < k + 1 → zs[j] ≠ n) := Lib.hid (fun j hj hjk => by
          by_cases e : j = k
          · subst e; exact he
          · exact HA.out j hj (by omega))
        have hq : (zs[k] == n) = false := by simpa using he
        generalize zs[k] = z at *
        clear hc hkg he
        go_wp2_with fail
        go_roundw
        all_goals first | exact ⟨k + 1, by omega, by go_num, HNX.out, by first | rfl | trivial⟩ | ((repeat apply Exists.intro); exact ⟨⟨k + 1, by omega, by go_num, HNX.out, by first | rfl | trivial⟩, by first | rfl | trivial⟩) | (simp [intOf]; done) | (simp [intOf]; omega) | omega
    · obtain rfl : k = N := by omega
      have HT : Hid (hasN zs n = false) := Lib.hid (hasN_no fun j hj => HA.out j hj (by rw [HN.out]; exact hj))
      clear HA
      go_wp2_with fail
      go_ret
      exact ⟨by rw [HT.out] <;> rfl, rfl⟩
set_option maxRecDepth 100000 in
set_option maxHeartbeats 1600000 in
theorem indexI_any (v : Value) (zs : List Int) (n : Int) (w : World) (hl : zs.length ≤ 1048576) (h : IsL w v zs) :
    Calls Try.prog 204 #[v, .int .i64 n] w fun e w' => ∃ y, e = .returned (.int .i64 y) ∧ w' = w ∧ ((hasN zs n = false ∧ y = -1) ∨ (hasN zs n = true ∧ 0 ≤ y)) := by
  obtain ⟨A, c, rfl, hin⟩ := h
  have HI := Lib.hid hin
  obtain ⟨N, hN⟩ : ∃ N, N = zs.length := ⟨_, rfl⟩
  rw [← hN] at hl ⊢
  have HN := Lib.hid hN
  clear hin hN
  go_enter Try.func204, Try.ntmps204
  go_wp2_with fail
  go_loopw [8] (fun i wr => ∃ k : Nat, k ≤ N ∧ i = .int .i64 k ∧ (∀ j (hj : j < zs.length), j < k → zs[j] ≠ n) ∧ wr = w) (fun i _ => N - (intOf i).toNat)
  case atStart => exact ⟨0, Nat.zero_le _, rfl, fun j hj h => by omega, rfl⟩
  case round =>
    obtain ⟨k, hk, rfl, hall, rfl⟩ := hrel
    have HA := Lib.hid hall
    clear hall
    by_cases hlt : k < N
    · have hkg : k < zs.length := by rw [← HN.out]; exact hlt
      rcases HI.out with hn | ⟨x, rfl, hc⟩
      · rw [hn] at hkg; simp at hkg
      have c0 := hc k hkg
      by_cases he : zs[k] = n
      · have HT := Lib.hid (hasN_yes hkg he)
        rw [he] at c0
        clear hc hkg he
        go_wp2_with fail
        go_ret
        exact ⟨_, rfl, rfl, .inr ⟨HT.out, by omega⟩⟩
      · have HNX : Hid (∀ j (hj : j < zs.length), j < k + 1 → zs[j] ≠ n) := Lib.hid (fun j hj hjk => by
          by_cases e : j = k
          · subst e; exact he
          · exact HA.out j hj (by omega))
        have hq : (n == zs[k]) = false := by simpa using fun e => he (Eq.symm e)
        generalize zs[k] = z at *
        clear hc hkg he
        go_wp2_with fail
        go_roundw
        all_goals first | exact ⟨k + 1, by omega, by go_num, HNX.out, by first | rfl | trivial⟩ | ((repeat apply Exists.intro); exact ⟨⟨k + 1, by omega, by go_num, HNX.out, by first | rfl | trivial⟩, by first | rfl | trivial⟩) | (simp [intOf]; done) | (simp [intOf]; omega) | omega
    · obtain rfl : k = N := by omega
      have HT : Hid (hasN zs n = false) := Lib.hid (hasN_no fun j hj => HA.out j hj (by rw [HN.out]; exact hj))
      clear HA
      go_wp2_with fail
      go_ret
      exact ⟨_, rfl, rfl, .inl ⟨HT.out, rfl⟩⟩
theorem containsI_any (v : Value) (zs : List Int) (n : Int) (w : World) (hl : zs.length ≤ 1048576) (h : IsL w v zs) :
    Calls Try.prog 162 #[v, .int .i64 n] w fun e w' => e = .returned (.bool (hasN zs n)) ∧ w' = w := by
  have HX := Lib.hid (indexI_any v zs n w hl h)
  obtain ⟨A, c, rfl, _⟩ := h
  go_enter Try.func162, Try.ntmps162
  go_wp2_with fail
  refine HX.out.mono ?_
  rintro e w5 ⟨y, rfl, rfl, ⟨ha, rfl⟩ | ⟨ha, hy⟩⟩
  · have HA := Lib.hid ha
    clear ha
    go_wp2_with fail
    go_ret
    exact ⟨by rw [HA.out] <;> rfl, rfl⟩
  · have HA := Lib.hid ha
    have hd : decide (0 ≤ y) = true := decide_eq_true hy
    clear ha
    go_wp2_with fail
    go_ret
    exact ⟨by rw [HA.out] <;> first | rfl | (simp; done) | simp [hd], rfl⟩
theorem isFinal_any (c0 c1 f n : Value) (A A' : Option Addr) (a b a' b' : Nat) (hf : f = .slice A a b) (hn : n = .slice A' a' b') (i j : Int) (h0 : c0 = .int .i64 i) (h1 : c1 = .int .i64 j) (w : World) :
    Calls Try.prog 99 #[.agg #[c0, c1, f, n]] w fun e w' => e = .returned (.func (.func 161) #[] #[.pointer (some ⟨w.heap.size, 0, none⟩)]) ∧ w' = w.alloc (.cells #[c0, c1, f, n] 33) := by
  subst hf hn h0 h1
  have hmf : ∀ (fn : Fn) (first cap : Array Value) (w : World), (Instr.makeFunc fn first cap).run Try.prog w = .ok (.func fn first cap) w := fun _ _ _ _ => rfl
  go_enter Try.func99, Try.ntmps99
  go_wp2_with fail
  go_ret
  exact ⟨rfl, rfl⟩
theorem final_any (s : Int) (P : Nat) (c0 c1 f n : Value) (fin : List Int) (w : World) (hl : fin.length ≤ 1048576) (hP : B4 w P c0 c1 f n 33) (hF : IsL w f fin) :
    Calls Try.prog 161 #[.int .i64 s, .pointer (some ⟨P, 0, none⟩)] w fun e w' => e = .returned (.bool (hasN fin s)) ∧ w' = w := by
  have HC := Lib.hid (containsI_any f fin s w hl hF)
  obtain ⟨⟨p0, p1, p2, p3⟩, _⟩ := blk4_cells hP
  obtain ⟨A, c, rfl⟩ := hF.shape
  clear hP hF
  go_enter Try.func161, Try.ntmps161
  go_wp2_with fail
  refine HC.out.mono ?_
  rintro e w5 ⟨rfl, rfl⟩
  go_wp2_with fail
  go_ret
  exact ⟨rfl, rfl⟩
end Go.Proofs.Ytaffachjopjbgaa
namespace Go.Proofs.Ytaffachjopjbgaa
open Go.RowKit
open Wd
set_option linter.unusedVariables false
namespace Wd
/-- the map of a letter, 24 wide -/
def stepsRow (nx : List (List Int)) (l : Nat) : List Int := (List.range 24).map fun s => (nx.getD s []).getD l 0
/-- one map behind the other -/
def thenRow (m f : List Int) : List Int := m.map fun q => f.getD q.toNat 0
def rowM (nx : List (List Int)) (ms : List (List Int)) (x : Rl) : List Int := if x.L.size = 0 then thenRow (ms.getD x.l.toNat []) (ms.getD x.r.toNat []) else stepsRow nx (ltNo x)
/-- the maps of the first rules -/
def mapsK (nx : List (List Int)) (gs : List Rl) : Nat → List (List Int)
  | 0 => []
  | k + 1 => mapsK nx gs k ++ [rowM nx (mapsK nx gs k) (gs.getD k ⟨ByteArray.empty, 0, 0⟩)]
/-- a map between so many states -/
def mapOk (st : Int) (m : List Int) : Prop := m.length = 24 ∧ ∀ q ∈ m, 0 ≤ q ∧ q < st
def thenK (m f : List Int) (k : Nat) : List Int := thenRow (m.take k) f ++ m.drop k
end Wd
theorem thenK_len (m f : List Int) (k : Nat) (h : k ≤ m.length) : (thenK m f k).length = m.length := by simp [thenK, thenRow]; omega
theorem thenK_zero (m f : List Int) : thenK m f 0 = m := by simp [thenK, thenRow]
theorem thenK_all (m f : List Int) : thenK m f m.length = thenRow m f := by simp [thenK]
theorem thenK_set (m f : List Int) (k : Nat) (h : k < m.length) : (thenK m f k).set k (f.getD m[k].toNat 0) = thenK m f (k + 1) := by
  unfold thenK
  have h1 : (thenRow (m.take k) f).length = k := by simp [thenRow]; omega
  rw [List.set_append_right _ _ (by omega), h1, Nat.sub_self, List.drop_eq_getElem_cons h, List.set_cons_zero, List.take_succ_eq_append_getElem h]
  unfold thenRow
  rw [List.map_append, List.append_assoc]
  rfl
theorem stepsRow_len (nx : List (List Int)) (l : Nat) : (stepsRow nx l).length = 24 := by simp [stepsRow]
theorem thenRow_len (m f : List Int) : (thenRow m f).length = m.length := by simp [thenRow]
theorem mapsK_len (nx : List (List Int)) (gs : List Rl) : ∀ k, (mapsK nx gs k).length = k
  | 0 => rfl
  | k + 1 => by rw [mapsK, List.length_append, mapsK_len nx gs k]; rfl
theorem mapsK_getD (nx : List (List Int)) (gs : List Rl) (j : Nat) : ∀ k, j < k → (mapsK nx gs k).getD j [] = (mapsK nx gs (j + 1)).getD j []
  | 0, h => by omega
  | k + 1, h => by
    by_cases e : j = k
    · subst e; rfl
    · have hk : j < k := by omega
      rw [← mapsK_getD nx gs j k hk, mapsK, List.getD_eq_getElem?_getD, List.getElem?_append_left (by rw [mapsK_len]; exact hk), ← List.getD_eq_getElem?_getD]
theorem mapsK_last (nx : List (List Int)) (gs : List Rl) (k : Nat) : (mapsK nx gs (k + 1)).getD k [] = rowM nx (mapsK nx gs k) (gs.getD k ⟨ByteArray.empty, 0, 0⟩) := by
  rw [mapsK, List.getD_eq_getElem?_getD, List.getElem?_append_right (by rw [mapsK_len]; exact Nat.le_refl _), mapsK_len]
  simp
theorem stepsRow_ok {nx : List (List Int)} {st : Int} {l : Nat} (h : nx.all (rowOk st) = true) (hl : (nx.length : Int) = st) (h1 : 1 ≤ st) (hl4 : l < 4) : mapOk st (stepsRow nx l) := by
  refine ⟨stepsRow_len nx l, fun q hq => ?_⟩
  unfold stepsRow at hq
  obtain ⟨s, hs, rfl⟩ := List.mem_map.1 hq
  by_cases hsn : s < nx.length
  · rw [List.getD_eq_getElem?_getD (l := nx), List.getElem?_eq_getElem hsn, Option.getD_some]
    have hrow := List.all_eq_true.1 h _ (List.getElem_mem hsn)
    unfold rowOk at hrow
    rw [Bool.and_eq_true, decide_eq_true_iff] at hrow
    have hll : l < nx[s].length := by omega
    rw [List.getD_eq_getElem?_getD, List.getElem?_eq_getElem hll, Option.getD_some]
    have := List.all_eq_true.1 hrow.2 _ (List.getElem_mem hll)
    simpa using this
  · rw [List.getD_eq_getElem?_getD (l := nx), List.getElem?_eq_none (by omega)]
    simp
    omega
theorem thenRow_ok {st : Int} {m f : List Int} (h24 : st ≤ 24) (hm : mapOk st m) (hf : mapOk st f) : mapOk st (thenRow m f) := by
  refine ⟨by rw [thenRow_len]; exact hm.1, fun q hq => ?_⟩
  unfold thenRow at hq
  obtain ⟨s, hs, rfl⟩ := List.mem_map.1 hq
  have h1 := hm.2 s hs
  have h2 : s.toNat < f.length := by rw [hf.1]; omega
  rw [List.getD_eq_getElem?_getD, List.getElem?_eq_getElem h2, Option.getD_some]
  exact hf.2 _ (List.getElem_mem h2)
theorem mapsK_ok {nx : List (List Int)} {st : Int} {gs : List Rl} (h : nx.all (rowOk st) = true) (hl : (nx.length : Int) = st) (h1 : 1 ≤ st) (h24 : st ≤ 24) (hfit : fits gs = true) : ∀ k, k ≤ gs.length → ∀ j, j < k → mapOk st ((mapsK nx gs k).getD j [])
  | 0, _, j, hj => by omega
  | k + 1, hk, j, hj => by
    have ih := mapsK_ok h hl h1 h24 hfit k (by omega)
    by_cases e : j = k
    · subst e
      rw [mapsK_last]
      have hfj := fits_at hfit j (by omega)
      have hg : gs.getD j ⟨ByteArray.empty, 0, 0⟩ = gs[j]'(by omega) := by rw [List.getD_eq_getElem?_getD, List.getElem?_eq_getElem (by omega)]; rfl
      rw [hg]
      unfold rowM
      by_cases hz : (gs[j]'(by omega)).L.size = 0
      · rw [if_pos hz]
        have hp := (ok_pair hz).1 hfj
        exact thenRow_ok h24 (ih _ (by omega)) (ih _ (by omega))
      · rw [if_neg hz]
        obtain ⟨c, _, hc1, hc2, hc3⟩ := letter_byte hz hfj
        exact stepsRow_ok h hl h1 (by omega)
    · rw [mapsK_getD nx gs j (k + 1) hj, ← mapsK_getD nx gs j k (by omega)]
      exact ih j (by omega)
end Go.Proofs.Ytaffachjopjbgaa
namespace Go.Proofs.Ytaffachjopjbgaa
open Go.RowKit
open Wd
set_option linter.unusedVariables false
theorem letterN_any (d : Nat) (hd : d < 4) (w : World) :
    Calls Try.prog 160 #[.int .u8 ((97 + d : Nat) : Int)] w fun e w' => e = .returned (.int .i64 (d : Int)) ∧ w' = w := by
  match d, hd with
  | 0, _ =>
    go_enter Try.func160, Try.ntmps160
    go_wp2
    go_ret
    exact ⟨rfl, rfl⟩
  | 1, _ =>
    go_enter Try.func160, Try.ntmps160
    go_wp2
    go_ret
    exact ⟨rfl, rfl⟩
  | 2, _ =>
    go_enter Try.func160, Try.ntmps160
    go_wp2
    go_ret
    exact ⟨rfl, rfl⟩
  | 3, _ =>
    go_enter Try.func160, Try.ntmps160
    go_wp2
    go_ret
    exact ⟨rfl, rfl⟩
end Go.Proofs.Ytaffachjopjbgaa
namespace Go.Proofs.Ytaffachjopjbgaa
open Go.RowKit
open Wd
set_option linter.unusedVariables false
namespace Wd
/-- the next state -/
def stepA (nx : List (List Int)) (t : Int) (c : UInt8) : Int := (nx.getD t.toNat []).getD (c.toNat - 97) 0
/-- the state behind k letters -/
def rdK (nx : List (List Int)) (t : Int) (l : List UInt8) : Nat → Int
  | 0 => t
  | k + 1 => stepA nx (rdK nx t l k) (l.getD k 97)
theorem row_facts {nx : List (List Int)} {st : Int} (h : nx.all (rowOk st) = true) {i : Nat} (hi : i < nx.length) : nx[i].length = 4 ∧ ∀ j (hj : j < nx[i].length), 0 ≤ nx[i][j] ∧ nx[i][j] < st := by
  have h1 := List.all_eq_true.1 h nx[i] (List.getElem_mem hi)
  unfold rowOk at h1
  rw [Bool.and_eq_true, decide_eq_true_iff] at h1
  refine ⟨h1.1, fun j hj => ?_⟩
  have := List.all_eq_true.1 h1.2 nx[i][j] (List.getElem_mem hj)
  rwa [decide_eq_true_iff] at this
theorem step_in {nx : List (List Int)} {st t : Int} {c : UInt8} (h : nx.all (rowOk st) = true) (hl : (nx.length : Int) = st) (h0 : 0 ≤ t ∧ t < st) (hc : lt c = true) : 0 ≤ stepA nx t c ∧ stepA nx t c < st := by
  have h1 := of_lt hc
  have hi : t.toNat < nx.length := by omega
  obtain ⟨h4, hr⟩ := row_facts h hi
  unfold stepA
  rw [List.getD_eq_getElem?_getD (l := nx), List.getElem?_eq_getElem hi, Option.getD_some, List.getD_eq_getElem?_getD, List.getElem?_eq_getElem (by omega), Option.getD_some]
  exact hr _ (by omega)
theorem rdK_in {nx : List (List Int)} {st t : Int} {l : List UInt8} (h : nx.all (rowOk st) = true) (hl : (nx.length : Int) = st) (h0 : 0 ≤ t ∧ t < st) (hc : okL l = true) : ∀ k, k ≤ l.length → 0 ≤ rdK nx t l k ∧ rdK nx t l k < st
  | 0, _ => h0
  | k + 1, hk => by
    have ih := rdK_in h hl h0 hc k (by omega)
    rw [rdK]
    refine step_in h hl ih ?_
    rw [List.getD_eq_getElem?_getD, List.getElem?_eq_getElem (by omega), Option.getD_some]
    exact okL_at hc (by omega)
end Wd
end Go.Proofs.Ytaffachjopjbgaa
namespace Go.Proofs.Ytaffachjopjbgaa
open Go.RowKit
open Wd
set_option linter.unusedVariables false
/-- the maps of all rules, as wide as there are states -/
def mapsN (nx : List (List Int)) (gs : List Rl) (N k : Nat) : List (List Int) := (mapsK nx gs k).map (·.take N)
theorem mapsN_len (nx : List (List Int)) (gs : List Rl) (N k : Nat) : (mapsN nx gs N k).length = k := by unfold mapsN; rw [List.length_map, mapsK_len]
theorem mapsN_get {nx : List (List Int)} {gs : List Rl} {N k j : Nat} (h : j < k) : (mapsN nx gs N k)[j]? = some (((mapsK nx gs k).getD j []).take N) := by
  unfold mapsN
  rw [List.getElem?_map, List.getElem?_eq_getElem (by rw [mapsK_len]; exact h)]
  rw [List.getD_eq_getElem?_getD, List.getElem?_eq_getElem (by rw [mapsK_len]; exact h)]
  rfl
/-- between two states of a rule -/
def InS (w : World) (y : Value) (U : List Value) (Z : List (List Int)) (B : Nat) (row : List Int) (s : Nat) (tv : Value) (wr : World) : Prop :=
  OwnM wr w.heap.size y U Z ∧ OwnsI wr B tv (row.take s) ∧ Below w.heap.size w wr ∧ B ≤ wr.heap.size
theorem InS.kept {w wr w1 : World} {y tv : Value} {U : List Value} {Z : List (List Int)} {B s : Nat} {row : List Int} (h : InS w y U Z B row s tv wr) (hb : Below wr.heap.size wr w1) : InS w y U Z B row s tv w1 :=
  ⟨h.1.kept hb, own_below h.2.1 hb (Nat.le_refl _), h.2.2.1.trans (hb.mono h.2.2.1.size), Nat.le_trans h.2.2.2 hb.size⟩
theorem InS.append {w wr w5 : World} {y tv tv' : Value} {U : List Value} {Z : List (List Int)} {B s : Nat} {row : List Int} {o : Obj} (h : InS w y U Z B row s tv wr) (hwB : w.heap.size ≤ B)
    (hU : ∀ u ∈ U, ∀ q, u.ownBlock = some q → q < B) (hy : ∀ q, y.ownBlock = some q → q < B) (hs : s < row.length)
    (hown : w5.ownsRow B 2 1 tv' (s + 1) (iv (row.take s) ++ [.int .i64 row[s]])) (hg : (wr.alloc o).grownBy w5 tv.ownBlock) : InS w y U Z B row (s + 1) tv' w5 := by
  obtain ⟨h1, h2, h3, h4⟩ := h
  have hrow : ∀ q, tv.ownBlock = some q → B ≤ q := fun q hq => (h2.lt q hq).1
  have hsz := hg.size
  refine ⟨(h1.kept ((Below.refl _ wr).alloc (Nat.le_refl _) o)).apart hU hy hg hrow, ?_, (h3.alloc h3.size o).grown hg (by have := h3.size; simp; omega) (fun q hq => by have := hrow q hq; omega), by simp at hsz; omega⟩
  unfold OwnsI
  rw [List.take_succ_eq_append_getElem hs, List.length_append, iv_app, List.length_take, Nat.min_eq_left (by omega)]
  exact hown
theorem grown_undrew {w w' : World} {row : Option Nat} (h : w.drew.grownBy w' row) : w.grownBy w' row := ⟨h.os, h.tape, h.output, h.size, h.block⟩
theorem one_newD (w : World) (v : Value) (t : TypeId) : ∀ j u, [v][j]? = some u → (w.alloc (.cells #[v] t)).drew.cell? ((⟨w.heap.size, 0, none⟩ : Addr).add j) = some u := one_new w v t
set_option maxRecDepth 100000 in
set_option maxHeartbeats 12800000 in
theorem l04Maps_any (nv : Value) (nx : List (List Int)) (st : Int) (pg : Nat) (gs : List Rl) (w : World) (h1 : 1 ≤ st) (h24 : st ≤ 24) (hrow : nx.all (rowOk st) = true) (hlen : (nx.length : Int) = st) (hN : IsLL w nv nx) (hfit : fits gs = true) (hn : gs.length ≤ 400) (hg : GP w pg gs) :
    Calls Try.prog 95 #[nv, .pointer (some ⟨pg, 0, none⟩)] w fun e w' => ∃ y U, e = .returned y ∧ OwnM w' w.heap.size y U (mapsN nx gs nx.length gs.length) ∧ Below w.heap.size w w' := by
  obtain ⟨i0, hi, hz0, hz1, hz2⟩ := info_parts Try.info_ints
  obtain ⟨j0, hj, hy0, hy1, hy2⟩ := info_parts Try.info_int64
  obtain ⟨gv, hgv, hR⟩ := hg
  obtain ⟨A, c, rfl, hin⟩ := hN
  have HI := Lib.hid hin
  obtain ⟨Av, cv, rfl, hrc⟩ := hR
  have HRC := Lib.hid hrc
  have HGV := Lib.hid hgv
  have HROW := Lib.hid hrow
  have HLEN := Lib.hid hlen
  have HFIT := Lib.hid hfit
  obtain ⟨N, hNe⟩ : ∃ N, N = nx.length := ⟨_, rfl⟩
  obtain ⟨n, hne⟩ : ∃ n, n = gs.length := ⟨_, rfl⟩
  have hNst : (N : Int) = st := by omega
  have hN24 : N ≤ 24 := by omega
  rw [← hNe, ← hne]
  rw [← hne] at hn hgv
  have HN := Lib.hid hNe
  have HNE := Lib.hid hne
  have HNST := Lib.hid hNst
  have HS := Lib.hid (MSt.start w _ rfl)
  clear hin hrc hrow hlen hfit hNe hne hNst
  go_enter Try.func95, Try.ntmps95
  go_wp2_with fail
  go_loopw [5, 6] (fun y i wr => ∃ k : Nat, k ≤ n ∧ i = .int .i64 k ∧ MSt w (mapsN nx gs N k) y wr) (fun _ i _ => n - (intOf i).toNat)
  case atStart => exact ⟨0, Nat.zero_le _, rfl, HS.out⟩
  case round =>
    obtain ⟨k, hk, rfl, hst⟩ := hrel
    obtain ⟨wo, rfl⟩ : ∃ wo : World, wo = wr := ⟨_, rfl⟩
    obtain ⟨U, hm, hB⟩ := hst
    have HM := Lib.hid (And.intro hm hB)
    have hlenU := hm.len
    rw [mapsN_len] at hlenU
    obtain ⟨Ay, cy, hAy⟩ := own_slice hm.outer
    rw [hlenU] at hAy
    subst hAy
    have HLU := Lib.hid hlenU
    have hgo := (hB.cell (lt_of_cell HGV.out)).trans HGV.out
    rw [← HNE.out] at hgo
    clear hgv hlenU
    by_cases hkn : k < n
    · have hkg : k < gs.length := by rw [← HNE.out]; exact hkn
      obtain ⟨row, hrw⟩ : ∃ row, row = rowM nx (mapsK nx gs k) gs[k] := ⟨_, rfl⟩
      have hnx : mapsN nx gs N (k + 1) = mapsN nx gs N k ++ [row.take N] := by
        unfold mapsN
        rw [mapsK, List.map_append, List.getD_eq_getElem?_getD, List.getElem?_eq_getElem hkg, hrw]
        rfl
      have hok := mapsK_ok HROW.out HLEN.out h1 h24 HFIT.out k (by omega)
      have hok1 := mapsK_ok HROW.out HLEN.out h1 h24 HFIT.out (k + 1) (by omega) k (by omega)
      rw [mapsK_last, List.getD_eq_getElem?_getD, List.getElem?_eq_getElem hkg, Option.getD_some, ← hrw] at hok1
      have hr24 := hok1.1
      have HNX := Lib.hid hnx
      have HSTB : Hid (InS w (.slice Ay k cy) U (mapsN nx gs N k) wo.heap.size row 0 (.slice (some ⟨wo.heap.size, 0, none⟩) 0 0) (wo.alloc (.cells #[] 2))) := Lib.hid
        ⟨hm.kept ((Below.refl _ wo).alloc (Nat.le_refl _) _), World.ownsRow_lit (base := wo.heap.size) (e := 2) (size := 1) wo #[] 0 (Nat.le_refl _) (by decide) rfl, hB.alloc hB.size _, by simp⟩
      have HUB := Lib.hid (fun u hu q (hq : u.ownBlock = some q) => (hm.rows.ge u hu q hq).2)
      have HYB := Lib.hid (fun q (hq : (Value.slice Ay k cy).ownBlock = some q) => (hm.outer.lt q hq).2)
      have HWB := Lib.hid hB.size
      obtain ⟨B, hBe⟩ : ∃ B, B = wo.heap.size := ⟨_, rfl⟩
      clear hm hB
      go_wp2_with fail
      rw [← hBe] at HSTB HUB HYB HWB ⊢
      have HBE := Lib.hid hBe
      clear hBe hgo hnx
      go_loopw [7, 8, 9] (fun tv i _ wr => ∃ s : Nat, s ≤ N ∧ i = .int .i64 s ∧ InS w (.slice Ay k cy) U (mapsN nx gs N k) B row s tv wr) (fun _ i _ _ => N - (intOf i).toNat)
      case atStart => exact ⟨0, Nat.zero_le _, rfl, HSTB.out⟩
      case round =>
        obtain ⟨s, hs, rfl, hst⟩ := hrel
        obtain ⟨wu, rfl⟩ : ∃ wu : World, wu = wr := ⟨_, rfl⟩
        by_cases hsN : s < N
        · have hsx : s < nx.length := by rw [← HN.out]; exact hsN
          have hs24 : s < row.length := by omega
          have HSR := Lib.hid hs24
          have hgu := (hst.2.2.1.cell (lt_of_cell HGV.out)).trans HGV.out
          rw [← HNE.out] at hgu
          rcases HRC.out with hn0 | ⟨g, rfl, hg, hc⟩
          · rw [hn0] at hkg; simp at hkg
          obtain ⟨a0, a1, a2⟩ := rules_cells hc hkg
          rw [← hst.2.2.1.cell (p := ⟨g, k * 3, none⟩) hg] at a0
          rw [← hst.2.2.1.cell (p := ⟨g, k * 3 + 1, none⟩) hg] at a1
          rw [← hst.2.2.1.cell (p := ⟨g, k * 3 + 2, none⟩) hg] at a2
          have hfk := fits_at HFIT.out k hkg
          have k0 : (0 : Int) ≤ (k : Int) := by omega
          have k1 : (k : Int) < (n : Int) := by omega
          have s0 : (0 : Int) ≤ (s : Int) := by omega
          have s1 : (s : Int) < (N : Int) := by omega
          have HIS := Lib.hid hst
          obtain ⟨z, hz⟩ : ∃ z, z = row[s] := ⟨_, rfl⟩
          have HZ := Lib.hid hz.symm
          obtain ⟨A3, c3, hA3⟩ := own_slice hst.2.1
          rw [List.length_take, Nat.min_eq_left (by omega)] at hA3
          subst hA3
          have hTB := Lib.hid (fun q (hq : (Value.slice A3 s c3).ownBlock = some q) => hst.2.1.lt q hq)
          have hgB : g < w.heap.size := hg
          clear hc
          by_cases h0 : gs[k].L.size = 0
          · have hp := (ok_pair h0).1 hfk
            have he := empty_arr h0
            have hrw2 : row = thenRow ((mapsK nx gs k).getD gs[k].l.toNat []) ((mapsK nx gs k).getD gs[k].r.toNat []) := by rw [hrw]; unfold rowM; rw [if_pos h0]
            rw [he] at a0
            generalize gs[k] = R at *
            obtain ⟨L, l, r⟩ := R
            simp only at hp he a1 a2 hrw2
            subst he
            obtain ⟨a, rfl⟩ : ∃ a : Nat, l = a := ⟨l.toNat, by omega⟩
            obtain ⟨b, rfl⟩ : ∃ b : Nat, r = b := ⟨r.toNat, by omega⟩
            rw [Int.toNat_natCast, Int.toNat_natCast] at hrw2
            have ha : a < k := by omega
            have hb : b < k := by omega
            have hoa := hok a ha
            have hob := hok b hb
            have hga := mapsN_get (nx := nx) (gs := gs) (N := N) ha
            have hgb := mapsN_get (nx := nx) (gs := gs) (N := N) hb
            generalize (mapsK nx gs k).getD a [] = ma at *
            generalize (mapsK nx gs k).getD b [] = mb at *
            have hqm := hoa.2 _ (List.getElem_mem (show s < ma.length by rw [hoa.1]; omega))
            obtain ⟨q, hq⟩ : ∃ q : Nat, ma[s]'(by rw [hoa.1]; omega) = q := ⟨(ma[s]'(by rw [hoa.1]; omega)).toNat, by omega⟩
            have hqN : q < N := by have := HNST.out; omega
            have hzz : z = mb.getD q 0 := by
              have hzd : z = row.getD s 0 := by rw [hz, List.getD_eq_getElem?_getD, List.getElem?_eq_getElem hs24]; rfl
              rw [hzd, hrw2]
              unfold thenRow
              rw [List.getD_eq_getElem?_getD, List.getElem?_map, List.getElem?_eq_getElem (by rw [hoa.1]; omega), hq]
              simp only [Option.map_some, Option.getD_some, Int.toNat_natCast]
            have hb7 := (Below.refl _ wu).alloc (Nat.le_refl _) (.cells #[.string ⟨#[]⟩, .int .i64 a, .int .i64 b] 127)
            have HI7 := Lib.hid (hst.kept hb7)
            have hM7 := HI7.out.1
            have hK7 := heap_alloc_new wu (.cells #[.string ⟨#[]⟩, .int .i64 a, .int .i64 b] 127)
            have kc1 := cell_of_row _ _ 1 _ _ _ hK7
            have kc2 := cell_of_row _ _ 2 _ _ _ hK7
            have hKl : wu.heap.size < (wu.alloc (.cells #[.string ⟨#[]⟩, .int .i64 a, .int .i64 b] 127)).heap.size := by simp
            have hUl := HLU.out
            obtain ⟨gy, hgy, hgy1⟩ : ∃ gy, Ay = some ⟨gy, 0, none⟩ ∧ gy < B := by
              rcases hM7.shape with ⟨_, h0⟩ | ⟨gy, c', hv, _, _⟩
              · rw [h0] at hUl; simp at hUl; omega
              · injection hv with hv
                exact ⟨gy, hv, HYB.out gy (by rw [hv]; rfl)⟩
            subst hgy
            have cA : (wu.alloc (.cells #[.string ⟨#[]⟩, .int .i64 a, .int .i64 b] 127)).cell? ⟨gy, a, none⟩ = U[a]? := by
              have := hM7.outer
              rw [hUl] at this
              exact this.cellAt a (by omega)
            have cB : (wu.alloc (.cells #[.string ⟨#[]⟩, .int .i64 a, .int .i64 b] 127)).cell? ⟨gy, b, none⟩ = U[b]? := by
              have := hM7.outer
              rw [hUl] at this
              exact this.cellAt b (by omega)
            have hoA := hM7.rows.row a _ _ (List.getElem?_eq_getElem (by omega)) hga
            have hoB := hM7.rows.row b _ _ (List.getElem?_eq_getElem (by omega)) hgb
            rw [List.getElem?_eq_getElem (by omega)] at cA cB
            have mA := HUB.out _ (List.getElem_mem (show a < U.length by omega))
            have mB := HUB.out _ (List.getElem_mem (show b < U.length by omega))
            have lA : (ma.take N).length = N := by rw [List.length_take, hoa.1]; omega
            have lB : (mb.take N).length = N := by rw [List.length_take, hob.1]; omega
            generalize U[a]'(by omega) = ua at *
            generalize U[b]'(by omega) = ub at *
            obtain ⟨ga, ca, rfl⟩ : ∃ ga ca, ua = .slice (some ⟨ga, 0, none⟩) N ca := by
              rcases hoA.shape with ⟨_, h0⟩ | ⟨ga, ca, hv, _⟩
              · rw [h0] at lA; simp at lA; omega
              · exact ⟨ga, ca, by rw [hv, lA]⟩
            obtain ⟨gb, cb, rfl⟩ : ∃ gb cb, ub = .slice (some ⟨gb, 0, none⟩) N cb := by
              rcases hoB.shape with ⟨_, h0⟩ | ⟨gb, cb, hv, _⟩
              · rw [h0] at lB; simp at lB; omega
              · exact ⟨gb, cb, by rw [hv, lB]⟩
            have dA : (wu.alloc (.cells #[.string ⟨#[]⟩, .int .i64 a, .int .i64 b] 127)).cell? ⟨ga, s, none⟩ = some (.int .i64 (q : Int)) := by
              have h' := hoA
              unfold OwnsI at h'
              rw [lA] at h'
              rw [h'.cellAt s (by omega), iv_get _ s (by rw [lA]; omega), List.getElem_take, hq]
            have dB : (wu.alloc (.cells #[.string ⟨#[]⟩, .int .i64 a, .int .i64 b] 127)).cell? ⟨gb, q, none⟩ = some (.int .i64 z) := by
              have h' := hoB
              unfold OwnsI at h'
              rw [lB] at h'
              rw [h'.cellAt q (by omega), iv_get _ q (by rw [lB]; omega), List.getElem_take, hzz, List.getD_eq_getElem?_getD, List.getElem?_eq_getElem (by rw [hob.1]; omega)]
              rfl
            have gaB := mA ga rfl
            have gbB := mB gb rfl
            have a0' : (0 : Int) ≤ (a : Int) := by omega
            have a1' : (a : Int) < (k : Int) := by omega
            have b0' : (0 : Int) ≤ (b : Int) := by omega
            have b1' : (b : Int) < (k : Int) := by omega
            have q0' : (0 : Int) ≤ (q : Int) := by omega
            have q1' : (q : Int) < (N : Int) := by omega
            have hws : w.heap.size ≤ wu.heap.size := hst.2.2.1.size
            have hBu : B ≤ wu.heap.size := hst.2.2.2
            clear h0 hfk hok hok1 hrw hrw2 hr24 hst hz hb7 hoa hob hga hgb hqm hq hzz hM7 hoA hoB mA mB lA lB hp hUl
            go_upto_region 12 with fail
            obtain ⟨Kp, hKp⟩ : ∃ Kp, Kp = wu.heap.size := ⟨_, rfl⟩
            have hTK : Hid ((Value.slice A3 s c3).ownBlock ≠ some Kp) := Lib.hid (fun e => by have := (hTB.out Kp e).2; omega)
            rw [← hKp] at hK7 kc1 kc2 hKl ⊢
            generalize wu.alloc (.cells #[.string ⟨#[]⟩, .int .i64 a, .int .i64 b] 127) = w7 at *
            have kc1 : w7.cell? ⟨Kp, 1, none⟩ = some (.int .i64 (a : Int)) := kc1
            have kc2 : w7.cell? ⟨Kp, 2, none⟩ = some (.int .i64 (b : Int)) := kc2
            have HO7 : Hid (w7.ownsRow B 2 1 (.slice A3 s c3) s (iv (row.take s))) := Lib.hid (by
              have := HI7.out.2.1
              unfold OwnsI at this
              rw [List.length_take, Nat.min_eq_left (by omega)] at this
              exact this)
            have hB7 : B ≤ w7.heap.size := HI7.out.2.2.2
            have HTY : Hid (∀ g', g' < B → (Value.slice A3 s c3).ownBlock ≠ some g') := Lib.hid (fun g' hg' e => by have h1 := (hTB.out _ e).1; omega)
            have HF := Lib.hid (And.intro kc1 (And.intro kc2 (And.intro cA (And.intro cB (And.intro dA dB)))))
            clear hKp hK7
            go_region_held3 (fun w' => w'.cell? ⟨Kp, 1, none⟩ = some (.int .i64 (a : Int)) ∧ w'.cell? ⟨Kp, 2, none⟩ = some (.int .i64 (b : Int)) ∧ w'.cell? ⟨gy, a, none⟩ = some (.slice (some ⟨ga, 0, none⟩) N ca) ∧ w'.cell? ⟨gy, b, none⟩ = some (.slice (some ⟨gb, 0, none⟩) N cb) ∧ w'.cell? ⟨ga, s, none⟩ = some (.int .i64 (q : Int)) ∧ w'.cell? ⟨gb, q, none⟩ = some (.int .i64 z))
              (first | go_keep | exact HS8.out)
              (first
                | (refine step_append_lies _ (by rfl) _ _ 22 (by rfl) B 2 j0 (.int .i64 0) 1 8 Try.underlying22 hj hy0 hy1 hy2 (by rfl) (by decide) (.slice A3 s c3) s (iv (row.take s)) (by rfl) ?_ ⟨w7.heap.size, 0, none⟩ 1 1 [.int .i64 z] (by rfl) (by rfl) ?_ (one_int _ _) (by decide) ?_ ?_ ?_ (w7.heap.size + 1) ?_ ?_
                   exact own_drewN (World.ownsRow.alloc HO7.out _) 1
                   exact one_newD w7 _ _
                   (unfold maxLen; omega)
                   omega
                   (simp; omega)
                   simp
                   intro g8 c8 w8 hown' hgrow _ _
                   have hG := grown_undrew hgrow
                   have hz9 : w8.ownsRow B 2 1 (.slice (some ⟨g8, 0, none⟩) (s + 1) c8) (s + 1) (iv (row.take s) ++ [.int .i64 (row[s]'HSR.out)]) := by have ez : row[s]'HSR.out = z := HZ.out; rw [ez]; exact hown'
                   have h1 := InS.append HI7.out HWB.out HUB.out HYB.out HSR.out hz9 hG
                   have HN8 := Lib.hid (h1)
                   have HK8 : Hid (∀ p : Addr, p.block < w7.heap.size → (Value.slice A3 s c3).ownBlock ≠ some p.block → w8.cell? p = w7.cell? p) := Lib.hid (fun p hp hne => World.cell?_of_block ((hgrow.block p.block (by simp; omega) (fun e => hne e.symm)).trans (((Below.refl _ w7).alloc (Nat.le_refl _) _).block p.block (by simpa using hp))))
                   clear hG h1 hz9 hown' hgrow
                   have HS8 : Hid (w8.cell? ⟨Kp, 1, none⟩ = some (.int .i64 (a : Int)) ∧ w8.cell? ⟨Kp, 2, none⟩ = some (.int .i64 (b : Int)) ∧ w8.cell? ⟨gy, a, none⟩ = some (.slice (some ⟨ga, 0, none⟩) N ca) ∧ w8.cell? ⟨gy, b, none⟩ = some (.slice (some ⟨gb, 0, none⟩) N cb) ∧ w8.cell? ⟨ga, s, none⟩ = some (.int .i64 (q : Int)) ∧ w8.cell? ⟨gb, q, none⟩ = some (.int .i64 z)) := Lib.hid
                     ⟨(HK8.out ⟨Kp, 1, none⟩ hKl hTK.out).trans HF.out.1, (HK8.out ⟨Kp, 2, none⟩ hKl hTK.out).trans HF.out.2.1, (HK8.out ⟨gy, a, none⟩ (by simp only; omega) (HTY.out _ hgy1)).trans HF.out.2.2.1, (HK8.out ⟨gy, b, none⟩ (by simp only; omega) (HTY.out _ hgy1)).trans HF.out.2.2.2.1, (HK8.out ⟨ga, s, none⟩ (by simp only; omega) (HTY.out _ gaB)).trans HF.out.2.2.2.2.1, (HK8.out ⟨gb, q, none⟩ (by simp only; omega) (HTY.out _ gbB)).trans HF.out.2.2.2.2.2⟩))
            all_goals
              go_wp2_with fail
              go_roundw
              all_goals first | exact ⟨s + 1, by omega, by go_num, HN8.out⟩ | ((repeat apply Exists.intro); exact ⟨⟨s + 1, by omega, by go_num, HN8.out⟩, rfl⟩) | (simp [intOf]; done) | (simp [intOf]; omega) | omega
          · obtain ⟨b, hL, hb1, hb2, hno⟩ := letter_byte h0 hfk
            have he := full_list h0
            obtain ⟨d, hd⟩ : ∃ d : Nat, d = b.toNat - 97 := ⟨_, rfl⟩
            have hd1 : b.toNat = 97 + d := by omega
            have hd4 : d < 4 := by omega
            have hzz : z = (nx.getD s []).getD d 0 := by
              have hzd : z = row.getD s 0 := by rw [hz, List.getD_eq_getElem?_getD, List.getElem?_eq_getElem hs24]; rfl
              rw [hzd, hrw]
              unfold rowM
              rw [if_neg h0, hno, ← hd]
              unfold stepsRow
              rw [List.getD_eq_getElem?_getD, List.getElem?_map, List.getElem?_range (by omega)]
              rfl
            rcases HI.out with hn0 | ⟨x, rfl, hcx⟩
            · rw [hn0] at hsx; simp at hsx
            obtain ⟨u, c0, hu⟩ := hcx s hsx
            obtain ⟨hr4, _⟩ := row_facts HROW.out hsx
            obtain ⟨A2, c2, rfl, hcy⟩ := hu
            rw [hr4] at c0
            rcases hcy with hn0 | ⟨y2, rfl, hzc⟩
            · rw [hn0] at hr4; simp at hr4
            have d0 := hzc d (by omega)
            rw [show nx[s][d] = z from by rw [hzz, List.getD_eq_getElem?_getD (l := nx), List.getElem?_eq_getElem hsx, Option.getD_some, List.getD_eq_getElem?_getD, List.getElem?_eq_getElem (by omega), Option.getD_some]] at d0
            have lx : (x.add s).block < w.heap.size := lt_of_cell c0
            have ly : (y2.add d).block < w.heap.size := lt_of_cell d0
            have e0 := (hst.2.2.1.cell lx).trans c0
            have e1 := (hst.2.2.1.cell ly).trans d0
            rw [hL] at a0 he
            have HLT : Hid (∀ W, Calls Try.prog 160 #[.int .u8 ((((⟨#[b]⟩ : ByteArray)[0]'(Nat.zero_lt_one)).toNat : Nat) : Int)] W fun e w' => e = .returned (.int .i64 (d : Int)) ∧ w' = W) := Lib.hid (fun W => by
              show Calls Try.prog 160 #[.int .u8 ((b.toNat : Nat) : Int)] W _
              rw [hd1]
              exact letterN_any d hd4 W)
            have dd0 : (0 : Int) ≤ (d : Int) := by omega
            have dd1 : (d : Int) < 4 := by omega
            have hws : w.heap.size ≤ wu.heap.size := hst.2.2.1.size
            generalize gs[k] = R at *
            obtain ⟨L, l, r⟩ := R
            simp only at hL a1 a2
            subst hL
            have hb7 := (Below.refl _ wu).alloc (Nat.le_refl _) (.cells #[.string ⟨#[b]⟩, .int .i64 l, .int .i64 r] 127)
            have HI7 := Lib.hid (hst.kept hb7)
            have hK7 := heap_alloc_new wu (.cells #[.string ⟨#[b]⟩, .int .i64 l, .int .i64 r] 127)
            have kc := cell_of_row _ _ 0 _ _ _ hK7
            have f0 := (hb7.cell (p := x.add s) (by omega)).trans e0
            have f1 := (hb7.cell (p := y2.add d) (by omega)).trans e1
            have hKl : wu.heap.size < (wu.alloc (.cells #[.string ⟨#[b]⟩, .int .i64 l, .int .i64 r] 127)).heap.size := by simp
            clear h0 hfk hno hd hd1 hd4 hzz hcx c0 hr4 hzc d0 e0 e1 hok hok1 hrw hr24 hb1 hb2 hst hz hb7
            go_upto_region 11 with fail
            obtain ⟨Kp, hKp⟩ : ∃ Kp, Kp = wu.heap.size := ⟨_, rfl⟩
            have hTK : Hid ((Value.slice A3 s c3).ownBlock ≠ some Kp) := Lib.hid (fun e => by have := (hTB.out Kp e).2; omega)
            rw [← hKp] at hK7 kc hKl ⊢
            generalize wu.alloc (.cells #[.string ⟨#[b]⟩, .int .i64 l, .int .i64 r] 127) = w7 at *
            have kc : w7.cell? ⟨Kp, 0, none⟩ = some (.string ⟨#[b]⟩) := kc
            have HO7 : Hid (w7.ownsRow B 2 1 (.slice A3 s c3) s (iv (row.take s))) := Lib.hid (by
              have := HI7.out.2.1
              unfold OwnsI at this
              rw [List.length_take, Nat.min_eq_left (by omega)] at this
              exact this)
            have HBS := Lib.hid HI7.out.2.2.2
            have hB7 : B ≤ w7.heap.size := HI7.out.2.2.2
            have HTX : Hid ((Value.slice A3 s c3).ownBlock ≠ some (x.add s).block) := Lib.hid (fun e => by have h1 := (hTB.out _ e).1; have h2 := HWB.out; omega)
            have HTY : Hid ((Value.slice A3 s c3).ownBlock ≠ some (y2.add d).block) := Lib.hid (fun e => by have h1 := (hTB.out _ e).1; have h2 := HWB.out; omega)
            have HF0 := Lib.hid f0
            have HF1 := Lib.hid f1
            have HKC := Lib.hid kc
            have hwK : w.heap.size ≤ Kp := by omega
            clear hKp hK7
            go_region_held3 (fun w' => w'.cell? (x.add s) = some (.slice (some y2) 4 c2) ∧ w'.cell? (y2.add d) = some (.int .i64 z) ∧ w'.cell? ⟨Kp, 0, none⟩ = some (.string ⟨#[b]⟩))
              (first | go_keep | exact HS8.out)
              (first
                | (go_at_call 160
                   refine (HLT.out _).mono ?_
                   rintro e w9 ⟨rfl, rfl⟩)
                | (refine step_append_lies _ (by rfl) _ _ 22 (by rfl) B 2 j0 (.int .i64 0) 1 8 Try.underlying22 hj hy0 hy1 hy2 (by rfl) (by decide) (.slice A3 s c3) s (iv (row.take s)) (by rfl) ?_ ⟨w7.heap.size, 0, none⟩ 1 1 [.int .i64 z] (by rfl) (by rfl) ?_ (one_int _ _) (by decide) ?_ ?_ ?_ (w7.heap.size + 1) ?_ ?_
                   exact own_drewN (World.ownsRow.alloc HO7.out _) 1
                   exact one_newD w7 _ _
                   (unfold maxLen; omega)
                   omega
                   (simp; omega)
                   simp
                   intro g8 c8 w8 hown' hgrow _ _
                   have hG := grown_undrew hgrow
                   have hz9 : w8.ownsRow B 2 1 (.slice (some ⟨g8, 0, none⟩) (s + 1) c8) (s + 1) (iv (row.take s) ++ [.int .i64 (row[s]'HSR.out)]) := by have ez : row[s]'HSR.out = z := HZ.out; rw [ez]; exact hown'
                   have h1 := InS.append HI7.out HWB.out HUB.out HYB.out HSR.out hz9 hG
                   have HN8 := Lib.hid (h1)
                   have HK8 : Hid (∀ p : Addr, p.block < w7.heap.size → (Value.slice A3 s c3).ownBlock ≠ some p.block → w8.cell? p = w7.cell? p) := Lib.hid (fun p hp hne => World.cell?_of_block ((hgrow.block p.block (by simp; omega) (fun e => hne e.symm)).trans (((Below.refl _ w7).alloc (Nat.le_refl _) _).block p.block (by simpa using hp))))
                   clear hG h1 hz9 hown' hgrow
                   have HS8 : Hid (w8.cell? (x.add s) = some (.slice (some y2) 4 c2) ∧ w8.cell? (y2.add d) = some (.int .i64 z) ∧ w8.cell? ⟨Kp, 0, none⟩ = some (.string ⟨#[b]⟩)) := Lib.hid ⟨(HK8.out (x.add s) (by omega) HTX.out).trans HF0.out, (HK8.out (y2.add d) (by omega) HTY.out).trans HF1.out, (HK8.out ⟨Kp, 0, none⟩ hKl hTK.out).trans HKC.out⟩))
            all_goals
              go_wp2_with fail
              go_roundw
              all_goals first | exact ⟨s + 1, by omega, by go_num, HN8.out⟩ | ((repeat apply Exists.intro); exact ⟨⟨s + 1, by omega, by go_num, HN8.out⟩, rfl⟩) | (simp [intOf]; done) | (simp [intOf]; omega) | omega
        · obtain rfl : s = N := by omega
          have HIS := Lib.hid hst
          obtain ⟨A3, c3, hA3⟩ := own_slice hst.2.1
          rw [List.length_take, Nat.min_eq_left (by omega)] at hA3
          subst hA3
          have hws : w.heap.size ≤ wu.heap.size := hst.2.2.1.size
          have hFR : ∀ q ∈ U, q.ownBlock = none ∨ q.ownBlock ≠ (Value.slice A3 s c3).ownBlock := fun q hq => by
            cases e : q.ownBlock with
            | none => exact .inl rfl
            | some g => exact .inr fun e' => by have h1 := HUB.out q hq g e; have h2 := (hst.2.1.lt g e'.symm).1; omega
          have HFR := Lib.hid hFR
          have HOU : Hid (∀ o, (wu.alloc o).ownsRow w.heap.size 22 1 (.slice Ay k cy) k U) := Lib.hid (fun o => by
            have := hst.1.outer
            rw [HLU.out] at this
            exact this.alloc o)
          clear hst hok hok1 hrw hr24 hFR
          go_wp2_with (first | (at_builtin; refine wpList_append_own _ rfl _ _ 23 rfl w.heap.size 22 i0 (.slice none 0 0) 1 24 Try.underlying23 hi hz0 hz1 hz2 rfl (by decide) _ _ _ rfl (HOU.out _) ⟨wu.heap.size, 0, none⟩ 1 1 [.slice A3 s c3] rfl rfl (one_new _ _ _) (one_slice _ _ _) (by unfold maxLen; omega) (by omega) (by simp; omega) ?_))
          intro y' w6 hown hg6 _
          have HST6 : Hid (MSt w (mapsN nx gs s (k + 1)) y' w6) := Lib.hid (by
            rw [HNX.out]
            refine ⟨U ++ [.slice A3 s c3], HIS.out.1.snoc (own_lower HIS.out.2.1 HWB.out) HFR.out (by rw [HLU.out]; exact hown) hg6, ?_⟩
            exact (HIS.out.2.2.1.alloc hws _).grown hg6 (by simp; omega) (fun q hq => (HIS.out.1.outer.lt q hq).1))
          clear hown hg6
          go_wp2_with fail
          go_roundw
          all_goals first | exact ⟨k + 1, by omega, by go_num, HST6.out⟩ | ((repeat apply Exists.intro); exact ⟨⟨k + 1, by omega, by go_num, HST6.out⟩, rfl⟩) | (simp [intOf]; done) | (simp [intOf]; omega) | omega
    · obtain rfl : k = n := by omega
      clear hm hB
      go_wp2_with fail
      go_ret
      refine ⟨_, U, rfl, ?_, HM.out.2⟩
      exact HM.out.1
end Go.Proofs.Ytaffachjopjbgaa
