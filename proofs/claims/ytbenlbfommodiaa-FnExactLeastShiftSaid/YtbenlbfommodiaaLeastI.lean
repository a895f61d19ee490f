/-
  Walks: impl.LeastShift.
-/
import Derived.Test.YtbenlbfommodiaaLeast
import Derived.Test.YtbenlbfommodiaaShiftW
import Derived.Scope
import Derived.WalkMore
namespace Go.Proofs.Ytbenlbfommodiaa
open Go.RowKit Go.Shelf
open Wd
set_option linter.unusedVariables false
attribute [local go_sem] Oper.semAt_some

namespace Wd
def bf (u : ByteArray) (pre : List Nat) : Nat := pre.foldl (fun b x => if ltE (shE u x) (shE u b) = true then x else b) 0
theorem bf_snoc (u : ByteArray) (pre : List Nat) (x : Nat) : bf u (pre ++ [x]) = if ltE (shE u x) (shE u (bf u pre)) = true then x else bf u pre := by unfold bf; rw [List.foldl_append]; rfl
theorem bf_range (u : ByteArray) : ∀ m, bf u (List.range m) = bst u m
  | 0 => rfl
  | m + 1 => by rw [List.range_succ, bf_snoc, bf_range u m]; rfl
end Wd
theorem wpIn_seq_scope {n : Nat} {P : Program} {x c : Code} {Q : Exit → Act → World → Prop} {a : Act} {w : World} (h : x.wpIn Fence.wide n P (Exit.then (c.wpIn Fence.wide n P (Exit.noGoto Q)) (Exit.noGoto Q)) a w) : (x.seq (.scope c)).wpIn Fence.wide n P Q a w := by
  refine wpIn_seq (wpIn_mono h fun e a' w' hq => ?_)
  cases e with
  | normal => exact wpIn_wide.2 (wp_scope_straight (wpIn_wide.1 hq))
  | goto l => exact hq.elim
  | exit id => exact hq
  | ret => exact hq
  | panic ch => exact hq
  | outgrown => exact hq
set_option maxRecDepth 100000 in
set_option maxHeartbeats 3200000 in
theorem implLeast_ok (u : ByteArray) (w : World) (hu : okL u.data.toList = true) (bu : u.size ≤ maxLen) :
    Calls Try.prog 25 #[.string u] w fun e w' => e = .returned (.tuple #[.int .i64 (bst u u.size : Int), .int .i64 0]) ∧ Below w.heap.size w w' := by
  have hsz : u.size ≤ 2000 := by have := okL_len hu; simpa using this
  have c1 := fun W => implOk u W bu
  rw [hu] at c1
  have C1 := Lib.hid c1
  obtain ⟨R, hR⟩ : ∃ R, R = bst u u.size := ⟨_, rfl⟩
  rw [← hR]
  have HR := Lib.hid hR
  have HSO := Lib.hid (fun W => shiftsOf_any u W)
  clear c1 hu hR
  refine (callsIn_wide (n := 3)).1 ?_
  refine callsIn_of_wp_marks Try.func25 rfl trivial ?_ rfl
  simp only [Try.ntmps25, List.size_toArray, List.length_cons, List.length_nil, Nat.reduceAdd, Nat.reduceSub, Array.replicate_succ, Array.replicate_zero, List.push_toArray, List.append_toArray, List.nil_append, List.cons_append]
  refine wpIn_seq_scope ?_
  gi_wp2_with fail
  refine ⟨trivial, (callsIn_wide.2 (C1.out _)).mono ?_⟩
  rintro e w1 ⟨rfl, rfl⟩
  gi_wp2_with fail
  refine wpIn_label ?_
  gi_wp2_with fail
  refine ⟨trivial, (callsIn_wide.2 (HSO.out _)).mono ?_⟩
  rintro e w3 ⟨rfl, rfl⟩
  gi_wp2_with fail
  have hb0 : Below w.heap.size w ((((w.alloc (.cells #[.string u] 9)).alloc (.cells #[.string u] 9)).alloc (.cells #[.int .i64 0] 2)).alloc (.cells #[.string u] 9)) := ((((Below.refl _ w).alloc (Nat.le_refl _) _).alloc (by simp) _).alloc (by simp; omega) _).alloc (by simp; omega) _
  obtain ⟨W0, hW0⟩ : ∃ W0, W0 = ((((w.alloc (.cells #[.string u] 9)).alloc (.cells #[.string u] 9)).alloc (.cells #[.int .i64 0] 2)).alloc (.cells #[.string u] 9)) := ⟨_, rfl⟩
  have z0 : W0.heap.size = w.heap.size + 4 := by rw [hW0]; simp
  obtain ⟨b0, b1, b2, b3⟩ := heap4 w (.cells #[.string u] 9) (.cells #[.string u] 9) (.cells #[.int .i64 0] 2) (.cells #[.string u] 9)
  rw [← hW0] at b0 b1 b2 b3
  rw [← hW0] at hb0 ⊢
  clear hW0
  refine wpIn_rangeFunc_ownF rfl (by omega) (gf := 114) (lb := #[.pointer (some ⟨w.heap.size + 1 + 1 + 1, 0, none⟩)]) rfl trivial (enters_of Try.func114 (by kernel_rfl) rfl)
    (shifts_stops Fence.wide _ trivial rfl (by omega) (w.heap.size + 1 + 1 + 1) u W0 hsz (by omega) b3) kpB_t (kpB_b (by omega)) (Below.refl _ _) (fun _ => rfl)
    (fun pre W => ((∀ j ∈ pre, 0 < j → shE u j ≠ u) ∧ W.cell? ⟨w.heap.size, 0, none⟩ = some (.string u) ∧ W.cell? ⟨w.heap.size + 1, 0, none⟩ = some (.string (shE u (bf u pre))) ∧ W.frozen? ⟨w.heap.size + 1, 0, none⟩ = false ∧ W.cell? ⟨w.heap.size + 2, 0, none⟩ = some (.int .i64 (bf u pre : Int)) ∧ W.frozen? ⟨w.heap.size + 2, 0, none⟩ = false) ∧ Below w.heap.size w W)
    (fun c pre W => (c = .exit 0 ∧ ∃ k pre', pre = pre' ++ [k] ∧ 0 < k ∧ shE u k = u ∧ W.cell? ⟨w.heap.size + 2, 0, none⟩ = some (.int .i64 (bf u pre' : Int))) ∧ Below w.heap.size w W)
    (OwnFrom.and (Own.from (fun s A B row hs hg hr => ⟨hs.1, cell_kept hs.2.1 hg hr, cell_kept hs.2.2.1 hg hr, (frozen_kept hs.2.2.1 hg hr).trans hs.2.2.2.1, cell_kept hs.2.2.2.2.1 hg hr, (frozen_kept hs.2.2.2.2.1 hg hr).trans hs.2.2.2.2.2⟩) _) (ownFrom_below (Nat.le_refl _) (by omega)))
    (fun c => OwnFrom.and (Own.from (fun s A B row hs hg hr => by obtain ⟨hc, k, pre', h1, h2, h3, h4⟩ := hs; exact ⟨hc, k, pre', h1, h2, h3, cell_kept h4 hg hr⟩) _) (ownFrom_below (Nat.le_refl _) (by omega)))
    ⟨⟨fun j hj => by simp at hj, cell_of_row' b0, by rw [show bf u [] = 0 from rfl, shE_zero]; exact cell_of_row' b1, frozen_of_row' b1, cell_of_row' b2, frozen_of_row' b2⟩, hb0⟩
    (fun x => { tmps := #[.string u, .pointer (some ⟨w.heap.size, 0, none⟩), .int .i64 0, .int .i64 0, .pointer (some ⟨w.heap.size + 1, 0, none⟩), .pointer (some ⟨w.heap.size + 1 + 1, 0, none⟩), .int .i64 (x : Int), .string (shE u x), .string u, .bool true, .bool false, .string u, .string u, .func (.func 114) #[] #[.pointer (some ⟨w.heap.size + 1 + 1 + 1, 0, none⟩)], .int .i64 (x : Int), .string (shE u x), undef, undef, undef, undef, undef, undef, undef, undef, undef, undef, undef, undef, undef, undef, undef], defers := [] }) ?assign ?body ?done ?stop
  case assign =>
    intro l x W K hK
    gi_wp2
    exact hK
  case body =>
    rintro l pre x W ⟨⟨hall, q0, q1, g1, q2, g2⟩, hB⟩ _
    have hbf := bf_snoc u pre x
    unfold ltE at hbf
    by_cases hx : 0 < x
    · have hx' : decide ((0 : Int) < (x : Int)) = true := decide_eq_true (by omega)
      have hx'' : (0 : Int) < (x : Int) := by omega
      by_cases he : shE u x = u
      · have he' : ((shE u x).toList == u.toList) = true := by rw [eq_lists]; exact decide_eq_true he
        have HE := Lib.hid he
        clear he hbf
        gi_wp2
        exact ⟨KeepsOthers.refl _, ⟨rfl, x, pre, rfl, hx, HE.out, q2⟩, hB⟩
      · have he' : ((shE u x).toList == u.toList) = false := by rw [eq_lists]; exact decide_eq_false he
        have HA : Hid (∀ j ∈ pre ++ [x], 0 < j → shE u j ≠ u) := Lib.hid fun j hj h0 => by
          rcases List.mem_append.1 hj with h | h
          · exact hall j h h0
          · have : j = x := by simpa using h
            rw [this]; exact he
        clear he hall
        cases hq : Op.bytesLess (shE u x).toList (shE u (bf u pre)).toList
        · rw [hq, if_neg (by decide)] at hbf
          have HF := Lib.hid hbf
          clear hbf
          gi_wp2
          exact ⟨KeepsOthers.refl _, rfl, ⟨HA.out, q0, by rw [HF.out]; exact q1, g1, by rw [HF.out]; exact q2, g2⟩, hB⟩
        · rw [hq, if_pos rfl] at hbf
          have HF := Lib.hid hbf
          clear hbf
          gi_wp2
          have a1 := World.cell?_setCell_same' W ⟨w.heap.size + 1, 0, none⟩ (.string (shE u x)) (by rw [q1]; rfl)
          have a2 := World.cell?_setCell_same' (W.setCell ⟨w.heap.size + 1, 0, none⟩ (.string (shE u x))) ⟨w.heap.size + 2, 0, none⟩ (.int .i64 (x : Int)) (by rw [cell_far2 q2 (by first | (simp; done) | (simp; omega))]; rfl)
          exact ⟨(KeepsOthers.setCell _ _ _).trans (KeepsOthers.setCell _ _ _), (Below.heap_setCell _ _ _ _ (by first | (simp; done) | (simp; omega))).trans (Below.heap_setCell _ _ _ _ (by first | (simp; done) | (simp; omega))), ⟨HA.out, cell_far2 (cell_far2 q0 (by first | (simp; done) | (simp; omega))) (by first | (simp; done) | (simp; omega)), by rw [HF.out]; exact cell_far2 a1 (by first | (simp; done) | (simp; omega)), by rw [World.frozen?_setCell, World.frozen?_setCell]; exact g1, by rw [HF.out]; exact a2, by rw [World.frozen?_setCell, World.frozen?_setCell]; exact g2⟩, (hB.setCell (p := ⟨w.heap.size + 1, 0, none⟩) (by first | (simp; done) | (simp; omega)) _).setCell (p := ⟨w.heap.size + 2, 0, none⟩) (by first | (simp; done) | (simp; omega)) _⟩
    · have hx' : decide ((0 : Int) < (x : Int)) = false := decide_eq_false (by omega)
      have hx'' : ¬ (0 : Int) < (x : Int) := by omega
      have HA : Hid (∀ j ∈ pre ++ [x], 0 < j → shE u j ≠ u) := Lib.hid fun j hj h0 => by
        rcases List.mem_append.1 hj with h | h
        · exact hall j h h0
        · have : j = x := by simpa using h
          omega
      clear hall hx
      cases hq : Op.bytesLess (shE u x).toList (shE u (bf u pre)).toList
      · rw [hq, if_neg (by decide)] at hbf
        have HF := Lib.hid hbf
        clear hbf
        gi_wp2
        exact ⟨KeepsOthers.refl _, rfl, ⟨HA.out, q0, by rw [HF.out]; exact q1, g1, by rw [HF.out]; exact q2, g2⟩, hB⟩
      · rw [hq, if_pos rfl] at hbf
        have HF := Lib.hid hbf
        clear hbf
        gi_wp2
        have a1 := World.cell?_setCell_same' W ⟨w.heap.size + 1, 0, none⟩ (.string (shE u x)) (by rw [q1]; rfl)
        have a2 := World.cell?_setCell_same' (W.setCell ⟨w.heap.size + 1, 0, none⟩ (.string (shE u x))) ⟨w.heap.size + 2, 0, none⟩ (.int .i64 (x : Int)) (by rw [cell_far2 q2 (by first | (simp; done) | (simp; omega))]; rfl)
        exact ⟨(KeepsOthers.setCell _ _ _).trans (KeepsOthers.setCell _ _ _), (Below.heap_setCell _ _ _ _ (by first | (simp; done) | (simp; omega))).trans (Below.heap_setCell _ _ _ _ (by first | (simp; done) | (simp; omega))), ⟨HA.out, cell_far2 (cell_far2 q0 (by first | (simp; done) | (simp; omega))) (by first | (simp; done) | (simp; omega)), by rw [HF.out]; exact cell_far2 a1 (by first | (simp; done) | (simp; omega)), by rw [World.frozen?_setCell, World.frozen?_setCell]; exact g1, by rw [HF.out]; exact a2, by rw [World.frozen?_setCell, World.frozen?_setCell]; exact g2⟩, (hB.setCell (p := ⟨w.heap.size + 1, 0, none⟩) (by first | (simp; done) | (simp; omega)) _).setCell (p := ⟨w.heap.size + 2, 0, none⟩) (by first | (simp; done) | (simp; omega)) _⟩
  case done =>
    rintro D xs W hD rfl ⟨⟨hall, q0, q1, g1, q2, g2⟩, hB⟩ hK
    have hR : bf u (List.range (max 1 u.size)) = R := by
      rw [bf_range, HR.out]
      by_cases e : u.size = 0
      · rw [e]; have h1 := bst_le u (max 1 0); have h2 := bst_le u 0; omega
      · congr 1; omega
    rw [hR] at q2
    clear hall hR q1
    gi_wp2
    refine ⟨by simp, .inl ⟨_, _, rfl, run_takeDeferred hK, ?_⟩⟩
    have hB' := hB.trans (belowK_b (w := w) (Nat.le_refl _) W D _ (.deferred none) (by omega) hK rfl rfl)
    refine ⟨.tuple #[.int .i64 (R : Int), .int .i64 0], ?_, rfl, hB'⟩
    simp [results, Try.f25, go_sem]
  case stop =>
    rintro D c pre W hD ⟨m, hm, rfl⟩ ⟨⟨rfl, k, pre', h1, h2, h3, q2⟩, hB⟩ hK
    rw [List.range_succ] at h1
    obtain ⟨e1, e2⟩ := List.append_inj' h1 rfl
    have e3 : m = k := by simpa using e2
    subst e3
    have hR : bf u pre' = R := by
      rw [← e1, bf_range, HR.out]
      exact (bst_stop u m h2 h3 u.size (by omega) (Nat.le_refl _)).symm
    rw [hR] at q2
    clear h1 h2 h3 e1 e2 hR
    gi_wp2
    refine ⟨by simp, .inl ⟨_, _, rfl, run_takeDeferred hK, ?_⟩⟩
    have hB' := hB.trans (belowK_b (w := w) (Nat.le_refl _) W D _ (.deferred none) (by omega) hK rfl rfl)
    refine ⟨.tuple #[.int .i64 (R : Int), .int .i64 0], ?_, rfl, hB'⟩
    simp [results, Try.f25, go_sem]

set_option maxRecDepth 100000 in
theorem implLeast_bad (u : ByteArray) (w : World) (hu : okL u.data.toList = false) (bu : u.size ≤ maxLen) :
    Calls Try.prog 25 #[.string u] w fun e w' => e = .returned (.tuple #[.int .i64 0, .int .i64 1]) ∧ Below w.heap.size w w' := by
  have c1 := fun W => implOk u W bu
  rw [hu] at c1
  have C1 := Lib.hid c1
  clear c1 hu
  refine (callsIn_wide (n := 3)).1 ?_
  refine callsIn_of_wp Try.func25 rfl trivial ?_ rfl
  simp only [Try.ntmps25, List.size_toArray, List.length_cons, List.length_nil, Nat.reduceAdd, Nat.reduceSub, Array.replicate_succ, Array.replicate_zero, List.push_toArray, List.append_toArray, List.nil_append, List.cons_append]
  refine wpIn_seq_scope ?_
  gi_wp2_with fail
  refine ⟨trivial, (callsIn_wide.2 (C1.out _)).mono ?_⟩
  rintro e w1 ⟨rfl, rfl⟩
  gi_wp2_with fail
  rw [Exit.noGoto_ret]
  refine bodyPost_ret (v := .tuple #[.int .i64 0, .int .i64 1]) (by simp [results, Try.results25, go_sem]) rfl ⟨rfl, (Below.refl _ w).alloc (Nat.le_refl _) _⟩
theorem implLeastShift (u : ByteArray) (w : World) (bu : u.size ≤ maxLen) :
    Calls Try.prog 25 #[.string u] w fun e w' => e = .returned (.tuple #[.int .i64 (intsLeastShift u).1, .int .i64 (intsLeastShift u).2]) ∧ Below w.heap.size w w' := by
  unfold intsLeastShift
  cases h : okL u.data.toList
  · rw [if_neg (by decide)]
    exact implLeast_bad u w h bu
  · rw [if_pos rfl]
    exact implLeast_ok u w h bu
end Go.Proofs.Ytbenlbfommodiaa
