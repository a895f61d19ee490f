/-
  Walks: impl.ShiftTo.
-/
import Derived.Test.YtbenlbfommodiaaShiftI
namespace Go.Proofs.Ytbenlbfommodiaa
open Go.RowKit Go.Shelf
open Wd
set_option linter.unusedVariables false
attribute [local go_sem] Oper.semAt_some

theorem cell_of_row' {w : World} {b : Nat} {u : Value} {t : TypeId} (h : w.heap[b]? = some (.cells #[u] t (0, 0))) : w.cell? ⟨b, 0, none⟩ = some u := by rw [cell_of_row _ _ _ _ _ _ h]; rfl
theorem frozen_of_row' {w : World} {b : Nat} {u : Value} {t : TypeId} (h : w.heap[b]? = some (.cells #[u] t (0, 0))) : w.frozen? ⟨b, 0, none⟩ = false := by simp [World.frozen?, h]
theorem cell_far2 {w : World} {p q : Addr} {u v : Value} (h : w.cell? q = some v) (hne : q.block ≠ p.block) : (w.setCell p u).cell? q = some v :=
  (World.cell?_of_block (a := q) (Below.heap_setCell w p u q.block hne)).trans h
theorem heap4 (w : World) (a b c d : Obj) : ((((w.alloc a).alloc b).alloc c).alloc d).heap[w.heap.size]? = some a ∧ ((((w.alloc a).alloc b).alloc c).alloc d).heap[w.heap.size + 1]? = some b ∧ ((((w.alloc a).alloc b).alloc c).alloc d).heap[w.heap.size + 2]? = some c ∧ ((((w.alloc a).alloc b).alloc c).alloc d).heap[w.heap.size + 3]? = some d := by
  have k := fun (W : World) (o : Obj) (i : Nat) (h : i < W.heap.size) => ((Below.refl _ W).alloc (Nat.le_refl _) o).block i h
  have n1 := heap_alloc_new w a
  have n2 := heap_alloc_new (w.alloc a) b
  have n3 := heap_alloc_new ((w.alloc a).alloc b) c
  have n4 := heap_alloc_new (((w.alloc a).alloc b).alloc c) d
  simp only [World.size_alloc] at n2 n3 n4
  refine ⟨?_, ?_, ?_, n4⟩
  · rw [k _ d _ (by simp; omega), k _ c _ (by simp; omega), k _ b _ (by simp)]; exact n1
  · rw [k _ d _ (by simp), k _ c _ (by simp)]; exact n2
  · rw [k _ d _ (by simp)]; exact n3
set_option maxRecDepth 100000 in
set_option maxHeartbeats 3200000 in
theorem implShiftTo_ok (u v : ByteArray) (w : World) (hu : okL u.data.toList = true) (hv : okL v.data.toList = true) (bu : u.size ≤ maxLen) (bv : v.size ≤ maxLen) :
    Calls Try.prog 27 #[.string u, .string v] w fun e w' => e = .returned (.tuple #[.int .i64 (intsShiftTo u v).1, .int .i64 (intsShiftTo u v).2]) ∧ Below w.heap.size w w' := by
  have hsz : u.size ≤ 2000 := by have := okL_len hu; simpa using this
  have c1 := fun W => implOk u W bu
  have c2 := fun W => implOk v W bv
  unfold intsShiftTo
  rw [hu, hv]
  rw [hu] at c1
  rw [hv] at c2
  have C1 := Lib.hid c1
  have C2 := Lib.hid c2
  clear c1 c2 hu hv
  simp only [Bool.and_self, if_true]
  obtain ⟨r, hr⟩ : ∃ r : Int × Int, r = shAns (shTo u v) := ⟨_, rfl⟩
  rw [← hr]
  have HR := Lib.hid hr
  have HSO := Lib.hid (fun W => shiftsOf_any u W)
  clear hr
  refine (callsIn_wide (n := 3)).1 ?_
  refine callsIn_of_wp_marks Try.func27 rfl trivial ?_ rfl
  simp only [Try.ntmps27, List.size_toArray, List.length_cons, List.length_nil, Nat.reduceAdd, Nat.reduceSub, Array.replicate_succ, Array.replicate_zero, List.push_toArray, List.append_toArray, List.nil_append, List.cons_append]
  gi_wp2_with fail
  refine ⟨trivial, (callsIn_wide.2 (C1.out _)).mono ?_⟩
  rintro e w1 ⟨rfl, rfl⟩
  gi_wp2_with fail
  refine ⟨trivial, (callsIn_wide.2 (C2.out _)).mono ?_⟩
  rintro e w2 ⟨rfl, rfl⟩
  gi_wp2_with fail
  refine ⟨trivial, (callsIn_wide.2 (HSO.out _)).mono ?_⟩
  rintro e w3 ⟨rfl, rfl⟩
  gi_wp2_with fail
  have hb0 : Below w.heap.size w ((((w.alloc (.cells #[.string v] 9)).alloc (.cells #[.int .i64 0] 2)).alloc (.cells #[.int .i64 0] 2)).alloc (.cells #[.string u] 9)) := ((((Below.refl _ w).alloc (Nat.le_refl _) _).alloc (by simp) _).alloc (by simp; omega) _).alloc (by simp; omega) _
  obtain ⟨W0, hW0⟩ : ∃ W0, W0 = ((((w.alloc (.cells #[.string v] 9)).alloc (.cells #[.int .i64 0] 2)).alloc (.cells #[.int .i64 0] 2)).alloc (.cells #[.string u] 9)) := ⟨_, rfl⟩
  have z0 : W0.heap.size = w.heap.size + 4 := by rw [hW0]; simp
  obtain ⟨b0, b1, b2, b3⟩ := heap4 w (.cells #[.string v] 9) (.cells #[.int .i64 0] 2) (.cells #[.int .i64 0] 2) (.cells #[.string u] 9)
  rw [← hW0] at b0 b1 b2 b3
  rw [← hW0] at hb0 ⊢
  clear hW0
  refine wpIn_rangeFunc_ownF rfl (by omega) (gf := 114) (lb := #[.pointer (some ⟨w.heap.size + 1 + 1 + 1, 0, none⟩)]) rfl trivial (enters_of Try.func114 (by kernel_rfl) rfl)
    (shifts_stops Fence.wide _ trivial rfl (by omega) (w.heap.size + 1 + 1 + 1) u W0 hsz (by omega) b3) kpB_t (kpB_b (by omega)) (Below.refl _ _) (fun _ => rfl)
    (fun pre W => ((∀ j ∈ pre, shE u j ≠ v) ∧ W.cell? ⟨w.heap.size, 0, none⟩ = some (.string v) ∧ W.cell? ⟨w.heap.size + 1, 0, none⟩ = some (.int .i64 0) ∧ W.frozen? ⟨w.heap.size + 1, 0, none⟩ = false ∧ W.cell? ⟨w.heap.size + 2, 0, none⟩ = some (.int .i64 0) ∧ W.frozen? ⟨w.heap.size + 2, 0, none⟩ = false) ∧ Below w.heap.size w W)
    (fun c pre W => (c = .ret ∧ ∃ k pre', pre = pre' ++ [k] ∧ (∀ j ∈ pre', shE u j ≠ v) ∧ shE u k = v ∧ W.cell? ⟨w.heap.size + 1, 0, none⟩ = some (.int .i64 (k : Int)) ∧ W.cell? ⟨w.heap.size + 2, 0, none⟩ = some (.int .i64 0)) ∧ Below w.heap.size w W)
    (OwnFrom.and (Own.from (fun s A B row hs hg hr => ⟨hs.1, cell_kept hs.2.1 hg hr, cell_kept hs.2.2.1 hg hr, (frozen_kept hs.2.2.1 hg hr).trans hs.2.2.2.1, cell_kept hs.2.2.2.2.1 hg hr, (frozen_kept hs.2.2.2.2.1 hg hr).trans hs.2.2.2.2.2⟩) _) (ownFrom_below (Nat.le_refl _) (by omega)))
    (fun c => OwnFrom.and (Own.from (fun s A B row hs hg hr => by obtain ⟨hc, k, pre', h1, h2, h3, h4, h5⟩ := hs; exact ⟨hc, k, pre', h1, h2, h3, cell_kept h4 hg hr, cell_kept h5 hg hr⟩) _) (ownFrom_below (Nat.le_refl _) (by omega)))
    ⟨⟨fun j hj => by simp at hj, cell_of_row' b0, cell_of_row' b1, frozen_of_row' b1, cell_of_row' b2, frozen_of_row' b2⟩, hb0⟩
    (fun x => { tmps := #[.string u, .string v, undef, .pointer (some ⟨w.heap.size, 0, none⟩), .pointer (some ⟨w.heap.size + 1, 0, none⟩), .pointer (some ⟨w.heap.size + 1 + 1, 0, none⟩), .int .i64 (x : Int), .string (shE u x), .string u, .bool true, .bool false, .bool false, .string v, .bool true, .bool false, .bool false, .string u, .func (.func 114) #[] #[.pointer (some ⟨w.heap.size + 1 + 1 + 1, 0, none⟩)], .int .i64 (x : Int), .string (shE u x), undef, undef, undef, undef], defers := [] }) ?assign ?body ?done ?stop
  case assign =>
    intro l x W K hK
    gi_wp2
    exact hK
  case body =>
    rintro l pre x W ⟨⟨hall, q0, q1, g1, q2, g2⟩, hB⟩ _
    by_cases he : shE u x = v
    · have he' : ((shE u x).toList == v.toList) = true := by rw [eq_lists]; exact decide_eq_true he
      have HE := Lib.hid he
      clear he
      gi_wp2
      have a1 := World.cell?_setCell_same' W ⟨w.heap.size + 1, 0, none⟩ (.int .i64 (x : Int)) (by rw [q1]; rfl)
      have a2 := World.cell?_setCell_same' (W.setCell ⟨w.heap.size + 1, 0, none⟩ (.int .i64 (x : Int))) ⟨w.heap.size + 2, 0, none⟩ (.int .i64 0) (by rw [cell_far2 q2 (by simp)]; rfl)
      exact ⟨(KeepsOthers.setCell _ _ _).trans (KeepsOthers.setCell _ _ _), ⟨rfl, x, pre, rfl, hall, HE.out, cell_far2 a1 (by simp), a2⟩, (hB.setCell (p := ⟨w.heap.size + 1, 0, none⟩) (by simp) _).setCell (p := ⟨w.heap.size + 2, 0, none⟩) (by simp) _⟩
    · have he' : ((shE u x).toList == v.toList) = false := by rw [eq_lists]; exact decide_eq_false he
      have HE := Lib.hid he
      clear he
      gi_wp2
      exact ⟨KeepsOthers.refl _, rfl, ⟨fun j hj => by
        rcases List.mem_append.1 hj with h | h
        · exact hall j h
        · have : j = x := by simpa using h
          rw [this]; exact HE.out, q0, q1, g1, q2, g2⟩, hB⟩
  case done =>
    rintro D xs W hD rfl ⟨⟨hall, q0, q1, g1, q2, g2⟩, hB⟩ hK
    have HRN := Lib.hid (show Ending.returned (.tuple #[.int .i64 0, .int .i64 6]) = Ending.returned (.tuple #[.int .i64 r.1, .int .i64 r.2]) from by
      rw [HR.out, shTo_none (fun j hj => hall j (List.mem_range.2 hj))]; rfl)
    clear hall
    gi_wp2
    have a1 := World.cell?_setCell_same' W ⟨w.heap.size + 1, 0, none⟩ (.int .i64 0) (by rw [q1]; rfl)
    have a2 := World.cell?_setCell_same' (W.setCell ⟨w.heap.size + 1, 0, none⟩ (.int .i64 0)) ⟨w.heap.size + 2, 0, none⟩ (.int .i64 6) (by rw [cell_far2 q2 (by simp)]; rfl)
    have a1' := cell_far2 (p := ⟨w.heap.size + 2, 0, none⟩) (u := .int .i64 6) a1 (by simp)
    have hK' := ((KeepsOthers.setCell W ⟨w.heap.size + 1, 0, none⟩ (.int .i64 0)).trans (KeepsOthers.setCell _ ⟨w.heap.size + 2, 0, none⟩ (.int .i64 6))).same D _ hK rfl
    have d1 := cell_kept a1' (grownBy_putObj' _ D (.deferred none)) (fun r e => by cases e; exact ⟨_, hK', rfl⟩)
    have d2 := cell_kept a2 (grownBy_putObj' _ D (.deferred none)) (fun r e => by cases e; exact ⟨_, hK', rfl⟩)
    have hB' := ((hB.setCell (p := ⟨w.heap.size + 1, 0, none⟩) (by simp) (.int .i64 0)).setCell (p := ⟨w.heap.size + 2, 0, none⟩) (by simp) (.int .i64 6)).trans (belowK_b (w := w) (Nat.le_refl _) _ D _ (.deferred none) (by omega) hK' rfl rfl)
    refine ⟨by simp, .inl ⟨_, _, rfl, run_takeDeferred hK', ?_⟩⟩
    refine ⟨.tuple #[.int .i64 0, .int .i64 6], ?_, HRN.out, hB'⟩
    simp [results, Try.f27, go_sem, d1, d2]
  case stop =>
    rintro D c pre W hD ⟨m, hm, rfl⟩ ⟨⟨rfl, k, pre', h1, h2, h3, q1, q2⟩, hB⟩ hK
    rw [List.range_succ] at h1
    obtain ⟨e1, e2⟩ := List.append_inj' h1 rfl
    have e3 : m = k := by simpa using e2
    subst e3
    have HRN := Lib.hid (show Ending.returned (.tuple #[.int .i64 (m : Int), .int .i64 0]) = Ending.returned (.tuple #[.int .i64 r.1, .int .i64 r.2]) from by
      rw [HR.out, shTo_some hm h3 (fun j hj => h2 j (by rw [← e1]; exact List.mem_range.2 hj))]; rfl)
    clear h1 h2 h3 e1 e2
    gi_wp2
    have d1 := cell_kept q1 (grownBy_putObj' _ D (.deferred none)) (fun r e => by cases e; exact ⟨_, hK, rfl⟩)
    have d2 := cell_kept q2 (grownBy_putObj' _ D (.deferred none)) (fun r e => by cases e; exact ⟨_, hK, rfl⟩)
    have hB' := hB.trans (belowK_b (w := w) (Nat.le_refl _) W D _ (.deferred none) (by omega) hK rfl rfl)
    refine ⟨by simp, .inl ⟨_, _, rfl, run_takeDeferred hK, ?_⟩⟩
    refine ⟨.tuple #[.int .i64 (m : Int), .int .i64 0], ?_, HRN.out, hB'⟩
    simp [results, Try.f27, go_sem, d1, d2]

set_option maxRecDepth 100000 in
theorem implShiftTo_bad (u v : ByteArray) (w : World) (bu : u.size ≤ maxLen) (bv : v.size ≤ maxLen) (h : okL u.data.toList = false ∨ (okL u.data.toList = true ∧ okL v.data.toList = false)) :
    Calls Try.prog 27 #[.string u, .string v] w fun e w' => e = .returned (.tuple #[.int .i64 0, .int .i64 1]) ∧ Below w.heap.size w w' := by
  have c1 := fun W => implOk u W bu
  have c2 := fun W => implOk v W bv
  have HB := Lib.hid (fun a b c => (((Below.refl _ w).alloc (Nat.le_refl _) a).alloc (by simp) b).alloc (by simp; omega) c)
  rcases h with h | ⟨h, h'⟩
  · rw [h] at c1
    have C1 := Lib.hid c1
    clear c1 c2 h
    go_enter Try.func27, Try.ntmps27
    go_wp2_with fail
    refine (C1.out _).mono ?_
    rintro e w1 ⟨rfl, rfl⟩
    go_wp2_with fail
    refine bodyPost_ret (v := .tuple #[.int .i64 0, .int .i64 1]) (by simp [results, Try.results27, go_sem]) rfl ⟨rfl, HB.out _ _ _⟩
  · rw [h] at c1
    rw [h'] at c2
    have C1 := Lib.hid c1
    have C2 := Lib.hid c2
    clear c1 c2 h h'
    go_enter Try.func27, Try.ntmps27
    go_wp2_with fail
    refine (C1.out _).mono ?_
    rintro e w1 ⟨rfl, rfl⟩
    go_wp2_with fail
    refine (C2.out _).mono ?_
    rintro e w2 ⟨rfl, rfl⟩
    go_wp2_with fail
    refine bodyPost_ret (v := .tuple #[.int .i64 0, .int .i64 1]) (by simp [results, Try.results27, go_sem]) rfl ⟨rfl, HB.out _ _ _⟩
theorem implShiftTo (u v : ByteArray) (w : World) (bu : u.size ≤ maxLen) (bv : v.size ≤ maxLen) :
    Calls Try.prog 27 #[.string u, .string v] w fun e w' => e = .returned (.tuple #[.int .i64 (intsShiftTo u v).1, .int .i64 (intsShiftTo u v).2]) ∧ Below w.heap.size w w' := by
  by_cases h : okL u.data.toList = true ∧ okL v.data.toList = true
  · exact implShiftTo_ok u v w h.1 h.2 bu bv
  · have e : intsShiftTo u v = (0, 1) := by unfold intsShiftTo; rw [if_neg (by simpa using h)]
    rw [e]
    refine implShiftTo_bad u v w bu bv ?_
    cases h1 : okL u.data.toList
    · exact .inl rfl
    · refine .inr ⟨rfl, ?_⟩
      cases h2 : okL v.data.toList
      · rfl
      · exact absurd ⟨h1, h2⟩ h
end Go.Proofs.Ytbenlbfommodiaa
