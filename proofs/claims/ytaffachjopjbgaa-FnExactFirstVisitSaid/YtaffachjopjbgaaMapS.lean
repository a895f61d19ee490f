/-
  Walk: impl.stateMap.then.
  Walk: impl.stepsOf.
-/
import Derived.Test.YtaffachjopjbgaaMapM
import Derived.Test.YtaffachjopjbgaaAuTo2
import Derived.Test.YtaffachjopjbgaaBlk
import Derived.Deep.MidRow
import Derived.Deep.WholeRow
namespace Go.Proofs.Ytaffachjopjbgaa
open Go.RowKit
open Wd
set_option linter.unusedVariables false
def mv (m : List Int) : Value := .agg (iv m).toArray
theorem size_map : (Try.prog.info? 197).map (·.size) = some 24 := by kernel_rfl
theorem und_map : Try.prog.underlying 197 = some (.array 24 108) := by kernel_rfl
theorem index_map (m : List Int) (hm : m.length = 24) (k : Nat) (hk : k < 24) (w : World) : (Instr.index 197 (.agg (iv m).toArray) (.int .i64 (k : Int))).run Try.prog w = .ok (.int .i64 (m.getD k 0)) w := by
  have h1 : (Try.prog.info? 108).map (·.size) = some 1 := by kernel_rfl
  have hu : Try.prog.underlying 108 = some (.int .i64) := by kernel_rfl
  have hk' : k < m.length := by omega
  obtain ⟨i1, hi1, hs1⟩ : ∃ i, Try.prog.info? 108 = some i ∧ i.size = 1 := by
    cases hq : Try.prog.info? 108 with
    | none => simp [hq] at h1
    | some i => exact ⟨i, rfl, by simpa [hq] using h1⟩
  have hb : (0 : Int) ≤ (k : Int) ∧ (k : Int) < 24 := by omega
  have hc : (iv m)[k]? = some (.int .i64 (m[k]?.getD 0)) := by
    rw [iv_get m k hk', List.getElem?_eq_getElem hk']
    rfl
  simp [Instr.index, asIntOf, run_underlying und_map, sizeOf, typeInfo, part, isAgg, run_underlying hu, hi1, hs1, hk, hc]
/-- between two states of the map that is being made -/
def TSt (w : World) (R : Nat) (m f : List Int) (k : Nat) (wr : World) : Prop :=
  wr.heap[w.heap.size]? = some (.cells (iv (thenK m f k)).toArray 197 (0, 0)) ∧ wr.heap[w.heap.size + 1]? = some (.cells (iv f).toArray 197 (0, 0)) ∧ wr.heap[R]? = some (.cells (iv (List.replicate 24 0)).toArray 197 (0, 0)) ∧ Below w.heap.size w wr
set_option maxRecDepth 100000 in
set_option maxHeartbeats 1600000 in
theorem then_any (m f : List Int) (st : Int) (h24 : st ≤ 24) (hm : mapOk st m) (hf : mapOk st f) (w : World) :
    Calls Try.prog 202 #[.agg (iv m).toArray, .agg (iv f).toArray] w fun e w' => e = .returned (.agg (iv (thenRow m f)).toArray) ∧ Below w.heap.size w w' := by
  have hsm : (Try.prog.info? 197).map (·.size) = some (iv m).toArray.size := by rw [size_map]; simp [iv, hm.1]
  go_enter Try.func202, Try.ntmps202
  go_upto_region 1 with fail
  obtain ⟨hP, hF, hR, hB3, hs3⟩ := al3 w (.cells (iv m).toArray 197) (.cells (iv f).toArray 197) (.cells (iv (List.replicate 24 0)).toArray 197)
  change Code.wp _ _ _ _ (((w.alloc (.cells (iv m).toArray 197)).alloc (.cells (iv f).toArray 197)).alloc (.cells (iv (List.replicate 24 0)).toArray 197))
  generalize ((w.alloc (.cells (iv m).toArray 197)).alloc (.cells (iv f).toArray 197)).alloc (.cells (iv (List.replicate 24 0)).toArray 197) = w3 at *
  go_wp2_with (with_reducible refine wpList_load_row rfl 197 _ rfl w.heap.size rfl 197 _ _ _ hP und_map rfl hsm ?_)
  obtain ⟨R, hRe⟩ : ∃ R, R = w.heap.size + 1 + 1 := ⟨_, rfl⟩
  rw [show w.heap.size + 2 = R from hRe.symm] at hR
  rw [← hRe]
  have HRE := Lib.hid hRe
  have HST : Hid (TSt w R m f 0 w3) := Lib.hid ⟨by rw [thenK_zero]; exact hP, hF, hR, hB3⟩
  have HM := Lib.hid hm
  have HF := Lib.hid hf
  have HSM := Lib.hid hsm
  clear hRe hP hF hR hB3 hs3 hm hf hsm
  go_loopw [8] (fun i wr => ∃ k : Nat, k ≤ 24 ∧ i = .int .i64 k ∧ TSt w R m f k wr) (fun i _ => 24 - (intOf i).toNat)
  case atStart => exact ⟨0, by omega, rfl, HST.out⟩
  case round =>
    obtain ⟨k, hk, rfl, hst⟩ := hrel
    obtain ⟨wo, rfl⟩ : ∃ wo : World, wo = wr := ⟨_, rfl⟩
    have HS := Lib.hid hst
    obtain ⟨hP, hF, hR, hB⟩ := hst
    by_cases hlt : k < 24
    · have hkm : k < m.length := by rw [HM.out.1]; exact hlt
      have hq := HM.out.2 _ (List.getElem_mem hkm)
      obtain ⟨q, hqe⟩ : ∃ q : Nat, m[k] = q := ⟨m[k].toNat, by omega⟩
      have hq24 : q < 24 := by omega
      have hix := index_map m HM.out.1 k hlt
      rw [List.getD_eq_getElem?_getD, List.getElem?_eq_getElem hkm, Option.getD_some, hqe] at hix
      have hqf : q < f.length := by rw [HF.out.1]; exact hq24
      have c3 : wo.cell? ⟨w.heap.size + 1, q, none⟩ = some (.int .i64 (f.getD q 0)) := by
        rw [cell_of_row _ _ _ _ _ _ hF, List.getElem?_toArray, iv_get f q hqf, List.getD_eq_getElem?_getD, List.getElem?_eq_getElem hqf]; rfl
      have hkt : k < (thenK m f k).length := by rw [thenK_len m f k (by omega)]; exact hkm
      have c2 : wo.cell? ⟨w.heap.size, k, none⟩ = some (.int .i64 (thenK m f k)[k]) := by
        rw [cell_of_row _ _ _ _ _ _ hP, List.getElem?_toArray, iv_get _ k hkt]
      have f2 : wo.frozen? ⟨w.heap.size, k, none⟩ = false := frozen_of_row _ _ _ _ _ hP
      have HNX : Hid (TSt w R m f (k + 1) (wo.setCell ⟨w.heap.size, k, none⟩ (.int .i64 (f.getD q 0)))) := Lib.hid (by
        refine ⟨?_, (Below.heap_setCell wo _ _ _ (by simp)).trans hF, (Below.heap_setCell wo _ _ _ (by have := HRE.out; show R ≠ w.heap.size; omega)).trans hR, hB.setCell (by simp) _⟩
        rw [heap_setCell_same _ _ _ _ _ _ hP, ← thenK_set m f k hkm, hqe]
        simp [iv, List.map_set])
      generalize f.getD q 0 = z at *
      generalize (thenK m f k)[k] = u2 at *
      have hq0 : (0 : Int) ≤ (q : Int) := by omega
      have hq1 : (q : Int) < 24 := by omega
      have hk0 : (0 : Int) ≤ (k : Int) := by omega
      have hk1 : (k : Int) < 24 := by omega
      clear hP hF hR hB hq hqe hqf hkt hkm HS
      go_wp2_with fail
      go_roundw
      all_goals first | exact ⟨k + 1, by omega, by go_num, HNX.out⟩ | ((repeat apply Exists.intro); exact ⟨⟨k + 1, by omega, by go_num, HNX.out⟩, rfl⟩) | (simp [intOf]; done) | (simp [intOf]; omega) | omega
    · obtain rfl : k = 24 := by omega
      have hall : thenK m f 24 = thenRow m f := by rw [← HM.out.1]; exact thenK_all m f
      rw [hall] at hP
      have hsz : (iv (thenRow m f)).toArray.size = 24 := by simp [iv, thenRow, HM.out.1]
      have hsm : (Try.prog.info? 197).map (·.size) = some (iv (thenRow m f)).toArray.size := by rw [size_map, hsz]
      have hz : (iv (List.replicate 24 0)).toArray.size = (iv (thenRow m f)).toArray.size := by rw [hsz]; simp [iv]
      have h1 : (iv (thenRow m f)).toArray.all (·.oneCell') = true := all_oneCell_toArray (fun v hv => by obtain ⟨x, _, rfl⟩ := List.mem_map.1 hv; rfl)
      have HR9 : Hid ((wo.setRow R (iv (thenRow m f)).toArray).heap[R]? = some (.cells (iv (thenRow m f)).toArray 197 (0, 0))) := Lib.hid (setRow_heap wo R _ _ _ _ hR)
      have HB9 : Hid (Below w.heap.size w (wo.setRow R (iv (thenRow m f)).toArray)) := Lib.hid (bSetRow hB (by rw [HRE.out]; omega) _)
      have HSZ := Lib.hid hsm
      have HH := Lib.hid (And.intro hP (And.intro hR (And.intro hz h1)))
      clear hall hsz HS hF hB hP hR hz h1 hsm
      go_upto_region 6 with fail
      go_wp2_with (first
        | (with_reducible refine wpList_load_row rfl 197 _ rfl w.heap.size rfl 197 _ _ _ HH.out.1 und_map rfl HSZ.out ?_)
        | (with_reducible refine wpList_store_row rfl 197 _ _ rfl R _ rfl rfl 197 _ HH.out.2.1 HSZ.out HH.out.2.2.1 HH.out.2.2.2 ?_))
      refine bodyPost_ret (v := .agg (iv (thenRow m f)).toArray) (results_cell_row rfl _ _ R 197 _ (0, 0) _ rfl HR9.out und_map rfl HSZ.out) rfl ⟨rfl, HB9.out⟩
namespace Wd
def stAt (nx : List (List Int)) (s0 l0 : Nat) : List Int := (List.range 96).map fun c => if c % 24 < s0 ∨ (c % 24 = s0 ∧ c / 24 < l0) then (nx.getD (c % 24) []).getD (c / 24) 0 else 0
/-- ninety-six zeros -/
def Z96 : List Int := List.replicate 96 0
def stAll (nx : List (List Int)) : List Int := (List.range 96).map fun c => (nx.getD (c % 24) []).getD (c / 24) 0
end Wd
theorem stAt_len (nx : List (List Int)) (s l : Nat) : (stAt nx s l).length = 96 := by simp [stAt]
theorem stAll_len (nx : List (List Int)) : (stAll nx).length = 96 := by simp [stAll]
theorem stAt_zero (nx : List (List Int)) : stAt nx 0 0 = Z96 := by
  unfold Z96
  apply List.ext_getElem
  · simp [stAt]
  · intro i h1 h2
    rw [List.getElem_replicate]
    simp only [stAt, List.getElem_map, List.getElem_range]
    rw [if_neg (by omega)]
theorem stAt_next (nx : List (List Int)) (s : Nat) : stAt nx s 4 = stAt nx (s + 1) 0 := by
  unfold stAt
  apply List.map_congr_left
  intro c hc
  have hc := List.mem_range.1 hc
  by_cases h : c % 24 < s ∨ (c % 24 = s ∧ c / 24 < 4)
  · rw [if_pos h, if_pos (by omega)]
  · rw [if_neg h, if_neg (by omega)]
theorem stAt_all (nx : List (List Int)) : stAt nx nx.length 0 = stAll nx := by
  unfold stAt stAll
  apply List.map_congr_left
  intro c hc
  by_cases h : c % 24 < nx.length ∨ (c % 24 = nx.length ∧ c / 24 < 0)
  · rw [if_pos h]
  · rw [if_neg h, List.getD_eq_getElem?_getD (l := nx), List.getElem?_eq_none (by omega)]
    rfl
theorem stAt_set (nx : List (List Int)) (s l : Nat) (hs : s < 24) (hl : l < 4) : (stAt nx s l).set (l * 24 + s) ((nx.getD s []).getD l 0) = stAt nx s (l + 1) := by
  apply List.ext_getElem
  · simp [stAt]
  · intro i h1 h2
    have hi : i < 96 := by simpa [stAt] using h2
    rw [List.getElem_set]
    by_cases e : l * 24 + s = i
    · rw [if_pos e]
      simp only [stAt, List.getElem_map, List.getElem_range]
      rw [if_pos (by omega), show i % 24 = s from by omega, show i / 24 = l from by omega]
    · rw [if_neg e]
      simp only [stAt, List.getElem_map, List.getElem_range]
      by_cases h : i % 24 < s ∨ (i % 24 = s ∧ i / 24 < l)
      · rw [if_pos h, if_pos (by omega)]
      · rw [if_neg h, if_neg (by omega)]
theorem und_steps : Try.prog.underlying 239 = some (.array 4 197) := by kernel_rfl
theorem zero_steps : (Try.prog.info? 239).map (fun i => (i.zero, i.size)) = some (some (.agg (iv Z96).toArray), 96) := by kernel_rfl
/-- between two steps -/
def SSt (w : World) (nx : List (List Int)) (s l : Nat) (wr : World) : Prop :=
  wr.heap[w.heap.size + 1]? = some (.cells (iv (stAt nx s l)).toArray 239 (0, 0)) ∧ wr.heap[w.heap.size]? = some (.cells (iv Z96).toArray 239 (0, 0)) ∧ Below w.heap.size w wr
theorem SSt.start (w : World) (nx : List (List Int)) : SSt w nx 0 0 ((w.alloc (.cells (iv Z96).toArray 239)).alloc (.cells (iv Z96).toArray 239)) := by
  have h1 := heap_alloc_new (w.alloc (.cells (iv Z96).toArray 239)) (.cells (iv Z96).toArray 239)
  rw [show (w.alloc (.cells (iv Z96).toArray 239)).heap.size = w.heap.size + 1 from by simp] at h1
  have b2 := (Below.refl _ (w.alloc (.cells (iv Z96).toArray 239))).alloc (Nat.le_refl _) (.cells (iv Z96).toArray 239)
  exact ⟨by rw [stAt_zero]; exact h1, (b2.block _ (by simp)).trans (heap_alloc_new w _), ((Below.refl _ w).alloc (Nat.le_refl _) _).alloc (by simp) _⟩
theorem SSt.store {w wr : World} {nx : List (List Int)} {s l : Nat} (h : SSt w nx s l wr) (hs : s < 24) (hl : l < 4) :
    (∃ u, wr.cell? ⟨w.heap.size + 1, l * 24 + s, none⟩ = some u) ∧ wr.frozen? ⟨w.heap.size + 1, l * 24 + s, none⟩ = false ∧ SSt w nx s (l + 1) (wr.setCell ⟨w.heap.size + 1, l * 24 + s, none⟩ (.int .i64 ((nx.getD s []).getD l 0))) := by
  obtain ⟨h1, h2, h3⟩ := h
  refine ⟨?_, frozen_of_row _ _ _ _ _ h1, ?_, (Below.heap_setCell wr _ _ _ (by simp)).trans h2, h3.setCell (by simp) _⟩
  · rw [cell_of_row _ _ _ _ _ _ h1, List.getElem?_toArray]
    exact ⟨_, iv_get _ _ (by rw [stAt_len]; omega)⟩
  · rw [heap_setCell_same _ _ _ _ _ _ h1, ← stAt_set nx s l hs hl]
    simp [iv, List.map_set]
set_option maxRecDepth 100000 in
set_option maxHeartbeats 3200000 in
theorem stepsOf_any (v : Value) (nx : List (List Int)) (st : Int) (w : World) (hn : (nx.length : Int) = st) (h24 : st ≤ 24) (hrow : nx.all (rowOk st) = true) (h : IsLL w v nx) :
    Calls Try.prog 201 #[v] w fun e w' => e = .returned (.agg (iv (stAll nx)).toArray) ∧ Below w.heap.size w w' := by
  have hzv := (zero_of_info zero_steps).1
  have hN24 : nx.length ≤ 24 := by omega
  obtain ⟨A, c, rfl, hin⟩ := h
  have HI := Lib.hid hin
  have HROW := Lib.hid hrow
  obtain ⟨N, hNe⟩ : ∃ N, N = nx.length := ⟨_, rfl⟩
  rw [← hNe] at hN24 ⊢
  have HN := Lib.hid hNe
  clear hin hn hrow hNe
  go_enter Try.func201, Try.ntmps201
  go_upto_region 2 with fail
  have HST := Lib.hid (SSt.start w nx)
  generalize (w.alloc (.cells (iv Z96).toArray 239)).alloc (.cells (iv Z96).toArray 239) = w3 at *
  clear hzv
  go_wp2_with fail
  go_loopw [10] (fun i wr => ∃ s : Nat, s ≤ N ∧ i = .int .i64 s ∧ SSt w nx s 0 wr) (fun i _ => N - (intOf i).toNat)
  case atStart => exact ⟨0, Nat.zero_le _, rfl, HST.out⟩
  case round =>
    obtain ⟨s, hs, rfl, hst⟩ := hrel
    obtain ⟨wo, rfl⟩ : ∃ wo : World, wo = wr := ⟨_, rfl⟩
    have HS := Lib.hid hst
    by_cases hlt : s < N
    · have hsn : s < nx.length := by rw [← HN.out]; exact hlt
      rcases HI.out with hn | ⟨x, rfl, hc⟩
      · rw [hn] at hsn; simp at hsn
      obtain ⟨u, c0, hu⟩ := hc s hsn
      have d0 := (hst.2.2.cell (lt_of_cell c0)).trans c0
      have hr4 : nx[s].length = 4 := by
        have hq := List.all_eq_true.1 HROW.out _ (List.getElem_mem hsn)
        unfold rowOk at hq
        rw [Bool.and_eq_true, decide_eq_true_iff] at hq
        exact hq.1
      have HU := Lib.hid hu
      obtain ⟨A2, c2, rfl, hcx⟩ := hu
      rw [hr4] at d0
      rcases hcx with hn | ⟨y, rfl, hz⟩
      · rw [hn] at hr4; simp at hr4
      have HZ : Hid (∀ l, l < 4 → ∀ W, Below w.heap.size w W → W.cell? (y.add l) = some (.int .i64 ((nx.getD s []).getD l 0))) := Lib.hid (fun l hl W hb => by
        rw [List.getD_eq_getElem?_getD (l := nx), List.getElem?_eq_getElem hsn, Option.getD_some, List.getD_eq_getElem?_getD, List.getElem?_eq_getElem (by omega), Option.getD_some]
        exact (hb.cell (lt_of_cell (hz l (by omega)))).trans (hz l (by omega)))
      have hs0 : (0 : Int) ≤ (s : Int) := by omega
      have hs1 : (s : Int) < (N : Int) := by omega
      have hs24 : (s : Int) < 24 := by omega
      clear c0 hc hz hr4 hsn hst HU
      go_wp2_with fail
      go_loopw [17] (fun i wr => ∃ l : Nat, l ≤ 4 ∧ i = .int .i64 l ∧ SSt w nx s l wr) (fun i _ => 4 - (intOf i).toNat)
      case atStart => exact ⟨0, by omega, rfl, HS.out⟩
      case round =>
        obtain ⟨l, hl, rfl, hst⟩ := hrel
        obtain ⟨wu, rfl⟩ : ∃ wu : World, wu = wr := ⟨_, rfl⟩
        by_cases hl4 : l < 4
        · obtain ⟨⟨u0, e0⟩, f0, hnx⟩ := hst.store (by omega) hl4
          have HNX := Lib.hid hnx
          have z0 := HZ.out l hl4 wu hst.2.2
          generalize (nx.getD s []).getD l 0 = z at *
          have hl0 : (0 : Int) ≤ (l : Int) := by omega
          have hl1 : (l : Int) < 4 := by omega
          clear hst hnx
          go_wp2_with fail
          go_roundw
          all_goals first | exact ⟨l + 1, by omega, by go_num, HNX.out⟩ | ((repeat apply Exists.intro); exact ⟨⟨l + 1, by omega, by go_num, HNX.out⟩, rfl⟩) | (simp [intOf]; done) | (simp [intOf]; omega) | omega
        · obtain rfl : l = 4 := by omega
          have HS4 : Hid (SSt w nx (s + 1) 0 wu) := Lib.hid (by unfold SSt at hst ⊢; rw [← stAt_next]; exact hst)
          clear hst
          go_wp2_with fail
          go_roundw
          all_goals first | exact ⟨s + 1, by omega, by go_num, HS4.out⟩ | ((repeat apply Exists.intro); exact ⟨⟨s + 1, by omega, by go_num, HS4.out⟩, rfl⟩) | (simp [intOf]; done) | (simp [intOf]; omega) | omega
    · obtain rfl : s = N := by omega
      obtain ⟨hP, hR, hB⟩ := hst
      rw [show stAt nx s 0 = stAll nx from by rw [HN.out]; exact stAt_all nx] at hP
      have hsm : (Try.prog.info? 239).map (·.size) = some (iv (stAll nx)).toArray.size := by rw [(zero_of_info zero_steps).2]; simp [iv, stAll_len]
      have hz : (iv Z96).toArray.size = (iv (stAll nx)).toArray.size := by simp [iv, stAll_len, Z96]
      have h1 : (iv (stAll nx)).toArray.all (·.oneCell') = true := all_oneCell_toArray (fun v hv => by obtain ⟨x, _, rfl⟩ := List.mem_map.1 hv; rfl)
      have HR9 : Hid ((wo.setRow w.heap.size (iv (stAll nx)).toArray).heap[w.heap.size]? = some (.cells (iv (stAll nx)).toArray 239 (0, 0))) := Lib.hid (setRow_heap wo w.heap.size _ _ _ _ hR)
      have HB9 : Hid (Below w.heap.size w (wo.setRow w.heap.size (iv (stAll nx)).toArray)) := Lib.hid (bSetRow hB (Nat.le_refl _) _)
      have HSZ := Lib.hid hsm
      have HH := Lib.hid (And.intro hP (And.intro hR (And.intro hz h1)))
      clear HS hB hP hR hz h1 hsm
      go_upto_region 11 with fail
      go_wp2_with (first
        | (with_reducible refine wpList_load_row rfl 239 _ rfl (w.heap.size + 1) rfl 239 _ _ _ HH.out.1 und_steps rfl HSZ.out ?_)
        | (with_reducible refine wpList_store_row rfl 239 _ _ rfl w.heap.size _ rfl rfl 239 _ HH.out.2.1 HSZ.out HH.out.2.2.1 HH.out.2.2.2 ?_))
      refine bodyPost_ret (v := .agg (iv (stAll nx)).toArray) (results_cell_row rfl _ _ w.heap.size 239 _ (0, 0) _ rfl HR9.out und_steps rfl HSZ.out) rfl ⟨rfl, HB9.out⟩
end Go.Proofs.Ytaffachjopjbgaa
