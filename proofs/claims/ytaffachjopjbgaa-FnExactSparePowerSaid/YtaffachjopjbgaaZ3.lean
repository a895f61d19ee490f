/-
  Contracts and numbers of the functions that the laws of this place call, one text behind the other. No condition beyond those that each theorem names.
-/
import Derived.Test.YtaffachjopjbgaaZ1
import Derived.Test.YtaffachjopjbgaaZ2
import Derived.Deep.MidRow
import Derived.Deep.WholeRow
import Derived.Shelf.Small.Utf8
import Derived.Shelf.Small.Strs
import Derived.Shelf.Strings.Search1
import Derived.Shelf.Strings.Search2
import Derived.Shelf.Strings.Search3
import Derived.Shelf.LaysM
import Derived.Shelf.Strings.Shaped
import Derived.Shelf.Strings.Prefix
import Derived.Shelf.Strings.Runes
import Derived.Test.YtaffachjopjbgaaProg
import Derived.Deep.RegionHeld3
import Derived.Deep.RegionLaw
import Derived.Deep.AppendLies
import Derived.BigQuiet
import Derived.Laws.EntriesVeiled
namespace Go.Proofs.Ytaffachjopjbgaa
open Go.RowKit
open Wd
set_option linter.unusedVariables false
def mv (m : List Int) : Value := .agg (iv m).toArray
theorem size_map : (Try.prog.info? 197).map (·.size) = some 24 := by kernel_rfl
theorem und_map : Try.prog.underlying 197 = some (.array 24 108) := by kernel_rfl
theorem index_map (m : List Int) (hm : m.length = 24) (k : Nat) (hk : k < 24) (w : World) : (Instr.index 197 (.agg (iv m).toArray) (.int .i64 (k : Int))).run Try.prog w = .ok (.int .i64 (m.getD k 0)) w := by
  have h1 : (Try.prog.info? 108).map (·.size) = some 1 := by kernel_rfl
  have hu : Try.prog.underlying 108 = some (.int .i64) := by kernel_rfl
  have hk' : k < m.length := by omega
  obtain ⟨i1, hi1, hs1⟩ : ∃ i, Try.prog.info? 108 = some i ∧ i.size = 1 := by
    cases hq : Try.prog.info? 108 with
    | none => simp [hq] at h1
    | some i => exact ⟨i, rfl, by simpa [hq] using h1⟩
  have hb : (0 : Int) ≤ (k : Int) ∧ (k : Int) < 24 := by omega
  have hc : (iv m)[k]? = some (.int .i64 (m[k]?.getD 0)) := by
    rw [iv_get m k hk', List.getElem?_eq_getElem hk']
    rfl
  simp [Instr.index, asIntOf, run_underlying und_map, sizeOf, typeInfo, part, isAgg, run_underlying hu, hi1, hs1, hk, hc]
/-- between two states of the map that is being made -/
def TSt (w : World) (R : Nat) (m f : List Int) (k : Nat) (wr : World) : Prop :=
  wr.heap[w.heap.size]? = some (.cells (iv (thenK m f k)).toArray 197 (0, 0)) ∧ wr.heap[w.heap.size + 1]? = some (.cells (iv f).toArray 197 (0, 0)) ∧ wr.heap[R]? = some (.cells (iv (List.replicate 24 0)).toArray 197 (0, 0)) ∧ Below w.heap.size w wr
set_option maxRecDepth 100000 in
set_option maxHeartbeats 1600000 in
theorem then_any (m f : List Int) (st : Int) (h24 : st ≤ 24) (hm : mapOk st m) (hf : mapOk st f) (w : World) :
    Calls Try.prog 202 #[.agg (iv m).toArray, .agg (iv f).toArray] w fun e w' => e = .returned (.agg (iv (thenRow m f)).toArray) ∧ Below w.heap.size w w' := by
  have hsm : (Try.prog.info? 197).map (·.size) = some (iv m).toArray.size := by rw [size_map]; simp [iv, hm.1]
  go_enter Try.func202, Try.ntmps202
  go_upto_region 1 with fail
  obtain ⟨hP, hF, hR, hB3, hs3⟩ := al3 w (.cells (iv m).toArray 197) (.cells (iv f).toArray 197) (.cells (iv (List.replicate 24 0)).toArray 197)
  change Code.wp _ _ _ _ (((w.alloc (.cells (iv m).toArray 197)).alloc (.cells (iv f).toArray 197)).alloc (.cells (iv (List.replicate 24 0)).toArray 197))
  generalize ((w.alloc (.cells (iv m).toArray 197)).alloc (.cells (iv f).toArray 197)).alloc (.cells (iv (List.replicate 24 0)).toArray 197) = w3 at *
  go_wp2_with (with_reducible refine wpList_load_row rfl 197 _ rfl w.heap.size rfl 197 _ _ _ hP und_map rfl hsm ?_)
  obtain ⟨R, hRe⟩ : ∃ R, R = w.heap.size + 1 + 1 := ⟨_, rfl⟩
  rw [show w.heap.size + 2 = R from hRe.symm] at hR
  rw [← hRe]
  have HRE := Lib.hid hRe
  have HST : Hid (TSt w R m f 0 w3) := Lib.hid ⟨by rw [thenK_zero]; exact hP, hF, hR, hB3⟩
  have HM := Lib.hid hm
  have HF := Lib.hid hf
  have HSM := Lib.hid hsm
  clear hRe hP hF hR hB3 hs3 hm hf hsm
  go_loopw [8] (fun i wr => ∃ k : Nat, k ≤ 24 ∧ i = .int .i64 k ∧ TSt w R m f k wr) (fun i _ => 24 - (intOf i).toNat)
  case atStart => exact ⟨0, by omega, rfl, HST.out⟩
  case round =>
    obtain ⟨k, hk, rfl, hst⟩ := hrel
    obtain ⟨wo, rfl⟩ : ∃ wo : World, wo = wr := ⟨_, rfl⟩
    have HS := Lib.hid hst
    obtain ⟨hP, hF, hR, hB⟩ := hst
    by_cases hlt : k < 24
    · have hkm : k < m.length := by rw [HM.out.1]; exact hlt
      have hq := HM.out.2 _ (List.getElem_mem hkm)
      obtain ⟨q, hqe⟩ : ∃ q : Nat, m[k] = q := ⟨m[k].toNat, by omega⟩
      have hq24 : q < 24 := by omega
      have hix := index_map m HM.out.1 k hlt
      rw [List.getD_eq_getElem?_getD, List.getElem?_eq_getElem hkm, Option.getD_some, hqe] at hix
      have hqf : q < f.length := by rw [HF.out.1]; exact hq24
      have c3 : wo.cell? ⟨w.heap.size + 1, q, none⟩ = some (.int .i64 (f.getD q 0)) := by
        rw [cell_of_row _ _ _ _ _ _ hF, List.getElem?_toArray, iv_get f q hqf, List.getD_eq_getElem?_getD, List.getElem?_eq_getElem hqf]; rfl
      have hkt : k < (thenK m f k).length := by rw [thenK_len m f k (by omega)]; exact hkm
      have c2 : wo.cell? ⟨w.heap.size, k, none⟩ = some (.int .i64 (thenK m f k)[k]) := by
        rw [cell_of_row _ _ _ _ _ _ hP, List.getElem?_toArray, iv_get _ k hkt]
      have f2 : wo.frozen? ⟨w.heap.size, k, none⟩ = false := frozen_of_row _ _ _ _ _ hP
      have HNX : Hid (TSt w R m f (k + 1) (wo.setCell ⟨w.heap.size, k, none⟩ (.int .i64 (f.getD q 0)))) := Lib.hid (by
        refine ⟨?_, (Below.heap_setCell wo _ _ _ (by simp)).trans hF, (Below.heap_setCell wo _ _ _ (by have := HRE.out; show R ≠ w.heap.size; omega)).trans hR, hB.setCell (by simp) _⟩
        rw [heap_setCell_same _ _ _ _ _ _ hP, ← thenK_set m f k hkm, hqe]
        simp [iv, List.map_set])
      generalize f.getD q 0 = z at *
      generalize (thenK m f k)[k] = u2 at *
      have hq0 : (0 : Int) ≤ (q : Int) := by omega
      have hq1 : (q : Int) < 24 := by omega
      have hk0 : (0 : Int) ≤ (k : Int) := by omega
      have hk1 : (k : Int) < 24 := by omega
      clear hP hF hR hB hq hqe hqf hkt hkm HS
      go_wp2_with fail
      go_roundw
      all_goals first | exact ⟨k + 1, by omega, by go_num, HNX.out⟩ | ((repeat apply Exists.intro); exact ⟨⟨k + 1, by omega, by go_num, HNX.out⟩, rfl⟩) | (simp [intOf]; done) | (simp [intOf]; omega) | omega
    · obtain rfl : k = 24 := by omega
      have hall : thenK m f 24 = thenRow m f := by rw [← HM.out.1]; exact thenK_all m f
      rw [hall] at hP
      have hsz : (iv (thenRow m f)).toArray.size = 24 := by simp [iv, thenRow, HM.out.1]
      have hsm : (Try.prog.info? 197).map (·.size) = some (iv (thenRow m f)).toArray.size := by rw [size_map, hsz]
      have hz : (iv (List.replicate 24 0)).toArray.size = (iv (thenRow m f)).toArray.size := by rw [hsz]; simp [iv]
      have h1 : (iv (thenRow m f)).toArray.all (·.oneCell') = true := all_oneCell_toArray (fun v hv => by obtain ⟨x, _, rfl⟩ := List.mem_map.1 hv; rfl)
      have HR9 : Hid ((wo.setRow R (iv (thenRow m f)).toArray).heap[R]? = some (.cells (iv (thenRow m f)).toArray 197 (0, 0))) := Lib.hid (setRow_heap wo R _ _ _ _ hR)
      have HB9 : Hid (Below w.heap.size w (wo.setRow R (iv (thenRow m f)).toArray)) := Lib.hid (bSetRow hB (by rw [HRE.out]; omega) _)
      have HSZ := Lib.hid hsm
      have HH := Lib.hid (And.intro hP (And.intro hR (And.intro hz h1)))
      clear hall hsz HS hF hB hP hR hz h1 hsm
      go_upto_region 6 with fail
      go_wp2_with (first
        | (with_reducible refine wpList_load_row rfl 197 _ rfl w.heap.size rfl 197 _ _ _ HH.out.1 und_map rfl HSZ.out ?_)
        | (with_reducible refine wpList_store_row rfl 197 _ _ rfl R _ rfl rfl 197 _ HH.out.2.1 HSZ.out HH.out.2.2.1 HH.out.2.2.2 ?_))
      refine bodyPost_ret (v := .agg (iv (thenRow m f)).toArray) (results_cell_row rfl _ _ R 197 _ (0, 0) _ rfl HR9.out und_map rfl HSZ.out) rfl ⟨rfl, HB9.out⟩
namespace Wd
def stAt (nx : List (List Int)) (s0 l0 : Nat) : List Int := (List.range 96).map fun c => if c % 24 < s0 ∨ (c % 24 = s0 ∧ c / 24 < l0) then (nx.getD (c % 24) []).getD (c / 24) 0 else 0
/-- ninety-six zeros -/
def Z96 : List Int := List.replicate 96 0
def stAll (nx : List (List Int)) : List Int := (List.range 96).map fun c => (nx.getD (c % 24) []).getD (c / 24) 0
end Wd
theorem stAt_len (nx : List (List Int)) (s l : Nat) : (stAt nx s l).length = 96 := by simp [stAt]
theorem stAll_len (nx : List (List Int)) : (stAll nx).length = 96 := by simp [stAll]
theorem stAt_zero (nx : List (List Int)) : stAt nx 0 0 = Z96 := by
  unfold Z96
  apply List.ext_getElem
  · simp [stAt]
  · intro i h1 h2
    rw [List.getElem_replicate]
    simp only [stAt, List.getElem_map, List.getElem_range]
    rw [if_neg (by omega)]
theorem stAt_next (nx : List (List Int)) (s : Nat) : stAt nx s 4 = stAt nx (s + 1) 0 := by
  unfold stAt
  apply List.map_congr_left
  intro c hc
  have hc := List.mem_range.1 hc
  by_cases h : c % 24 < s ∨ (c % 24 = s ∧ c / 24 < 4)
  · rw [if_pos h, if_pos (by omega)]
  · rw [if_neg h, if_neg (by omega)]
theorem stAt_all (nx : List (List Int)) : stAt nx nx.length 0 = stAll nx := by
  unfold stAt stAll
  apply List.map_congr_left
  intro c hc
  by_cases h : c % 24 < nx.length ∨ (c % 24 = nx.length ∧ c / 24 < 0)
  · rw [if_pos h]
  · rw [if_neg h, List.getD_eq_getElem?_getD (l := nx), List.getElem?_eq_none (by omega)]
    rfl
theorem stAt_set (nx : List (List Int)) (s l : Nat) (hs : s < 24) (hl : l < 4) : (stAt nx s l).set (l * 24 + s) ((nx.getD s []).getD l 0) = stAt nx s (l + 1) := by
  apply List.ext_getElem
  · simp [stAt]
  · intro i h1 h2
    have hi : i < 96 := by simpa [stAt] using h2
    rw [List.getElem_set]
    by_cases e : l * 24 + s = i
    · rw [if_pos e]
      simp only [stAt, List.getElem_map, List.getElem_range]
      rw [if_pos (by omega), show i % 24 = s from by omega, show i / 24 = l from by omega]
    · rw [if_neg e]
      simp only [stAt, List.getElem_map, List.getElem_range]
      by_cases h : i % 24 < s ∨ (i % 24 = s ∧ i / 24 < l)
      · rw [if_pos h, if_pos (by omega)]
      · rw [if_neg h, if_neg (by omega)]
theorem und_steps : Try.prog.underlying 239 = some (.array 4 197) := by kernel_rfl
theorem zero_steps : (Try.prog.info? 239).map (fun i => (i.zero, i.size)) = some (some (.agg (iv Z96).toArray), 96) := by kernel_rfl
/-- between two steps -/
def SSt (w : World) (nx : List (List Int)) (s l : Nat) (wr : World) : Prop :=
  wr.heap[w.heap.size + 1]? = some (.cells (iv (stAt nx s l)).toArray 239 (0, 0)) ∧ wr.heap[w.heap.size]? = some (.cells (iv Z96).toArray 239 (0, 0)) ∧ Below w.heap.size w wr
theorem SSt.start (w : World) (nx : List (List Int)) : SSt w nx 0 0 ((w.alloc (.cells (iv Z96).toArray 239)).alloc (.cells (iv Z96).toArray 239)) := by
  have h1 := heap_alloc_new (w.alloc (.cells (iv Z96).toArray 239)) (.cells (iv Z96).toArray 239)
  rw [show (w.alloc (.cells (iv Z96).toArray 239)).heap.size = w.heap.size + 1 from by simp] at h1
  have b2 := (Below.refl _ (w.alloc (.cells (iv Z96).toArray 239))).alloc (Nat.le_refl _) (.cells (iv Z96).toArray 239)
  exact ⟨by rw [stAt_zero]; exact h1, (b2.block _ (by simp)).trans (heap_alloc_new w _), ((Below.refl _ w).alloc (Nat.le_refl _) _).alloc (by simp) _⟩
theorem SSt.store {w wr : World} {nx : List (List Int)} {s l : Nat} (h : SSt w nx s l wr) (hs : s < 24) (hl : l < 4) :
    (∃ u, wr.cell? ⟨w.heap.size + 1, l * 24 + s, none⟩ = some u) ∧ wr.frozen? ⟨w.heap.size + 1, l * 24 + s, none⟩ = false ∧ SSt w nx s (l + 1) (wr.setCell ⟨w.heap.size + 1, l * 24 + s, none⟩ (.int .i64 ((nx.getD s []).getD l 0))) := by
  obtain ⟨h1, h2, h3⟩ := h
  refine ⟨?_, frozen_of_row _ _ _ _ _ h1, ?_, (Below.heap_setCell wr _ _ _ (by simp)).trans h2, h3.setCell (by simp) _⟩
  · rw [cell_of_row _ _ _ _ _ _ h1, List.getElem?_toArray]
    exact ⟨_, iv_get _ _ (by rw [stAt_len]; omega)⟩
  · rw [heap_setCell_same _ _ _ _ _ _ h1, ← stAt_set nx s l hs hl]
    simp [iv, List.map_set]
set_option maxRecDepth 100000 in
set_option maxHeartbeats 3200000 in
theorem stepsOf_any (v : Value) (nx : List (List Int)) (st : Int) (w : World) (hn : (nx.length : Int) = st) (h24 : st ≤ 24) (hrow : nx.all (rowOk st) = true) (h : IsLL w v nx) :
    Calls Try.prog 201 #[v] w fun e w' => e = .returned (.agg (iv (stAll nx)).toArray) ∧ Below w.heap.size w w' := by
  have hzv := (zero_of_info zero_steps).1
  have hN24 : nx.length ≤ 24 := by omega
  obtain ⟨A, c, rfl, hin⟩ := h
  have HI := Lib.hid hin
  have HROW := Lib.hid hrow
  obtain ⟨N, hNe⟩ : ∃ N, N = nx.length := ⟨_, rfl⟩
  rw [← hNe] at hN24 ⊢
  have HN := Lib.hid hNe
  clear hin hn hrow hNe
  go_enter Try.func201, Try.ntmps201
  go_upto_region 2 with fail
  have HST := Lib.hid (SSt.start w nx)
  generalize (w.alloc (.cells (iv Z96).toArray 239)).alloc (.cells (iv Z96).toArray 239) = w3 at *
  clear hzv
  go_wp2_with fail
  go_loopw [10] (fun i wr => ∃ s : Nat, s ≤ N ∧ i = .int .i64 s ∧ SSt w nx s 0 wr) (fun i _ => N - (intOf i).toNat)
  case atStart => exact ⟨0, Nat.zero_le _, rfl, HST.out⟩
  case round =>
    obtain ⟨s, hs, rfl, hst⟩ := hrel
    obtain ⟨wo, rfl⟩ : ∃ wo : World, wo = wr := ⟨_, rfl⟩
    have HS := Lib.hid hst
    by_cases hlt : s < N
    · have hsn : s < nx.length := by rw [← HN.out]; exact hlt
      rcases HI.out with hn | ⟨x, rfl, hc⟩
      · rw [hn] at hsn; simp at hsn
      obtain ⟨u, c0, hu⟩ := hc s hsn
      have d0 := (hst.2.2.cell (lt_of_cell c0)).trans c0
      have hr4 : nx[s].length = 4 := by
        have hq := List.all_eq_true.1 HROW.out _ (List.getElem_mem hsn)
        unfold rowOk at hq
        rw [Bool.and_eq_true, decide_eq_true_iff] at hq
        exact hq.1
      have HU := Lib.hid hu
      obtain ⟨A2, c2, rfl, hcx⟩ := hu
      rw [hr4] at d0
      rcases hcx with hn | ⟨y, rfl, hz⟩
      · rw [hn] at hr4; simp at hr4
      have HZ : Hid (∀ l, l < 4 → ∀ W, Below w.heap.size w W → W.cell? (y.add l) = some (.int .i64 ((nx.getD s []).getD l 0))) := Lib.hid (fun l hl W hb => by
        rw [List.getD_eq_getElem?_getD (l := nx), List.getElem?_eq_getElem hsn, Option.getD_some, List.getD_eq_getElem?_getD, List.getElem?_eq_getElem (by omega), Option.getD_some]
        exact (hb.cell (lt_of_cell (hz l (by omega)))).trans (hz l (by omega)))
      have hs0 : (0 : Int) ≤ (s : Int) := by omega
      have hs1 : (s : Int) < (N : Int) := by omega
      have hs24 : (s : Int) < 24 := by omega
      clear c0 hc hz hr4 hsn hst HU
      go_wp2_with fail
      go_loopw [17] (fun i wr => ∃ l : Nat, l ≤ 4 ∧ i = .int .i64 l ∧ SSt w nx s l wr) (fun i _ => 4 - (intOf i).toNat)
      case atStart => exact ⟨0, by omega, rfl, HS.out⟩
      case round =>
        obtain ⟨l, hl, rfl, hst⟩ := hrel
        obtain ⟨wu, rfl⟩ : ∃ wu : World, wu = wr := ⟨_, rfl⟩
        by_cases hl4 : l < 4
        · obtain ⟨⟨u0, e0⟩, f0, hnx⟩ := hst.store (by omega) hl4
          have HNX := Lib.hid hnx
          have z0 := HZ.out l hl4 wu hst.2.2
          generalize (nx.getD s []).getD l 0 = z at *
          have hl0 : (0 : Int) ≤ (l : Int) := by omega
          have hl1 : (l : Int) < 4 := by omega
          clear hst hnx
          go_wp2_with fail
          go_roundw
          all_goals first | exact ⟨l + 1, by omega, by go_num, HNX.out⟩ | ((repeat apply Exists.intro); exact ⟨⟨l + 1, by omega, by go_num, HNX.out⟩, rfl⟩) | (simp [intOf]; done) | (simp [intOf]; omega) | omega
        · obtain rfl : l = 4 := by omega
          have HS4 : Hid (SSt w nx (s + 1) 0 wu) := Lib.hid (by unfold SSt at hst ⊢; rw [← stAt_next]; exact hst)
          clear hst
          go_wp2_with fail
          go_roundw
          all_goals first | exact ⟨s + 1, by omega, by go_num, HS4.out⟩ | ((repeat apply Exists.intro); exact ⟨⟨s + 1, by omega, by go_num, HS4.out⟩, rfl⟩) | (simp [intOf]; done) | (simp [intOf]; omega) | omega
    · obtain rfl : s = N := by omega
      obtain ⟨hP, hR, hB⟩ := hst
      rw [show stAt nx s 0 = stAll nx from by rw [HN.out]; exact stAt_all nx] at hP
      have hsm : (Try.prog.info? 239).map (·.size) = some (iv (stAll nx)).toArray.size := by rw [(zero_of_info zero_steps).2]; simp [iv, stAll_len]
      have hz : (iv Z96).toArray.size = (iv (stAll nx)).toArray.size := by simp [iv, stAll_len, Z96]
      have h1 : (iv (stAll nx)).toArray.all (·.oneCell') = true := all_oneCell_toArray (fun v hv => by obtain ⟨x, _, rfl⟩ := List.mem_map.1 hv; rfl)
      have HR9 : Hid ((wo.setRow w.heap.size (iv (stAll nx)).toArray).heap[w.heap.size]? = some (.cells (iv (stAll nx)).toArray 239 (0, 0))) := Lib.hid (setRow_heap wo w.heap.size _ _ _ _ hR)
      have HB9 : Hid (Below w.heap.size w (wo.setRow w.heap.size (iv (stAll nx)).toArray)) := Lib.hid (bSetRow hB (Nat.le_refl _) _)
      have HSZ := Lib.hid hsm
      have HH := Lib.hid (And.intro hP (And.intro hR (And.intro hz h1)))
      clear HS hB hP hR hz h1 hsm
      go_upto_region 11 with fail
      go_wp2_with (first
        | (with_reducible refine wpList_load_row rfl 239 _ rfl (w.heap.size + 1) rfl 239 _ _ _ HH.out.1 und_steps rfl HSZ.out ?_)
        | (with_reducible refine wpList_store_row rfl 239 _ _ rfl w.heap.size _ rfl rfl 239 _ HH.out.2.1 HSZ.out HH.out.2.2.1 HH.out.2.2.2 ?_))
      refine bodyPost_ret (v := .agg (iv (stAll nx)).toArray) (results_cell_row rfl _ _ w.heap.size 239 _ (0, 0) _ rfl HR9.out und_steps rfl HSZ.out) rfl ⟨rfl, HB9.out⟩
end Go.Proofs.Ytaffachjopjbgaa
namespace Go.Proofs
open Go.Shelf
def Try.lays143_ren : Go.Shelf.Ren := ⟨fun | 143 => 183 | 219 => 218 | 217 => 228 | 225 => 229 | 224 => 230 | 267 => 231 | 266 => 234 | 314 => 235 | n => n, fun | 9 => 9 | 3 => 3 | 4 => 4 | 5 => 5 | 46 => 267 | 146 => 271 | 51 => 270 | n => n, fun | 1 => 0 | n => n⟩
theorem Try.lays143 : Go.Proofs.Lays.n143 Try.prog Try.lays143_ren := {
  mixed := by kernel_rfl
  f143 := Try.func183.trans (congrArg some (by kernel_rfl))
  f217 := Try.func228.trans (congrArg some (by kernel_rfl))
  f219 := Try.func218.trans (congrArg some (by kernel_rfl))
  f224 := Try.func230.trans (congrArg some (by kernel_rfl))
  f225 := Try.func229.trans (congrArg some (by kernel_rfl))
  f266 := Try.func234.trans (congrArg some (by kernel_rfl))
  f267 := Try.func231.trans (congrArg some (by kernel_rfl))
  f314 := Try.func235.trans (congrArg some (by kernel_rfl))
  t3 := Try.underlying3
  a3 := Try.isAgg3
  z3 := Try.sizeOf3
  v3 := Try.zeroValue3
  t4 := Try.underlying4
  a4 := Try.isAgg4
  z4 := Try.sizeOf4
  v4 := Try.zeroValue4
  t5 := Try.underlying5
  a5 := Try.isAgg5
  z5 := Try.sizeOf5
  v5 := Try.zeroValue5
  t9 := Try.underlying9
  a9 := Try.isAgg9
  z9 := Try.sizeOf9
  v9 := Try.zeroValue9
  t46 := Try.underlying267
  a46 := Try.isAgg267
  z46 := Try.sizeOf267
  v46 := Try.zeroValue267
  t51 := Try.underlying270
  a51 := Try.isAgg270
  z51 := Try.sizeOf270
  v51 := Try.zeroValue270
  t146 := Try.underlying271
  a146 := Try.isAgg271
  z146 := Try.sizeOf271
  v146 := Try.zeroValue271
  g1 := by kernel_rfl }
open Go.RowKit Go.Lib in
theorem Try.strings_Index_one (s : ByteArray) (c : UInt8) (w : World) :
    Calls Try.prog 183 #[.string s, .string ⟨#[c]⟩] w fun e w' => e = .returned (.int .i64 (Lib.indexByte s.data.toList c)) ∧ w' = w := Any.strings_Index_one Try.lays143 s c w
def Try.lays100_ren : Go.Shelf.Ren := ⟨fun | 100 => 166 | 207 => 207 | n => n, fun | 9 => 9 | 4 => 4 | 3 => 3 | n => n, fun | n => n⟩
theorem Try.lays100 : Go.Proofs.Lays.n100 Try.prog Try.lays100_ren := {
  mixed := by kernel_rfl
  f100 := Try.func166.trans (congrArg some (by kernel_rfl))
  f207 := Try.func207.trans (congrArg some (by kernel_rfl))
  t3 := Try.underlying3
  a3 := Try.isAgg3
  z3 := Try.sizeOf3
  v3 := Try.zeroValue3
  t4 := Try.underlying4
  a4 := Try.isAgg4
  z4 := Try.sizeOf4
  v4 := Try.zeroValue4
  t9 := Try.underlying9
  a9 := Try.isAgg9
  z9 := Try.sizeOf9
  v9 := Try.zeroValue9 }
open Go.RowKit Go.Lib in
theorem Try.strings_HasSuffix (s p : ByteArray) (w : World) (hs : s.size ≤ 9223372036854775807) :
    Calls Try.prog 166 #[.string s, .string p] w fun e w' => e = .returned (.bool (Lib.hasSuffix s.data.toList p.data.toList)) ∧ w' = w := Any.strings_HasSuffix Try.lays100 s p w hs

end Go.Proofs
namespace Go.Proofs.Ytaffachjopjbgaa
open Go.RowKit
open Wd
set_option linter.unusedVariables false
theorem idx_letter (b : UInt8) (d : Nat) (hb : (b.toNat : Int) = (d : Int) + 97) (hd : d < 4) (w : World) :
    Calls Try.prog 183 #[.string ⟨#[97, 98, 99, 100]⟩, .string ⟨#[b]⟩] w fun e w' => e = .returned (.int .i64 (d : Int)) ∧ w' = w := by
  refine (Try.strings_Index_one ⟨#[97, 98, 99, 100]⟩ b w).mono fun e w' he => ⟨he.1.trans (ret_int ?_), he.2⟩
  obtain rfl : b = UInt8.ofNat (d + 97) := by
    apply UInt8.toNat_inj.1
    simp
    omega
  match d, hd with
  | 0, _ => rfl
  | 1, _ => rfl
  | 2, _ => rfl
  | 3, _ => rfl
end Go.Proofs.Ytaffachjopjbgaa
namespace Go.Proofs.Ytaffachjopjbgaa
open Go.RowKit
open Wd
set_option linter.unusedVariables false
theorem step_load_mid {P : Program} {ops : Array Oper} {o : Oper} {a : Act} {w : World} {K : Act → World → Prop} {Q : Exit → Act → World → Prop} {E : Prop} (hgd : o.guard = none) (ty : TypeId) (x : Operand) (ho : o.op = .load ty x)
    (b off : Nat) (hx : a.eval x = .pointer (some ⟨b, off, none⟩)) (cs : List Value) (d : TypeDesc) (hc : w.rangeAt b off cs)
    (hu : P.underlying ty = some d) (hd : d.isRow = true) (hi : (P.info? ty).map (·.size) = some cs.length)
    (h : K (a.put o.dst (.agg cs.toArray)) w) : if Region.wanted o (yielded ops a.tmps) = true then Oper.wp P o a w K Q else E := by
  rw [if_pos (by simp [Region.wanted, hgd])]
  exact wp_load_mid ty x ho b off hx cs d hc hu hd hi h
theorem step_store_mid {P : Program} {ops : Array Oper} {o : Oper} {a : Act} {w : World} {K : Act → World → Prop} {Q : Exit → Act → World → Prop} {E : Prop} (hgd : o.guard = none) (ty : TypeId) (x y : Operand) (ho : o.op = .store ty x y)
    (b off : Nat) (cells : Array Value) (hx : a.eval x = .pointer (some ⟨b, off, none⟩)) (hy : a.eval y = .agg cells)
    (ht : w.there b off cells.size) (hi : (P.info? ty).map (·.size) = some cells.size) (h1 : cells.all (·.oneCell') = true)
    (h : K (a.put o.dst undef) (w.setCells b off cells.toList)) : if Region.wanted o (yielded ops a.tmps) = true then Oper.wp P o a w K Q else E := by
  rw [if_pos (by simp [Region.wanted, hgd])]
  exact wp_store_mid ty x y ho b off cells hx hy ht hi h1 h
theorem takeH {P : Program} {md : Region.Mode} {ops : Array Oper} {Q : Exit → Act → World → Prop} {S : World → Prop} {i : Nat} {dst : Option Tmp} {op : Op} {ty : TypeId} {pos : String} {aft : Array Edge} {v : Value} {fuel : Nat} {listed : Array Bool} {a : Act} {w : World}
    (hi : ops[i]? = some ⟨dst, op, ty, pos, aft, none⟩) (hs : Region.noSelect ops = true) (hf : Region.free md ops listed i = true) (hr : (Region.ready md ops listed).contains i = true)
    (hQ : ∀ c a w, Q (.panic c) (a.put dst v) w → Q (.panic c) a w) (hy : YieldsIf P ops S ⟨dst, op, ty, pos, aft, none⟩ v a) (hS : S w)
    (h : wpAnyH P md ops Q S fuel (listed.setIfInBounds i true) (a.put dst v) w) : wpAnyH P md ops Q S (fuel + 1) listed a w :=
  wpAnyH_take hi hs hf hr hQ hy hS h
def rowD (d : TypeDesc) : Bool := match d with | .struct _ | .array _ _ => true | _ => false
theorem load_row' {P : Program} (w : World) (g : Nat) (t ty : TypeId) (cs : Array Value) (fr : Nat × Nat) (d : TypeDesc) (hd : rowD d = true) (hg : w.heap[g]? = some (.cells cs t fr)) (hu : P.underlying ty = some d) (hi : (P.info? ty).map (·.size) = some cs.size) :
    (loadVar ty ⟨g, 0, none⟩).run P w = .ok (.agg cs) w := by
  refine run_loadVar_row w g t ty cs fr d hg hu ?_ hi
  cases d <;> simp_all [rowD]
theorem results_row_slot {P : Program} {fn : Func} {p q : Tmp} {ty : TypeId} (h : fn.results = #[.cell p ty, .tmp q]) (tmps : Array Value) (w : World) (g : Nat) (t : TypeId) (cs : Array Value) (fr : Nat × Nat) (d : TypeDesc)
    (hp : tmps.getD p undef = .pointer (some ⟨g, 0, none⟩)) (hg : w.heap[g]? = some (.cells cs t fr))
    (hu : P.underlying ty = some d) (hd : rowD d = true) (hi : (P.info? ty).map (·.size) = some cs.size) (b : Value) (hb : tmps.getD q undef = b) :
    (results fn tmps).run P w = .ok (.tuple #[.agg cs, b]) w := by
  have hp' : tmps[p]?.getD undef = .pointer (some ⟨g, 0, none⟩) := by simpa using hp
  have hb' : tmps[q]?.getD undef = b := by simpa using hb
  simp [results, h, hp', hb', asAddr, load_row' w g t ty cs fr d hd hg hu hi]
theorem wpList_load_rowD {P : Program} {ops : Array Oper} {rest : List Oper} {o : Oper} {a : Act} {w : World} {Q : Exit → Act → World → Prop} {d : TypeDesc} (hd : rowD d = true) (hgd : o.guard = none) (ty : TypeId) (x : Operand) (ho : o.op = .load ty x)
    (g : Nat) (hx : a.eval x = .pointer (some ⟨g, 0, none⟩)) (t : TypeId) (cs : Array Value) (fr : Nat × Nat) (hg : w.heap[g]? = some (.cells cs t fr))
    (hu : P.underlying ty = some d) (hi : (P.info? ty).map (·.size) = some cs.size)
    (h : wpList P ops Q rest (a.put o.dst (.agg cs)) w) : wpList P ops Q (o :: rest) a w := by
  refine wpList_load_row hgd ty x ho g hx t cs fr d hg hu ?_ hi h
  cases d <;> simp_all [rowD]
theorem grown_setRow (w : World) (R : Nat) (cs : Array Value) : w.grownBy (w.setRow R cs) (some R) :=
  ⟨rfl, rfl, rfl, by rw [size_setRow]; exact Nat.le_refl _, fun i hi hne => by
    show (w.heap.modify R _)[i]? = _
    rw [Array.getElem?_modify, if_neg (fun e => hne (by rw [e]))]⟩
theorem und_row {t : TypeId} (h : (Try.prog.underlying t).map rowD = some true) : ∃ d, Try.prog.underlying t = some d ∧ rowD d = true := by
  cases hq : Try.prog.underlying t with
  | none => simp [hq] at h
  | some d => exact ⟨d, rfl, by rw [hq] at h; simpa using h⟩
theorem step_append_fits {P : Program} {ops : Array Oper} {o : Oper} {a : Act} {w : World} {K : Act → World → Prop} {Q : Exit → Act → World → Prop} {E : Prop}
    (hg : o.guard = none) (s x : Operand) (t : TypeId) (hop : o.op = Op.call { callee := Callee.builtin Builtin.append, args := #[s, x], argTypes := #[t, t] })
    (base : Nat) (e : TypeId) (i : TypeInfo) (size : Nat) (h1 : P.underlying t = some (.slice e)) (h2 : P.info? e = some i) (h4 : i.size = size)
    (g k cap : Nat) (xs : List Value) (hs : a.eval s = .slice (some ⟨g, 0, none⟩) k cap) (hown : w.ownsRow base e size (.slice (some ⟨g, 0, none⟩) k cap) k xs) (ad : Addr) (m c : Nat) (news : List Value) (hx : a.eval x = .slice (some ad) m c) (hn : news.length = m * size)
    (hc : ∀ j u, news[j]? = some u → w.cell? (ad.add j) = some u) (h1c : ∀ u ∈ news, u.oneCell' = true) (b1 : k + m ≤ cap)
    (hK : ∀ w', w'.ownsRow base e size (.slice (some ⟨g, 0, none⟩) (k + m) cap) (k + m) (xs ++ news) → w.grownBy w' (some g) → K (a.put o.dst (.slice (some ⟨g, 0, none⟩) (k + m) cap)) w') :
    if Region.wanted o (yielded ops a.tmps) = true then Oper.wp P o a w K Q else E := by
  have hw : Region.wanted o (yielded ops a.tmps) = true := by simp [Region.wanted, hg]
  rw [if_pos hw]
  obtain ⟨w', hrun, r1, r2⟩ := run_append_fits (P := P) w base t o.type e i size h1 h2 h4 g k cap xs hown ad m c news hn hc h1c b1
  unfold Oper.wp
  simp [execOp, hop, resolve, invoke, builtin, hs, hx, hrun, Result.andThen]
  exact hK w' r1 r2
theorem cells_below {w w' : World} (hb : Below w.heap.size w w') : ∀ p v, w.cell? p = some v → w'.cell? p = some v := fun p v h => (hb.cell (lt_of_cell h)).trans h
theorem news4 (w : World) (a b c d : Int) (t : TypeId) : ∀ j u, [Value.int .i64 a, .int .i64 b, .int .i64 c, .int .i64 d][j]? = some u → (w.alloc (.cells #[.int .i64 a, .int .i64 b, .int .i64 c, .int .i64 d] t)).cell? ((⟨w.heap.size, 0, none⟩ : Addr).add j) = some u :=
  World.news_of_block (cs := #[.int .i64 a, .int .i64 b, .int .i64 c, .int .i64 d]) (t := t) (fr := (0, 0)) (heap_alloc_new w _)
theorem one4 (a b c d : Int) : ∀ u ∈ [Value.int .i64 a, .int .i64 b, .int .i64 c, .int .i64 d], u.oneCell' = true := by
  intro u hu
  simp only [List.mem_cons, List.not_mem_nil, or_false] at hu
  rcases hu with rfl | rfl | rfl | rfl <;> rfl
theorem tt_ll (v : Value) (w : World) : (Instr.typeAssert (.iface 211 v) 194 211 true).run Try.prog w = .ok (.tuple #[v, .bool true]) w := by kernel_rfl
theorem tt_pl (v : Value) (w : World) : (Instr.typeAssert (.iface 198 v) 194 211 true).run Try.prog w = .ok (.tuple #[.agg #[.string ⟨#[]⟩, .int .i64 0, .int .i64 0], .bool false]) w := by kernel_rfl
theorem tt_pp (v : Value) (w : World) : (Instr.typeAssert (.iface 198 v) 194 198 true).run Try.prog w = .ok (.tuple #[v, .bool true]) w := by kernel_rfl
theorem tt_lp (v : Value) (w : World) : (Instr.typeAssert (.iface 211 v) 194 198 true).run Try.prog w = .ok (.tuple #[.agg #[.string ⟨#[]⟩, .int .i64 0, .int .i64 0], .bool false]) w := by kernel_rfl
/-- a block of four that is written whole -/
theorem there4 {w : World} {V : Nat} {t : TypeId} {a b c d : Value} (h : w.heap[V]? = some (.cells #[a, b, c, d] t (0, 0))) : w.there V 0 4 := by
  intro j hj
  refine ⟨?_, frozen_of_row _ _ _ _ _ h⟩
  rw [cell_of_row _ _ _ _ _ _ h]
  obtain rfl | rfl | rfl | rfl : j = 0 ∨ j = 1 ∨ j = 2 ∨ j = 3 := by omega
  all_goals rfl
end Go.Proofs.Ytaffachjopjbgaa
namespace Go.Proofs.Ytaffachjopjbgaa
open Go.RowKit
open Wd
set_option linter.unusedVariables false
/-- cells of a row of one's own, stored one behind the other -/
theorem own_setCells {B e s g c n : Nat} : ∀ (vs : List Value) (o : Nat) (w : World) (xs : List Value), w.ownsRow B e s (.slice (some ⟨g, 0, none⟩) n c) n xs → o + vs.length ≤ xs.length →
    (w.setCells g o vs).ownsRow B e s (.slice (some ⟨g, 0, none⟩) n c) n (xs.take o ++ vs ++ xs.drop (o + vs.length))
  | [], o, w, xs, h, ho => by
    have : xs.take o ++ [] ++ xs.drop (o + ([] : List Value).length) = xs := by simp
    rw [this]; exact h
  | v :: r, o, w, xs, h, ho => by
    have h1 := (h.stored o v).1
    have ho' : o < xs.length := by simp at ho; omega
    have h2 := own_setCells r (o + 1) _ _ h1 (by simp at ho ⊢; omega)
    have e1 : (xs.set o v).take (o + 1) ++ r ++ (xs.set o v).drop (o + 1 + r.length) = xs.take o ++ v :: r ++ xs.drop (o + (v :: r).length) := by
      rw [List.take_succ_eq_append_getElem (by simpa using ho'), List.take_set_of_le (Nat.le_refl _), List.drop_set_of_lt (by omega)]
      simp [Nat.add_assoc, Nat.add_comm 1]
    rw [e1] at h2
    exact h2
theorem below_setCells {B : Nat} {w : World} : ∀ (vs : List Value) (g o : Nat) (w' : World), B ≤ g → Below B w w' → Below B w (w'.setCells g o vs)
  | [], g, o, w', hg, h => h
  | v :: r, g, o, w', hg, h => below_setCells r g (o + 1) _ hg (h.setCell (p := ⟨g, o, none⟩) hg v)
theorem heap_setCells (b : Nat) : ∀ (vs : List Value) (g o : Nat) (w : World), b ≠ g → (w.setCells g o vs).heap[b]? = w.heap[b]?
  | [], g, o, w, h => rfl
  | v :: r, g, o, w, h => (heap_setCells b r g (o + 1) _ h).trans (Below.heap_setCell w ⟨g, o, none⟩ v b h)
namespace Wd
/-- all rows of maps are 24 wide -/
def wide (ms : List (List Int)) : Prop := ∀ r ∈ ms, r.length = 24
/-- the maps so far, and zeros -/
def flK (ms : List (List Int)) (n : Nat) : List Int := ms.flatten ++ List.replicate ((n - ms.length) * 24) 0
end Wd
theorem flat_len : ∀ (ms : List (List Int)), wide ms → ms.flatten.length = ms.length * 24
  | [], _ => rfl
  | r :: ms, h => by
    rw [List.flatten_cons, List.length_append, h r (by simp), flat_len ms (fun x hx => h x (by simp [hx])), List.length_cons]
    omega
theorem flat_get : ∀ (ms : List (List Int)), wide ms → ∀ j i, j < ms.length → i < 24 → ms.flatten[j * 24 + i]? = some ((ms.getD j []).getD i 0)
  | [], _, j, i, hj, _ => by simp at hj
  | r :: ms, h, j, i, hj, hi => by
    have hr := h r (by simp)
    rw [List.flatten_cons]
    cases j with
    | zero =>
      rw [List.getElem?_append_left (by omega)]
      simp only [Nat.zero_mul, Nat.zero_add, List.getD_cons_zero]
      rw [List.getD_eq_getElem?_getD, List.getElem?_eq_getElem (by omega)]
      rfl
    | succ j =>
      rw [List.getElem?_append_right (by omega), hr, show (j + 1) * 24 + i - 24 = j * 24 + i from by omega, List.getD_cons_succ]
      exact flat_get ms (fun x hx => h x (by simp [hx])) j i (by simpa using hj) hi
theorem flK_len (ms : List (List Int)) (n : Nat) (h : wide ms) (hn : ms.length ≤ n) : (flK ms n).length = n * 24 := by
  unfold flK
  rw [List.length_append, flat_len ms h, List.length_replicate]
  omega
theorem flK_store (ms : List (List Int)) (n : Nat) (r : List Int) (h : wide ms) (hr : r.length = 24) (hn : ms.length < n) : (iv (flK ms n)).take (ms.length * 24) ++ iv r ++ (iv (flK ms n)).drop (ms.length * 24 + (iv r).length) = iv (flK (ms ++ [r]) n) := by
  have hf := flat_len ms h
  unfold flK
  rw [iv_app, List.take_append_of_le_length (by rw [iv_len]; omega), List.take_of_length_le (by rw [iv_len]; omega), List.drop_append, iv_len, iv_len, hf, hr, List.drop_of_length_le (by rw [iv_len]; omega)]
  rw [List.flatten_append, iv_app, iv_app]
  simp only [List.flatten_cons, List.flatten_nil, List.append_nil, List.nil_append, List.length_append, List.length_cons, List.length_nil]
  congr 1
  rw [show ms.length * 24 + 24 - ms.length * 24 = 24 from by omega, show (n - ms.length) * 24 = 24 + (n - (ms.length + 1)) * 24 from by omega]
  simp [iv, List.map_replicate, List.drop_replicate]
/-- maps in a slice, in a block from lo on -/
def IsMs (w : World) (lo : Nat) (v : Value) (ms : List (List Int)) : Prop :=
  ∃ (A : Option Addr) (c : Nat), v = .slice A ms.length c ∧ (ms = [] ∨ ∃ g, A = some ⟨g, 0, none⟩ ∧ (lo ≤ g ∧ g < w.heap.size) ∧ ∀ j i, j < ms.length → i < 24 → w.cell? ⟨g, j * 24 + i, none⟩ = some (.int .i64 ((ms.getD j []).getD i 0)))
theorem IsMs.kept {w w' : World} {lo : Nat} {v : Value} {ms : List (List Int)} (h : IsMs w lo v ms) (hb : Below w.heap.size w w') : IsMs w' lo v ms := by
  obtain ⟨A, c, hv, h | ⟨g, hA, hg, hc⟩⟩ := h
  · exact ⟨A, c, hv, .inl h⟩
  · exact ⟨A, c, hv, .inr ⟨g, hA, ⟨hg.1, Nat.lt_of_lt_of_le hg.2 hb.size⟩, fun j i hj hi => (hb.cell (p := ⟨g, j * 24 + i, none⟩) hg.2).trans (hc j i hj hi)⟩⟩
theorem IsMs.lower {w : World} {lo B : Nat} {v : Value} {ms : List (List Int)} (h : IsMs w lo v ms) (hB : B ≤ lo) : IsMs w B v ms := by
  obtain ⟨A, c, hv, h | ⟨g, hA, hg, hc⟩⟩ := h
  · exact ⟨A, c, hv, .inl h⟩
  · exact ⟨A, c, hv, .inr ⟨g, hA, ⟨by omega, hg.2⟩, hc⟩⟩
theorem IsMs.far {w : World} {lo : Nat} {v : Value} {ms : List (List Int)} (h : IsMs w lo v ms) (p : Addr) (u : Value) (hp : p.block < lo) : IsMs (w.setCell p u) lo v ms := by
  obtain ⟨A, c, hv, h | ⟨g, hA, hg, hc⟩⟩ := h
  · exact ⟨A, c, hv, .inl h⟩
  · exact ⟨A, c, hv, .inr ⟨g, hA, ⟨hg.1, by simpa using hg.2⟩, fun j i hj hi => (World.cell?_of_block (a := ⟨g, j * 24 + i, none⟩) (Below.heap_setCell w p u g (by omega))).trans (hc j i hj hi)⟩⟩
theorem isMs_of_own {w : World} {B e g c n : Nat} {ms : List (List Int)} (h : w.ownsRow B e 24 (.slice (some ⟨g, 0, none⟩) n c) n (iv (flK ms n))) (hw : wide ms) (hn : ms.length = n) : IsMs w B (.slice (some ⟨g, 0, none⟩) n c) ms := by
  refine ⟨_, c, by rw [hn], .inr ⟨g, rfl, h.lt g rfl, fun j i hj hi => ?_⟩⟩
  have hf := flat_get ms hw j i hj hi
  have hl := flat_len ms hw
  have hlt : j * 24 + i < (flK ms n).length := by rw [flK_len ms n hw (by omega)]; omega
  rw [h.cellAt (j * 24 + i) (by rw [flK_len ms n hw (by omega)] at hlt; omega), iv_get _ _ hlt]
  have e : (flK ms n)[j * 24 + i]? = some ((ms.getD j []).getD i 0) := by
    unfold flK
    rw [List.getElem?_append_left (by rw [hl]; omega)]
    exact hf
  rw [List.getElem?_eq_getElem hlt] at e
  injection e with e
  rw [e]
/-- a map of a row of one's own, as a range -/
theorem range_of_own {w : World} {B e g c n : Nat} {ms : List (List Int)} (h : w.ownsRow B e 24 (.slice (some ⟨g, 0, none⟩) n c) n (iv (flK ms n))) (hw : wide ms) (hn : ms.length ≤ n) (j : Nat) (hj : j < ms.length) : w.rangeAt g (j * 24) (iv (ms.getD j [])) := by
  intro i v hv
  have hrow : (ms.getD j []).length = 24 := by rw [List.getD_eq_getElem?_getD, List.getElem?_eq_getElem hj]; exact hw _ (List.getElem_mem hj)
  have hi : i < 24 := by have := (List.getElem?_eq_some_iff.1 hv).1; rw [iv_len, hrow] at this; exact this
  rw [iv_get _ i (by omega)] at hv
  injection hv with hv
  subst hv
  have hf := flat_get ms hw j i hj hi
  have hl := flat_len ms hw
  have hlt : j * 24 + i < (flK ms n).length := by rw [flK_len ms n hw hn]; omega
  rw [h.cellAt (j * 24 + i) (by rw [flK_len ms n hw hn] at hlt; omega), iv_get _ _ hlt]
  have e : (flK ms n)[j * 24 + i]? = some ((ms.getD j []).getD i 0) := by
    unfold flK
    rw [List.getElem?_append_left (by rw [hl]; omega)]
    exact hf
  rw [List.getElem?_eq_getElem hlt] at e
  injection e with e
  rw [e, List.getD_eq_getElem?_getD, List.getElem?_eq_getElem (by omega)]
  rfl
theorem there_of_own {w : World} {B e g c n : Nat} {ms : List (List Int)} (h : w.ownsRow B e 24 (.slice (some ⟨g, 0, none⟩) n c) n (iv (flK ms n))) (hw : wide ms) (hn : ms.length < n) : w.there g (ms.length * 24) 24 := by
  intro i hi
  have hlt : ms.length * 24 + i < (flK ms n).length := by rw [flK_len ms n hw (by omega)]; omega
  refine ⟨?_, h.frozenAt _⟩
  rw [h.cellAt _ (by rw [flK_len ms n hw (by omega)] at hlt; omega), iv_get _ _ hlt]
  rfl
theorem Try.info_map : (Try.prog.info? 197).map (fun i => (i.zero, i.size, i.bytes)) = some (some (.agg (iv (List.replicate 24 0)).toArray), 24, 192) := by kernel_rfl
theorem made_map (n : Nat) : (madeCells (Value.agg (iv (List.replicate 24 0)).toArray).cells (n * 24)).toList = iv (flK [] n) := by
  apply List.ext_getElem
  · simp [madeCells, iv, flK]
  · intro i h1 h2
    have : (i % 24) < 24 := Nat.mod_lt _ (by omega)
    simp only [madeCells, iv, flK, Value.cells]
    simp
    show (List.replicate 24 (Value.int .i64 0))[i % 24]?.getD default = _
    rw [List.getElem?_replicate, if_pos this]
    rfl
theorem tm_ll (v : Value) (w : World) : (Instr.typeAssert (.iface 211 v) 194 211 true).run Try.prog w = .ok (.tuple #[v, .bool true]) w := by kernel_rfl
theorem tm_pl (v : Value) (w : World) : (Instr.typeAssert (.iface 198 v) 194 211 true).run Try.prog w = .ok (.tuple #[.agg #[.string ⟨#[]⟩, .int .i64 0, .int .i64 0], .bool false]) w := by kernel_rfl
theorem tm_pp (v : Value) (w : World) : (Instr.typeAssert (.iface 198 v) 194 198 true).run Try.prog w = .ok (.tuple #[v, .bool true]) w := by kernel_rfl
theorem range_steps {w : World} {T : Nat} {nx : List (List Int)} {t : TypeId} (h : w.heap[T]? = some (.cells (iv (stAll nx)).toArray t (0, 0))) (d : Nat) (hd : d < 4) : w.rangeAt T (d * 24) (iv (stepsRow nx d)) := by
  intro i v hv
  have hi : i < 24 := by have := (List.getElem?_eq_some_iff.1 hv).1; rw [iv_len, stepsRow_len] at this; exact this
  rw [iv_get _ i (by rw [stepsRow_len]; exact hi)] at hv
  injection hv with hv
  subst hv
  rw [cell_of_row _ _ _ _ _ _ h, List.getElem?_toArray, iv_get _ _ (by rw [stAll_len]; omega)]
  simp only [stAll, stepsRow, List.getElem_map, List.getElem_range]
  rw [show (d * 24 + i) % 24 = i from by omega, show (d * 24 + i) / 24 = d from by omega]
theorem mapsK_wide {nx : List (List Int)} {st : Int} {gs : List Rl} (h : nx.all (rowOk st) = true) (hl : (nx.length : Int) = st) (h1 : 1 ≤ st) (h24 : st ≤ 24) (hfit : fits gs = true) (k : Nat) (hk : k ≤ gs.length) : wide (mapsK nx gs k) := by
  intro r hr
  obtain ⟨j, hj, rfl⟩ := List.mem_iff_getElem.1 hr
  have hjk : j < k := by rwa [mapsK_len] at hj
  have := (mapsK_ok h hl h1 h24 hfit k hk j hjk).1
  rwa [List.getD_eq_getElem?_getD, List.getElem?_eq_getElem hj, Option.getD_some] at this
/-- what holds between two rules: w is the world ahead of the maps, which lie in block M -/
def WkRel (nx : List (List Int)) (gs : List Rl) (w : World) (M n : Nat) (i : Value) (wr : World) : Prop :=
  ∃ k : Nat, k ≤ n ∧ i = .int .i64 k ∧ wr.ownsRow M 197 24 (.slice (some ⟨M, 0, none⟩) n n) n (iv (flK (mapsK nx gs k) n)) ∧ Below M w wr
theorem wk_store {w : World} {M n : Nat} {ms : List (List Int)} {row : List Int} (h : w.ownsRow M 197 24 (.slice (some ⟨M, 0, none⟩) n n) n (iv (flK ms n))) (hw : wide ms) (hr : row.length = 24) (hn : ms.length < n) :
    (w.setCells M (ms.length * 24) (iv row)).ownsRow M 197 24 (.slice (some ⟨M, 0, none⟩) n n) n (iv (flK (ms ++ [row]) n)) := by
  have := own_setCells (iv row) (ms.length * 24) w _ h (by rw [iv_len, iv_len, hr, flK_len ms n hw (by omega)]; omega)
  rwa [flK_store ms n row hw hr hn] at this
theorem mapsK_next (nx : List (List Int)) (gs : List Rl) (k : Nat) (h : k < gs.length) : mapsK nx gs (k + 1) = mapsK nx gs k ++ [rowM nx (mapsK nx gs k) gs[k]] := by
  rw [mapsK, List.getD_eq_getElem?_getD, List.getElem?_eq_getElem h]
  rfl
/-- a walk's value over rules that came in; its lengths and maps lie in blocks from lo on -/
def IsW (w : World) (lo : Nat) (wv gv : Value) (gs : List Rl) (nx : List (List Int)) (go : Int) : Prop :=
  ∃ lv mv, wv = .agg #[gv, lv, mv, .int .i64 go] ∧ OwnsI w lo lv (lens gs) ∧ IsMs w lo mv (mapsK nx gs gs.length)
theorem IsW.kept {w w' : World} {lo : Nat} {wv gv : Value} {gs : List Rl} {nx : List (List Int)} {go : Int} (h : IsW w lo wv gv gs nx go) (hb : Below w.heap.size w w') : IsW w' lo wv gv gs nx go := by
  obtain ⟨lv, mv, h0, h2, h3⟩ := h
  exact ⟨lv, mv, h0, own_below h2 hb (Nat.le_refl _), h3.kept hb⟩
theorem IsW.lower {w : World} {lo B : Nat} {wv gv : Value} {gs : List Rl} {nx : List (List Int)} {go : Int} (h : IsW w lo wv gv gs nx go) (hB : B ≤ lo) : IsW w B wv gv gs nx go := by
  obtain ⟨lv, mv, h0, h2, h3⟩ := h
  exact ⟨lv, mv, h0, own_lower h2 hB, h3.lower hB⟩
theorem IsW.far {w : World} {lo : Nat} {wv gv : Value} {gs : List Rl} {nx : List (List Int)} {go : Int} (h : IsW w lo wv gv gs nx go) (p : Addr) (u : Value) (hp : p.block < lo) : IsW (w.setCell p u) lo wv gv gs nx go := by
  obtain ⟨lv, mv, h0, h2, h3⟩ := h
  exact ⟨lv, mv, h0, own_setLow h2 p u hp, h3.far p u hp⟩
theorem IsW.shape {w : World} {lo : Nat} {wv gv : Value} {gs : List Rl} {nx : List (List Int)} {go : Int} (h : IsW w lo wv gv gs nx go) : ∃ A2 c2 A3 c3, wv = .agg #[gv, .slice A2 (lens gs).length c2, .slice A3 gs.length c3, .int .i64 go] := by
  obtain ⟨lv, mv, rfl, h2, h3⟩ := h
  obtain ⟨A2, c2, rfl⟩ := own_slice h2
  obtain ⟨A3, c3, rfl, h3'⟩ := h3
  exact ⟨A2, c2, A3, c3, by rw [mapsK_len]⟩
def zeroW : Value := .agg #[.slice none 0 0, .slice none 0 0, .slice none 0 0, .int .i64 0]
set_option maxRecDepth 100000 in
set_option maxHeartbeats 12800000 in
theorem walkOf_any (go st : Int) (nv : Value) (nx : List (List Int)) (v : Value) (gs : List Rl) (w : World) (h1 : 1 ≤ st) (h24 : st ≤ 24) (hrow : nx.all (rowOk st) = true) (hlen : (nx.length : Int) = st) (hN : IsLL w nv nx) (hf : FewR gs) (hr : Rules w v gs) :
    Calls Try.prog 155 #[.int .i64 go, nv, .agg #[v]] w fun e w' => ∃ wv, e = .returned (.tuple #[wv, .bool (gOk gs)]) ∧ (gOk gs = true → IsW w' w.heap.size wv v gs nx go) ∧ (gOk gs = false → wv = zeroW) ∧ Below w.heap.size w w' := by
  obtain ⟨i0, hi, hz0, hz1, hz2⟩ := info_parts Try.info_map
  have hzv := (zero_of_info (P := Try.prog) zero_steps).1
  have hb : Below w.heap.size w ((w.alloc (.cells #[v] 37)).alloc (.cells #[.slice none 0 0, .slice none 0 0, .slice none 0 0, .int .i64 0] 110)) := ((Below.refl _ w).alloc (Nat.le_refl _) _).alloc (by simp) _
  have hG : ((w.alloc (.cells #[v] 37)).alloc (.cells #[.slice none 0 0, .slice none 0 0, .slice none 0 0, .int .i64 0] 110)).cell? ⟨w.heap.size, 0, none⟩ = some v := by
    have b2 := (Below.refl _ (w.alloc (.cells #[v] 37))).alloc (Nat.le_refl _) (.cells #[.slice none 0 0, .slice none 0 0, .slice none 0 0, .int .i64 0] 110)
    exact (b2.cell (p := ⟨w.heap.size, 0, none⟩) (by simp)).trans (cell_new w v _)
  have hR : B4 ((w.alloc (.cells #[v] 37)).alloc (.cells #[.slice none 0 0, .slice none 0 0, .slice none 0 0, .int .i64 0] 110)) (w.heap.size + 1) (.slice none 0 0) (.slice none 0 0) (.slice none 0 0) (.int .i64 0) 110 := by
    have := B4.new (w.alloc (.cells #[v] 37)) (.slice none 0 0) (.slice none 0 0) (.slice none 0 0) (.int .i64 0) 110
    rwa [show (w.alloc (.cells #[v] 37)).heap.size = w.heap.size + 1 from by simp] at this
  have hl1 := len.vlen_any v gs _ hf (hr.kept hb)
  unfold LensPost at hl1
  have HL := Lib.hid hl1
  have HB := Lib.hid hb
  have HG := Lib.hid hG
  have HR := Lib.hid hR
  have HRU := Lib.hid (fun W (hb : Below w.heap.size w W) => hr.kept hb)
  have HS := Lib.hid (fun W (hb : Below w.heap.size w W) => stepsOf_any nv nx st W hlen h24 hrow (hN.kept hb))
  have HROW := Lib.hid hrow
  have HLEN := Lib.hid hlen
  obtain ⟨An, cn, rfl, _⟩ := hN
  obtain ⟨Av, cv, rfl, _⟩ := hr
  clear hb hR hl1 hrow hlen
  cases hok : gOk gs
  · rw [hok] at HL
    clear hok
    go_enter Try.func155, Try.ntmps155
    go_wp2_with fail
    refine HL.out.mono ?_
    rintro e w3 ⟨x, rfl, _, hB3⟩
    have HB3 := Lib.hid (HB.out.trans (hB3.mono HB.out.size))
    have HR3 := Lib.hid (HR.out.kept hB3)
    obtain ⟨⟨r0, r1, r2, r3⟩, g0, g1, g2, g3⟩ := blk4_cells HR3.out
    have HE := Lib.hid (blk4_cells (blk4_all (a' := .slice none 0 0) (b' := .slice none 0 0) (c' := .slice none 0 0) (d' := .int .i64 0) HR3.out)).1
    clear hB3
    go_wp2_with fail
    obtain ⟨y0, y1, y2, y3⟩ := HE.out
    refine bodyPost_ret (v := .tuple #[zeroW, .bool false]) (by simp [results, Try.results155, go_sem, y0, y1, y2, y3, zeroW]) rfl ⟨_, rfl, fun h => (by cases h), fun _ => rfl, ?_⟩
    exact (((HB3.out.setCell (by simp) _).setCell (by simp) _).setCell (by simp) _).setCell (by simp) _
  · rw [hok] at HL
    have HOK := Lib.hid hok
    have HFIT := Lib.hid (gOk_iff.1 hok).2.1
    have hn400 := gOk_len hok
    clear hok
    go_enter Try.func155, Try.ntmps155
    go_wp2_with fail
    refine HL.out.mono ?_
    rintro e w3 ⟨x, rfl, ho3, hB3⟩
    have ho3 := ho3 trivial
    have HO3 : Hid (OwnsI w3 (w.heap.size + 2) x (lens gs)) := Lib.hid (by have := ho3; simpa using this)
    obtain ⟨Ax, cx, rfl⟩ := own_slice ho3
    have HB3 := Lib.hid (HB.out.trans (hB3.mono HB.out.size))
    have HR3 := Lib.hid (HR.out.kept hB3)
    have HG3 := Lib.hid ((hB3.cell (p := ⟨w.heap.size, 0, none⟩) (lt_of_cell HG.out)).trans HG.out)
    clear hB3 ho3 hG
    go_wp2_with fail
    refine (HS.out _ HB3.out).mono ?_
    rintro e w4 ⟨rfl, hB4⟩
    have HB4 := Lib.hid (HB3.out.trans (hB4.mono HB3.out.size))
    have HR4 := Lib.hid (HR3.out.kept hB4)
    have HO4 := Lib.hid (own_below HO3.out hB4 (Nat.le_refl _))
    have HG4 := Lib.hid ((hB4.cell (p := ⟨w.heap.size, 0, none⟩) (lt_of_cell HG3.out)).trans HG3.out)
    clear hB4
    obtain ⟨T, hT⟩ : ∃ T, T = w4.heap.size := ⟨_, rfl⟩
    have hsm : (Try.prog.info? 239).map (·.size) = some (iv (stAll nx)).toArray.size := by rw [(zero_of_info zero_steps).2]; simp [iv, stAll_len]
    have hz : (iv Z96).toArray.size = (iv (stAll nx)).toArray.size := by simp [iv, stAll_len, Z96]
    have ho1 : (iv (stAll nx)).toArray.all (·.oneCell') = true := all_oneCell_toArray (fun v hv => by obtain ⟨x, _, rfl⟩ := List.mem_map.1 hv; rfl)
    have HSM := Lib.hid (And.intro hsm (And.intro hz ho1))
    have hT4 := heap_alloc_new w4 (.cells (iv Z96).toArray 239)
    have HTC := Lib.hid (setRow_heap _ w4.heap.size _ (iv (stAll nx)).toArray _ _ hT4)
    have hb5 : Below w4.heap.size w4 ((w4.alloc (.cells (iv Z96).toArray 239)).setRow w4.heap.size (iv (stAll nx)).toArray) := bSetRow ((Below.refl _ w4).alloc (Nat.le_refl _) _) (Nat.le_refl _) _
    have HT4 := Lib.hid hT4
    have HB5 := Lib.hid (HB4.out.trans (hb5.mono HB4.out.size))
    have HR5 := Lib.hid (HR4.out.kept hb5)
    have HO5 := Lib.hid (own_below HO4.out hb5 (Nat.le_refl _))
    have HG5 := Lib.hid ((hb5.cell (p := ⟨w.heap.size, 0, none⟩) (lt_of_cell HG4.out)).trans HG4.out)
    have HTL : Hid (w.heap.size + 1 < T) := Lib.hid (by rw [hT]; exact HR4.out.lt)
    clear hsm hz ho1 hT4 hb5
    go_upto_region 5 with (with_reducible refine wpList_store_row rfl 239 _ _ rfl w4.heap.size _ rfl rfl 239 _ HT4.out HSM.out.1 HSM.out.2.1 HSM.out.2.2 ?_)
    rw [← hT] at HTC HB5 HR5 HO5 HG5 ⊢
    clear HT4 HSM
    generalize (w4.alloc (.cells (iv Z96).toArray 239)).setRow T (iv (stAll nx)).toArray = w5 at *
    clear hT hzv
    have hg5 := HG5.out
    have hs5 := HB5.out.size
    obtain ⟨n, hne⟩ : ∃ n, n = gs.length := ⟨_, rfl⟩
    rw [← hne] at hn400 hg5
    rw [← hne]
    have HN := Lib.hid hne
    clear hne
    go_wp2_with (refine wpList_make_full _ rfl _ _ 107 rfl w5.heap.size 197 i0 (.agg (iv (List.replicate 24 0)).toArray) 24 Try.underlying107 hi hz0 hz1 .i64 .i64 _ _ n rfl rfl rfl rfl (by rw [hz2]; omega) (by unfold maxLen; omega) (Nat.le_refl _) ?_)
    intro w6 hown hgr
    have hown : w6.ownsRow w5.heap.size 197 24 (.slice (some ⟨w5.heap.size, 0, none⟩) n n) n (iv (flK [] n)) := by rw [← made_map]; exact hown
    have hB6 := below_of_grown hgr
    obtain ⟨M, hM⟩ : ∃ M, M = w5.heap.size := ⟨_, rfl⟩
    rw [← hM] at hown hB6 ⊢
    have HST : Hid (WkRel nx gs w5 M n (.int .i64 0) w6) := Lib.hid ⟨0, Nat.zero_le _, rfl, hown, hB6⟩
    have HME := Lib.hid hM
    have hTM : T < M := by rw [hM]; exact (Array.getElem?_eq_some_iff.1 HTC.out).1
    have hg6 := (hB6.cell (p := ⟨w.heap.size, 0, none⟩) (by rw [hM]; exact lt_of_cell HG5.out)).trans HG5.out
    rw [← HN.out] at hg6
    clear hown hgr hB6 hM hg5 hs5
    go_wp2_with fail
    clear hg6
    go_loopw [12, 13, 14, 15, 33] (fun _ _ _ _ i wr => WkRel nx gs w5 M n i wr) (fun _ _ _ _ i _ => n - (intOf i).toNat)
    case atStart => exact HST.out
    case round =>
      obtain ⟨k, hk, rfl, hown, hB⟩ := hrel
      obtain ⟨wo, rfl⟩ : ∃ wo : World, wo = wr := ⟨_, rfl⟩
      have hB' : Below w5.heap.size w5 wo := by rw [← HME.out]; exact hB
      have hBw := HB5.out.trans (hB'.mono HB5.out.size)
      by_cases hkn : k < n
      · have hkg : k < gs.length := by rw [← HN.out]; exact hkn
        obtain ⟨Ay, cy, hvy, hcy⟩ := HRU.out wo hBw
        injection hvy with hvA _ hvc
        subst hvA hvc
        rcases hcy with hn0 | ⟨g, rfl, hg, hc⟩
        · rw [hn0] at hkg; simp at hkg
        obtain ⟨a0, a1, a2⟩ := rules_cells hc hkg
        have hfit := fits_at HFIT.out k hkg
        have hml := mapsK_len nx gs k
        have hw := mapsK_wide HROW.out HLEN.out h1 h24 HFIT.out k (by omega)
        have hnx := mapsK_next nx gs k hkg
        have hok := mapsK_ok HROW.out HLEN.out h1 h24 HFIT.out k (by omega)
        have HOW := Lib.hid hown
        have HBo := Lib.hid hB
        have HW := Lib.hid hw
        have HML := Lib.hid hml
        have hMl : M < wo.heap.size := (hown.lt M rfl).2
        have HTo := Lib.hid ((hB'.block T (by rw [← HME.out]; exact hTM)).trans HTC.out)
        generalize hms : mapsK nx gs k = ms at *
        have k0 : (0 : Int) ≤ (k : Int) := by omega
        have k1 : (k : Int) < (n : Int) := by omega
        clear hc hB hB' hBw hms
        by_cases h0 : gs[k].L.size = 0
        · have hp := (ok_pair h0).1 hfit
          have HK := Lib.hid (fun W => kind_pair gs[k] h0 W)
          have HT1 := tm_pl
          have HT2 := tm_pp
          have hrw : rowM nx ms gs[k] = thenRow (ms.getD gs[k].l.toNat []) (ms.getD gs[k].r.toNat []) := by unfold rowM; rw [if_pos h0]
          generalize gs[k] = R at *
          obtain ⟨L, l, r⟩ := R
          simp only at hp hrw a0 a1 a2 HK
          obtain ⟨a, rfl⟩ : ∃ a : Nat, l = a := ⟨l.toNat, by omega⟩
          obtain ⟨b, rfl⟩ : ∃ b : Nat, r = b := ⟨r.toNat, by omega⟩
          rw [Int.toNat_natCast, Int.toNat_natCast] at hrw
          have ha : a < k := by omega
          have hb : b < k := by omega
          have hoa := hok a ha
          have hob := hok b hb
          have HRA := Lib.hid (fun w8 (hb8 : Below wo.heap.size wo w8) => range_of_own (own_below HOW.out hb8 (Nat.le_refl _)) HW.out (by omega) a (by omega))
          have HRB := Lib.hid (fun w8 (hb8 : Below wo.heap.size wo w8) => range_of_own (own_below HOW.out hb8 (Nat.le_refl _)) HW.out (by omega) b (by omega))
          have HTHR := Lib.hid (fun w8 (hb8 : Below wo.heap.size wo w8) => by
            have := there_of_own (own_below HOW.out hb8 (Nat.le_refl _)) HW.out (by rw [HML.out]; exact hkn)
            rw [HML.out] at this
            exact this)
          generalize ms.getD a [] = ma at *
          generalize ms.getD b [] = mb at *
          have hT24 := thenRow_ok h24 hoa hob
          have HTHEN := Lib.hid (fun W => then_any ma mb st h24 hoa hob W)
          have hsa : (Try.prog.info? 197).map (·.size) = some (iv ma).length := by rw [size_map, iv_len, hoa.1]
          have hsb : (Try.prog.info? 197).map (·.size) = some (iv mb).length := by rw [size_map, iv_len, hob.1]
          have hsr : (Try.prog.info? 197).map (·.size) = some (iv (thenRow ma mb)).length := by rw [size_map, iv_len, hT24.1]
          have hlr : (iv (thenRow ma mb)).length = 24 := by rw [iv_len, hT24.1]
          have ho1 : ∀ v ∈ iv (thenRow ma mb), v.oneCell' = true := fun v hv => by obtain ⟨x, _, rfl⟩ := List.mem_map.1 hv; rfl
          have HZR : Hid ((Try.prog.info? 197).map (·.size) = some (iv (thenRow ma mb)).toArray.size) := Lib.hid (by rw [hsr]; simp)
          have HONE : Hid ((iv (thenRow ma mb)).toArray.all (·.oneCell') = true) := Lib.hid (all_oneCell_toArray ho1)
          have HNX : Hid (∀ w8, Below wo.heap.size wo w8 → WkRel nx gs w5 M n (.int .i64 ((k + 1 : Nat) : Int)) (w8.setCells M (k * 24) (iv (thenRow ma mb)))) := Lib.hid (fun w8 hb8 => by
            refine ⟨k + 1, hkn, rfl, ?_, below_setCells _ _ _ _ (Nat.le_refl _) (HBo.out.trans (hb8.mono (by omega)))⟩
            have := wk_store (row := thenRow ma mb) (own_below HOW.out hb8 (Nat.le_refl _)) HW.out hT24.1 (by rw [HML.out]; exact hkn)
            rw [hnx, hrw, ← HML.out]
            exact this)
          have a0' : (0 : Int) ≤ (a : Int) := by omega
          have a1' : (a : Int) < (n : Int) := by omega
          have b0' : (0 : Int) ≤ (b : Int) := by omega
          have b1' : (b : Int) < (n : Int) := by omega
          have hu := und_map
          clear hnx hrw hok hown hfit h0 hml hw hp hoa hob hT24
          go_wp2_with fail
          refine (HK.out _).mono ?_
          rintro e w7 ⟨rfl, hB7⟩
          have hb7 := ((Below.refl _ wo).alloc (Nat.le_refl _) (.cells #[.string L, .int .i64 a, .int .i64 b] 127)).trans (hB7.mono (by simp))
          have hb8 := hb7.alloc hb7.size (.cells #[.string L, .int .i64 a, .int .i64 b] 198)
          have kcs := heap_alloc_new w7 (.cells #[.string L, .int .i64 a, .int .i64 b] 198)
          have kc1 : (w7.alloc (.cells #[.string L, .int .i64 a, .int .i64 b] 198)).cell? ⟨w7.heap.size, 1, none⟩ = some (.int .i64 a) := by rw [cell_of_row _ _ _ _ _ _ kcs]; rfl
          have kc2 : (w7.alloc (.cells #[.string L, .int .i64 a, .int .i64 b] 198)).cell? ⟨w7.heap.size, 2, none⟩ = some (.int .i64 b) := by rw [cell_of_row _ _ _ _ _ _ kcs]; rfl
          have HB8 := Lib.hid hb8
          obtain ⟨Kp, hKp⟩ : ∃ Kp, Kp = w7.heap.size := ⟨_, rfl⟩
          have hM7 : M < w7.heap.size := by have := hb7.size; omega
          have hKl : w7.heap.size < (w7.alloc (.cells #[.string L, .int .i64 a, .int .i64 b] 198)).heap.size := by simp
          clear a0 a1 a2 hB7 hb7 hb8 kcs
          go_upto_region 15 with fail
          have hKM : Kp ≠ M := by have := HB8.out.size; rw [hKp]; omega
          rw [← hKp] at kc1 kc2 hKl ⊢
          generalize w7.alloc (.cells #[.string L, .int .i64 a, .int .i64 b] 198) = w8 at *
          clear hKp
          have hb8d : Below wo.heap.size wo w8.drew := below_drewN HB8.out 1
          have hS0 : (fun w' : World => w'.cell? ⟨Kp, 1, none⟩ = some (.int .i64 (a : Int)) ∧ w'.cell? ⟨Kp, 2, none⟩ = some (.int .i64 (b : Int)) ∧ w'.rangeAt M (a * 24) (iv ma) ∧ w'.rangeAt M (b * 24) (iv mb)) w8.drew := ⟨kc1, kc2, HRA.out w8.drew hb8d, HRB.out w8.drew hb8d⟩
          refine wp_region_held_drew (S := fun w' : World => w'.cell? ⟨Kp, 1, none⟩ = some (.int .i64 (a : Int)) ∧ w'.cell? ⟨Kp, 2, none⟩ = some (.int .i64 (b : Int)) ∧ w'.rangeAt M (a * 24) (iv ma) ∧ w'.rangeAt M (b * 24) (iv mb)) (by kernel_rfl) hS0 (fun hHeld => ?_)
          refine takeH (i := 0) (dst := some 54) (v := ?_) rfl (by kernel_rfl) (by kernel_rfl) (by kernel_rfl) (fun _ _ _ h => h) (Or.inl ⟨by rfl, ?_⟩) (by assumption) ?_
          rotate_left 1
          · (intro w hSw; (try dsimp only at hSw); go_simp; try (with_reducible rfl))
          simp only [Act.put, List.setIfInBounds_toArray, List.set_cons_zero, List.set_cons_succ]
          refine takeH (i := 1) (dst := some 55) (v := ?_) rfl (by kernel_rfl) (by kernel_rfl) (by kernel_rfl) (fun _ _ _ h => h) (Or.inl ⟨by rfl, ?_⟩) (by assumption) ?_
          rotate_left 1
          · (intro w hSw; (try dsimp only at hSw); go_simp; try (with_reducible rfl))
          simp only [Act.put, List.setIfInBounds_toArray, List.set_cons_zero, List.set_cons_succ]
          refine takeH (i := 2) (dst := some 56) (v := ?_) rfl (by kernel_rfl) (by kernel_rfl) (by kernel_rfl) (fun _ _ _ h => h) (Or.inl ⟨by rfl, ?_⟩) (by assumption) ?_
          rotate_left 1
          · (intro w hSw; (try dsimp only at hSw); go_simp; try (with_reducible rfl))
          simp only [Act.put, List.setIfInBounds_toArray, List.set_cons_zero, List.set_cons_succ]
          refine takeH (i := 3) (dst := some 57) (v := ?_) rfl (by kernel_rfl) (by kernel_rfl) (by kernel_rfl) (fun _ _ _ h => h) (Or.inl ⟨by rfl, ?_⟩) (by assumption) ?_
          rotate_left 1
          · (intro w hSw; (try dsimp only at hSw); go_simp; try (with_reducible rfl))
          simp only [Act.put, List.setIfInBounds_toArray, List.set_cons_zero, List.set_cons_succ]
          refine takeH (i := 4) (dst := some 58) (v := ?_) rfl (by kernel_rfl) (by kernel_rfl) (by kernel_rfl) (fun _ _ _ h => h) (Or.inl ⟨by rfl, ?_⟩) (by assumption) ?_
          rotate_left 1
          · (intro w hSw; (try dsimp only at hSw); go_simp; try (with_reducible rfl))
          simp only [Act.put, List.setIfInBounds_toArray, List.set_cons_zero, List.set_cons_succ]
          refine takeH (i := 5) (dst := some 59) (v := ?_) rfl (by kernel_rfl) (by kernel_rfl) (by kernel_rfl) (fun _ _ _ h => h) (Or.inl ⟨by rfl, ?_⟩) (by assumption) ?_
          rotate_left 1
          · (intro w hSw; (try dsimp only at hSw); go_simp; try (with_reducible rfl))
          simp only [Act.put, List.setIfInBounds_toArray, List.set_cons_zero, List.set_cons_succ]
          refine takeH (i := 6) (dst := some 60) (v := .agg (iv ma).toArray) rfl (by kernel_rfl) (by kernel_rfl) (by kernel_rfl) (fun _ _ _ h => h) (yieldsIf_load_mid (by rfl) _ _ rfl M (a * 24) rfl (iv ma) _ (fun w hw => hw.2.2.1) und_map rfl hsa) (by assumption) ?_
          simp only [Act.put, List.setIfInBounds_toArray, List.set_cons_zero, List.set_cons_succ]
          refine takeH (i := 7) (dst := some 61) (v := ?_) rfl (by kernel_rfl) (by kernel_rfl) (by kernel_rfl) (fun _ _ _ h => h) (Or.inl ⟨by rfl, ?_⟩) (by assumption) ?_
          rotate_left 1
          · (intro w hSw; (try dsimp only at hSw); go_simp; try (with_reducible rfl))
          simp only [Act.put, List.setIfInBounds_toArray, List.set_cons_zero, List.set_cons_succ]
          refine takeH (i := 8) (dst := some 62) (v := ?_) rfl (by kernel_rfl) (by kernel_rfl) (by kernel_rfl) (fun _ _ _ h => h) (Or.inl ⟨by rfl, ?_⟩) (by assumption) ?_
          rotate_left 1
          · (intro w hSw; (try dsimp only at hSw); go_simp; try (with_reducible rfl))
          simp only [Act.put, List.setIfInBounds_toArray, List.set_cons_zero, List.set_cons_succ]
          refine takeH (i := 9) (dst := some 63) (v := ?_) rfl (by kernel_rfl) (by kernel_rfl) (by kernel_rfl) (fun _ _ _ h => h) (Or.inl ⟨by rfl, ?_⟩) (by assumption) ?_
          rotate_left 1
          · (intro w hSw; (try dsimp only at hSw); go_simp; try (with_reducible rfl))
          simp only [Act.put, List.setIfInBounds_toArray, List.set_cons_zero, List.set_cons_succ]
          refine takeH (i := 10) (dst := some 64) (v := ?_) rfl (by kernel_rfl) (by kernel_rfl) (by kernel_rfl) (fun _ _ _ h => h) (Or.inl ⟨by rfl, ?_⟩) (by assumption) ?_
          rotate_left 1
          · (intro w hSw; (try dsimp only at hSw); go_simp; try (with_reducible rfl))
          simp only [Act.put, List.setIfInBounds_toArray, List.set_cons_zero, List.set_cons_succ]
          refine takeH (i := 11) (dst := some 65) (v := .agg (iv mb).toArray) rfl (by kernel_rfl) (by kernel_rfl) (by kernel_rfl) (fun _ _ _ h => h) (yieldsIf_load_mid (by rfl) _ _ rfl M (b * 24) rfl (iv mb) _ (fun w hw => hw.2.2.2) und_map rfl hsb) (by assumption) ?_
          simp only [Act.put, List.setIfInBounds_toArray, List.set_cons_zero, List.set_cons_succ]
          refine wpAnyH_ready (rs := [12]) (by kernel_rfl) (by simp) ?_
          refine AllReadyH.cons (o := ⟨some 66, _, _, _, _, none⟩) rfl (fun K hK => ?_) AllReadyH.nil
          go_simp
          go_at_call 202
          refine (HTHEN.out _).mono ?_
          rintro e w9 ⟨rfl, hB9⟩
          have hB9 := below_undrew hB9
          have hb89 := HB8.out.trans (hB9.mono HB8.out.size)
          have HN9 := Lib.hid (HNX.out w9 hb89)
          have TH : w9.there M (k * 24) (iv (thenRow ma mb)).toArray.size := by
            have := HTHR.out w9 hb89
            rw [show (iv (thenRow ma mb)).toArray.size = 24 from by simpa using hlr]
            exact this
          have RA9 := HRA.out w9 hb89
          have RB9 := HRB.out w9 hb89
          have la : (iv ma).length = 24 := by rw [size_map] at hsa; injection hsa with h; exact h.symm
          have lb : (iv mb).length = 24 := by rw [size_map] at hsb; injection hsb with h; exact h.symm
          refine hK.out _ _ ⟨(hB9.cell (p := ⟨Kp, 1, none⟩) hKl).trans kc1, (hB9.cell (p := ⟨Kp, 2, none⟩) hKl).trans kc2, RA9, RB9⟩ (fun hHeld => ?_)
          clear hK K
          try simp only [Act.put, List.setIfInBounds_toArray, List.set_cons_zero, List.set_cons_succ]
          refine takeH (i := 13) (dst := some 67) (v := ?_) rfl (by kernel_rfl) (by kernel_rfl) (by kernel_rfl) (fun _ _ _ h => h) (Or.inl ⟨by rfl, ?_⟩) (by assumption) ?_
          rotate_left 1
          · (intro w hSw; (try dsimp only at hSw); go_simp; try (with_reducible rfl))
          simp only [Act.put, List.setIfInBounds_toArray, List.set_cons_zero, List.set_cons_succ]
          refine wpAnyH_ready (rs := [14]) (by kernel_rfl) (by simp) ?_
          refine AllReadyH.cons (o := ⟨none, _, _, _, _, none⟩) rfl (fun K hK => ?_) AllReadyH.nil
          refine step_store_mid (by rfl) 197 _ _ (by rfl) M (k * 24) (iv (thenRow ma mb)).toArray (by rfl) (by rfl) TH HZR.out HONE.out ?_
          refine hK.out _ _ ⟨(World.cell?_of_block (a := ⟨Kp, 1, none⟩) (heap_setCells Kp _ M _ w9 hKM)).trans ((hB9.cell (p := ⟨Kp, 1, none⟩) hKl).trans kc1), (World.cell?_of_block (a := ⟨Kp, 2, none⟩) (heap_setCells Kp _ M _ w9 hKM)).trans ((hB9.cell (p := ⟨Kp, 2, none⟩) hKl).trans kc2), World.rangeAt_setCells_apart RA9 _ _ _ (by rw [la]; right; left; omega), World.rangeAt_setCells_apart RB9 _ _ _ (by rw [lb]; right; left; omega)⟩ (fun hHeld => ?_)
          clear hK K
          refine wpAnyH_done (by kernel_rfl) ?_ _
          go_wp2_with fail
          go_roundw
          all_goals first | exact HN9.out | ((repeat apply Exists.intro); exact ⟨HN9.out, rfl⟩) | (simp [intOf]; done) | (simp [intOf]; omega) | omega
        · have hst4 : ∀ l, l < 4 → mapOk st (stepsRow nx l) := fun l hl => stepsRow_ok HROW.out HLEN.out h1 hl
          obtain ⟨b, hL, hb1, hb2, hno⟩ := letter_byte h0 hfit
          have HK := Lib.hid (fun W => kind_letter gs[k] h0 W)
          have HT := tm_ll
          obtain ⟨d, hd⟩ : ∃ d : Nat, d = b.toNat - 97 := ⟨_, rfl⟩
          have hd1 : (b.toNat : Int) = (d : Int) + 97 := by omega
          have hd4 : d < 4 := by omega
          have HIX := Lib.hid (fun W => idx_letter b d hd1 hd4 W)
          have hrow : rowM nx ms gs[k] = stepsRow nx d := by unfold rowM; rw [if_neg h0, hno, hd]
          have hS24 := (hst4 d hd4).1
          have HNX : Hid (∀ w8, Below wo.heap.size wo w8 → WkRel nx gs w5 M n (.int .i64 ((k + 1 : Nat) : Int)) (w8.setCells M (k * 24) (iv (stepsRow nx d)))) := Lib.hid (fun w8 hb8 => by
            refine ⟨k + 1, hkn, rfl, ?_, below_setCells _ _ _ _ (Nat.le_refl _) (HBo.out.trans (hb8.mono (by omega)))⟩
            have := wk_store (row := stepsRow nx d) (own_below HOW.out hb8 (Nat.le_refl _)) HW.out hS24 (by rw [HML.out]; exact hkn)
            rw [hnx, hrow, ← HML.out]
            exact this)
          have HLB := Lib.hid hL
          generalize gs[k] = R at *
          clear hnx hrow hok hst4 hown hfit h0 hd hno hL hd1 hb1 hb2 hml hw
          go_wp2_with fail
          refine (HK.out _).mono ?_
          rintro e w7 ⟨rfl, hB7⟩
          have hb7 := ((Below.refl _ wo).alloc (Nat.le_refl _) (.cells #[.string R.L, .int .i64 R.l, .int .i64 R.r] 127)).trans (hB7.mono (by simp))
          have hb8 := hb7.alloc hb7.size (.cells #[.string R.L, .int .i64 R.l, .int .i64 R.r] 211)
          have hM7 : M < w7.heap.size := by have := hb7.size; omega
          have kc : (w7.alloc (.cells #[.string R.L, .int .i64 R.l, .int .i64 R.r] 211)).cell? ⟨w7.heap.size, 0, none⟩ = some (.string ⟨#[b]⟩) := by rw [cell_of_row _ _ _ _ _ _ (heap_alloc_new w7 _), ← HLB.out]; rfl
          have HB8 := Lib.hid hb8
          clear a0 a1 a2 hB7 hb7 hb8
          go_upto_region 12 with fail
          generalize w7.alloc (.cells #[.string R.L, .int .i64 R.l, .int .i64 R.r] 211) = w8 at *
          have hsz : (Try.prog.info? 197).map (·.size) = some (iv (stepsRow nx d)).length := by rw [size_map, iv_len, hS24]
          have HSZ := Lib.hid hsz
          have HRT := Lib.hid (range_steps (nx := nx) ((HB8.out.block T (by omega)).trans HTo.out) d hd4)
          have HTH : Hid (w8.there M (k * 24) (iv (stepsRow nx d)).toArray.size) := Lib.hid (by
            have := there_of_own (own_below HOW.out HB8.out (Nat.le_refl _)) HW.out (by rw [HML.out]; exact hkn)
            rw [HML.out] at this
            rw [show (iv (stepsRow nx d)).toArray.size = 24 from by simp [iv, hS24]]
            exact this)
          have HZA : Hid ((Try.prog.info? 197).map (·.size) = some (iv (stepsRow nx d)).toArray.size) := Lib.hid (by rw [hsz]; simp)
          have HONE : Hid ((iv (stepsRow nx d)).toArray.all (·.oneCell') = true) := Lib.hid (all_oneCell_toArray (fun v hv => by obtain ⟨x, _, rfl⟩ := List.mem_map.1 hv; rfl))
          have HN8 := Lib.hid (HNX.out w8 HB8.out)
          have hd0 : (0 : Int) ≤ (d : Int) := by omega
          have hd5 : (d : Int) < 4 := by omega
          clear hsz hS24 hM7 hMl
          go_wp2_with fail
          refine (HIX.out _).mono ?_
          rintro e w9 ⟨rfl, rfl⟩
          go_wp2_with (first
            | (with_reducible refine wpList_load_mid rfl 197 _ rfl T (d * 24) rfl (iv (stepsRow nx d)) _ HRT.out und_map rfl HSZ.out ?_)
            | (with_reducible refine wpList_store_mid rfl 197 _ _ rfl M (k * 24) (iv (stepsRow nx d)).toArray rfl rfl HTH.out HZA.out HONE.out ?_))
          go_roundw
          all_goals first | exact HN8.out | ((repeat apply Exists.intro); exact ⟨HN8.out, rfl⟩) | (simp [intOf]; done) | (simp [intOf]; omega) | omega
      · obtain rfl : k = n := by omega
        have HR9 := Lib.hid (HR5.out.kept hB')
        have HI9 := Lib.hid (own_below HO5.out hB' (Nat.le_refl _))
        have hg9 := (hB'.cell (p := ⟨w.heap.size, 0, none⟩) (lt_of_cell HG5.out)).trans HG5.out
        rw [← HN.out] at hg9
        have HRR := Lib.hid (HRU.out wo hBw)
        have HMS := Lib.hid (isMs_of_own hown (mapsK_wide HROW.out HLEN.out h1 h24 HFIT.out k (by have := HN.out; omega)) (mapsK_len nx gs k))
        have HBW := Lib.hid hBw
        have hR1 : w.heap.size + 1 < wo.heap.size := HR9.out.lt
        obtain ⟨⟨r0, r1, r2, r3⟩, g0, g1, g2, g3⟩ := blk4_cells HR9.out
        have HE := Lib.hid (blk4_cells (blk4_all (a' := .slice Av k cv) (b' := .slice Ax (lens gs).length cx) (c' := .slice (some ⟨M, 0, none⟩) k k) (d' := .int .i64 go) HR9.out)).1
        have HFIN : Hid (Below wo.heap.size wo wo) := Lib.hid (Below.refl _ _)
        have HMR : Hid (M ≠ w.heap.size + 1) := Lib.hid (by have := HTL.out; omega)
        have HSET : Hid (∀ d0 d1 d2 d3, IsW ((((wo.setCell ⟨w.heap.size + 1, 0, none⟩ d0).setCell ⟨w.heap.size + 1, 1, none⟩ d1).setCell ⟨w.heap.size + 1, 2, none⟩ d2).setCell ⟨w.heap.size + 1, 3, none⟩ d3) w.heap.size (.agg #[.slice Av k cv, .slice Ax (lens gs).length cx, .slice (some ⟨M, 0, none⟩) k k, .int .i64 go]) (.slice Av gs.length cv) gs nx go) := Lib.hid (fun d0 d1 d2 d3 => by
          have gk : wo.grownBy ((((wo.setCell ⟨w.heap.size + 1, 0, none⟩ d0).setCell ⟨w.heap.size + 1, 1, none⟩ d1).setCell ⟨w.heap.size + 1, 2, none⟩ d2).setCell ⟨w.heap.size + 1, 3, none⟩ d3) (some (w.heap.size + 1)) := by
            refine ⟨rfl, rfl, rfl, by simp, fun i hi hne => ?_⟩
            have hne' : i ≠ w.heap.size + 1 := fun e => hne (by rw [e])
            rw [Below.heap_setCell _ _ _ _ hne', Below.heap_setCell _ _ _ _ hne', Below.heap_setCell _ _ _ _ hne', Below.heap_setCell _ _ _ _ hne']
          have hwd := mapsK_wide HROW.out HLEN.out h1 h24 HFIT.out k (by have := HN.out; omega)
          have hms := isMs_of_own (World.ownsRow.kept hown gk (.inr (by simp [Value.ownBlock]; exact HMR.out))) hwd (mapsK_len nx gs k)
          rw [HN.out] at hms ⊢
          exact ⟨_, _, rfl, own_lower (own_setLow (own_setLow (own_setLow (own_setLow HI9.out _ _ (by simp)) _ _ (by simp)) _ _ (by simp)) _ _ (by simp)) (by omega), hms.lower (by rw [HME.out]; exact HB5.out.size)⟩)
        clear hown hB hB' hBw
        go_wp2_with fail
        obtain ⟨y0, y1, y2, y3⟩ := HE.out
        refine bodyPost_ret (v := .tuple #[.agg #[.slice Av k cv, .slice Ax (lens gs).length cx, .slice (some ⟨M, 0, none⟩) k k, .int .i64 go], .bool true]) (by simp [results, Try.results155, go_sem, y0, y1, y2, y3]) rfl ⟨_, rfl, fun _ => HSET.out _ _ _ _, fun h => (by cases h), ?_⟩
        exact (((HBW.out.setCell (by simp) _).setCell (by simp) _).setCell (by simp) _).setCell (by simp) _
end Go.Proofs.Ytaffachjopjbgaa
namespace Go.Proofs.Ytaffachjopjbgaa
open Go.RowKit
open Wd
set_option linter.unusedVariables false
namespace Wd
/-- where the whole word leads -/
def endS (nx : List (List Int)) (gs : List Rl) (s : Int) : Int := if gs.length = 0 then s else ((mapsK nx gs gs.length).getD (gs.length - 1) []).getD s.toNat 0
def runG (x : Au) (s : Int) (gs : List Rl) : Int × Int := if aOk x = true ∧ gOk gs = true then if 0 ≤ s ∧ s < x.st then (endS x.nx gs s, 0) else (0, 2) else (0, 1)
end Wd
set_option maxRecDepth 100000 in
set_option maxHeartbeats 3200000 in
theorem walkOfAuto_any (av : Value) (x : Au) (gv : Value) (gs : List Rl) (w : World) (hf : FewA x) (hx : IsAu w av x) (hfr : FewR gs) (hr : Rules w gv gs) :
    Calls Try.prog 86 #[av, .agg #[gv]] w fun e w' => ∃ wv, e = .returned (.tuple #[wv, .bool (aOk x && gOk gs)]) ∧ ((aOk x && gOk gs) = true → IsW w' w.heap.size wv gv gs x.nx x.go) ∧ ((aOk x && gOk gs) = false → wv = zeroW) ∧ Below w.heap.size w w' := by
  have HIS := Lib.hid (fun W (hb : Below w.heap.size w W) => hx.kept hb)
  have HRU := Lib.hid (fun W (hb : Below w.heap.size w W) => hr.kept hb)
  obtain ⟨st, go, fin, nx⟩ := x
  obtain ⟨f, n, rfl, hF, hN⟩ := hx
  simp only at hF hN
  obtain ⟨hP, hG, hR, hB3, hs3⟩ := al3 w (.cells #[.int .i64 st, .int .i64 go, f, n] 33) (.cells #[gv] 37) (.cells #[.slice none 0 0, .slice none 0 0, .slice none 0 0, .int .i64 0] 110)
  have HP : Hid (B4 _ w.heap.size (.int .i64 st) (.int .i64 go) f n 33) := Lib.hid hP
  have HR : Hid (B4 _ (w.heap.size + 2) (.slice none 0 0) (.slice none 0 0) (.slice none 0 0) (.int .i64 0) 110) := Lib.hid hR
  have hg0 := cell_of_row _ _ 0 _ _ _ hG
  have HG : Hid ((((w.alloc (.cells #[.int .i64 st, .int .i64 go, f, n] 33)).alloc (.cells #[gv] 37)).alloc (.cells #[.slice none 0 0, .slice none 0 0, .slice none 0 0, .int .i64 0] 110)).cell? ⟨w.heap.size + 1, 0, none⟩ = some gv) := Lib.hid hg0
  have HB := Lib.hid hB3
  have HV := Lib.hid (fun W (hb : Below w.heap.size w W) => implValidAuto _ ⟨st, go, fin, nx⟩ W hf (HIS.out W hb))
  have HN := Lib.hid (fun W (hb : Below w.heap.size w W) => hN.kept hb)
  obtain ⟨Af, cf, rfl⟩ := hF.shape
  obtain ⟨An, cn, rfl, hNx⟩ := hN
  obtain ⟨Ag, cg, rfl, hRx⟩ := hr
  clear hP hG hR hB3 hg0 hNx hRx hF
  show Calls Try.prog _ #[.agg #[.int .i64 st, .int .i64 go, .slice Af fin.length cf, .slice An nx.length cn], .agg #[.slice Ag gs.length cg]] w _
  cases ha : aOk ⟨st, go, fin, nx⟩
  · have HV2 : Hid (∀ W, Below w.heap.size w W → Calls Try.prog 107 #[.agg #[.int .i64 st, .int .i64 go, .slice Af fin.length cf, .slice An nx.length cn]] W fun e w' => e = .returned (.bool false) ∧ Below W.heap.size W w') := Lib.hid (fun W hb => by have := HV.out W hb; rwa [ha] at this)
    clear ha HV
    go_enter Try.func86, Try.ntmps86
    go_upto_region 1 with fail
    generalize ((w.alloc (.cells #[.int .i64 st, .int .i64 go, .slice Af fin.length cf, .slice An nx.length cn] 33)).alloc (.cells #[.slice Ag gs.length cg] 37)).alloc (.cells #[.slice none 0 0, .slice none 0 0, .slice none 0 0, .int .i64 0] 110) = w3 at *
    obtain ⟨⟨p0, p1, p2, p3⟩, _⟩ := blk4_cells HP.out
    go_wp2_with fail
    refine (HV2.out _ HB.out).mono ?_
    rintro e w4 ⟨rfl, hB4⟩
    have HB4 := Lib.hid (HB.out.trans (hB4.mono HB.out.size))
    have HR4 := Lib.hid (HR.out.kept hB4)
    obtain ⟨⟨r0, r1, r2, r3⟩, g0, g1, g2, g3⟩ := blk4_cells HR4.out
    have HE := Lib.hid (blk4_cells (blk4_all (a' := .slice none 0 0) (b' := .slice none 0 0) (c' := .slice none 0 0) (d' := .int .i64 0) HR4.out)).1
    clear hB4 p0 p1 p2 p3 hs3
    go_wp2_with fail
    obtain ⟨y0, y1, y2, y3⟩ := HE.out
    refine bodyPost_ret (v := .tuple #[zeroW, .bool false]) (by simp [results, Try.results86, go_sem, y0, y1, y2, y3, zeroW]) rfl ⟨_, rfl, fun h => (by cases h), fun _ => rfl, ?_⟩
    exact (((HB4.out.setCell (by simp; omega) _).setCell (by simp; omega) _).setCell (by simp; omega) _).setCell (by simp; omega) _
  · obtain ⟨⟨h1, h24⟩, hrow, hlen⟩ := aOk_parts ha
    simp only at h1 h24 hrow hlen
    have HV2 : Hid (∀ W, Below w.heap.size w W → Calls Try.prog 107 #[.agg #[.int .i64 st, .int .i64 go, .slice Af fin.length cf, .slice An nx.length cn]] W fun e w' => e = .returned (.bool true) ∧ Below W.heap.size W w') := Lib.hid (fun W hb => by have := HV.out W hb; rwa [ha] at this)
    have HW := Lib.hid (fun W (hb : Below w.heap.size w W) => walkOf_any go st _ nx _ gs W h1 h24 hrow hlen (HN.out W hb) hfr (HRU.out W hb))
    clear ha HV hrow hlen
    cases hok : gOk gs
    all_goals
      rw [hok] at HW
      clear hok
      go_enter Try.func86, Try.ntmps86
      go_upto_region 1 with fail
      generalize ((w.alloc (.cells #[.int .i64 st, .int .i64 go, .slice Af fin.length cf, .slice An nx.length cn] 33)).alloc (.cells #[.slice Ag gs.length cg] 37)).alloc (.cells #[.slice none 0 0, .slice none 0 0, .slice none 0 0, .int .i64 0] 110) = w3 at *
      obtain ⟨⟨p0, p1, p2, p3⟩, _⟩ := blk4_cells HP.out
      go_wp2_with fail
      refine (HV2.out _ HB.out).mono ?_
      rintro e w4 ⟨rfl, hB4⟩
      have HB4 := Lib.hid (HB.out.trans (hB4.mono HB.out.size))
      have HR4 := Lib.hid (HR.out.kept hB4)
      have HP4 := Lib.hid (HP.out.kept hB4)
      have hg4 := (hB4.cell (lt_of_cell HG.out)).trans HG.out
      clear hB4 p0 p1 p2 p3 hs3
      obtain ⟨⟨p0, p1, p2, p3⟩, _⟩ := blk4_cells HP4.out
      go_wp2_with fail
      refine (HW.out _ HB4.out).mono ?_
      rintro e w5 ⟨wv, rfl, hyes, hno, hB5⟩
      have HB5 := Lib.hid (HB4.out.trans (hB5.mono HB4.out.size))
      have HR5 := Lib.hid (HR4.out.kept hB5)
      obtain ⟨⟨r0, r1, r2, r3⟩, g0, g1, g2, g3⟩ := blk4_cells HR5.out
      clear hB5 p0 p1 p2 p3 hg4
    · have hz := hno trivial
      subst hz
      have HE := Lib.hid (blk4_cells (blk4_all (a' := .slice none 0 0) (b' := .slice none 0 0) (c' := .slice none 0 0) (d' := .int .i64 0) HR5.out)).1
      unfold zeroW
      clear hyes hno
      go_wp2_with fail
      obtain ⟨y0, y1, y2, y3⟩ := HE.out
      refine bodyPost_ret (v := .tuple #[zeroW, .bool false]) (by simp [results, Try.results86, go_sem, y0, y1, y2, y3, zeroW]) rfl ⟨_, rfl, fun h => (by cases h), fun _ => rfl, ?_⟩
      exact (((HB5.out.setCell (by simp; omega) _).setCell (by simp; omega) _).setCell (by simp; omega) _).setCell (by simp; omega) _
    · have hw5 := hyes trivial
      have HW5 := Lib.hid hw5
      obtain ⟨A2, c2, A3, c3, rfl⟩ := hw5.shape
      have HE := Lib.hid (blk4_cells (blk4_all (a' := .slice Ag gs.length cg) (b' := .slice A2 (lens gs).length c2) (c' := .slice A3 gs.length c3) (d' := .int .i64 go) HR5.out)).1
      have HRL : Hid (w.heap.size + 2 < w4.heap.size) := Lib.hid HR4.out.lt
      clear hyes hno hw5
      go_wp2_with fail
      obtain ⟨y0, y1, y2, y3⟩ := HE.out
      refine bodyPost_ret (v := .tuple #[.agg #[.slice Ag gs.length cg, .slice A2 (lens gs).length c2, .slice A3 gs.length c3, .int .i64 go], .bool true]) (by simp [results, Try.results86, go_sem, y0, y1, y2, y3]) rfl ⟨_, rfl, fun _ => ?_, fun h => (by cases h), ?_⟩
      · exact (((((HW5.out.far _ _ HRL.out).far _ _ HRL.out).far _ _ HRL.out).far _ _ HRL.out)).lower HB4.out.size
      · exact (((HB5.out.setCell (by simp; omega) _).setCell (by simp; omega) _).setCell (by simp; omega) _).setCell (by simp; omega) _
theorem lastOf_any (A : Option Addr) (n c : Nat) (hn : n ≤ 400) (w : World) :
    Calls Try.prog 135 #[.slice A n c] w fun e w' => e = .returned (.int .i64 ((n : Int) - 1)) ∧ w' = w := by
  have h1 : IntKind.i64.wrap ((n : Int) - 1) = (n : Int) - 1 := by rw [IntKind.wrap_i64]; omega
  go_enter Try.func135, Try.ntmps135
  go_wp2
  go_ret
  exact ⟨ret_int (by first | rfl | omega), rfl⟩
theorem wordLen_any (v : Value) (zs : List Int) (hn : zs.length ≤ 400) (w : World) (h : IsL w v zs) :
    Calls Try.prog 102 #[v] w fun e w' => e = .returned (.int .i64 (zs.getD (zs.length - 1) 0)) ∧ w' = w := by
  obtain ⟨A, c, rfl, hc⟩ := h
  by_cases h0 : zs.length = 0
  · have hz : zs = [] := List.eq_nil_of_length_eq_zero h0
    subst hz
    clear hc h0
    go_enter Try.func102, Try.ntmps102
    go_wp2
    go_ret
    exact ⟨rfl, rfl⟩
  · rcases hc with hz | ⟨a, rfl, hc⟩
    · rw [hz] at h0; simp at h0
    obtain ⟨m, hm⟩ : ∃ m, zs.length = m + 1 := ⟨zs.length - 1, by omega⟩
    have c0 := hc m (by omega)
    have ez : zs.getD (zs.length - 1) 0 = zs[m]'(by omega) := by
      rw [show zs.length - 1 = m from by omega, List.getD_eq_getElem?_getD, List.getElem?_eq_getElem (by omega)]
      rfl
    rw [← ez] at c0
    clear ez
    generalize zs.getD (zs.length - 1) 0 = z at *
    obtain ⟨n, hne⟩ : ∃ n, n = zs.length := ⟨_, rfl⟩
    rw [← hne]
    have hsub : IntKind.i64.wrap ((n : Int) - 1) = (m : Int) := by rw [IntKind.wrap_i64]; omega
    have m0 : (0 : Int) ≤ (m : Int) := by omega
    have m1 : (m : Int) < (n : Int) := by omega
    have hnz : (((n : Int)) == 0) = false := by simp; omega
    have hnz' : n ≠ 0 := by omega
    clear hc h0 hm hn hne
    go_enter Try.func102, Try.ntmps102
    go_wp2
    go_ret
    exact ⟨rfl, rfl⟩
end Go.Proofs.Ytaffachjopjbgaa
