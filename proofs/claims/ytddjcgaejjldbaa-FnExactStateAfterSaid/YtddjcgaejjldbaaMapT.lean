/-
  Walk: impl.stateMap.then.
-/
import Derived.Test.YtddjcgaejjldbaaMapM
import Derived.Test.YtddjcgaejjldbaaAuTo2
import Derived.Deep.MidRow
namespace Go.Proofs.Ytddjcgaejjldbaa
open Go.RowKit
open Wd
set_option linter.unusedVariables false
def mv (m : List Int) : Value := .agg (iv m).toArray
theorem size_map : (Try.prog.info? 136).map (·.size) = some 24 := by kernel_rfl
theorem und_map : Try.prog.underlying 136 = some (.array 24 93) := by kernel_rfl
theorem index_map (m : List Int) (hm : m.length = 24) (k : Nat) (hk : k < 24) (w : World) : (Instr.index 136 (.agg (iv m).toArray) (.int .i64 (k : Int))).run Try.prog w = .ok (.int .i64 (m.getD k 0)) w := by
  have h1 : (Try.prog.info? 93).map (·.size) = some 1 := by kernel_rfl
  have hu : Try.prog.underlying 93 = some (.int .i64) := by kernel_rfl
  have hk' : k < m.length := by omega
  obtain ⟨i1, hi1, hs1⟩ : ∃ i, Try.prog.info? 93 = some i ∧ i.size = 1 := by
    cases hq : Try.prog.info? 93 with
    | none => simp [hq] at h1
    | some i => exact ⟨i, rfl, by simpa [hq] using h1⟩
  have hb : (0 : Int) ≤ (k : Int) ∧ (k : Int) < 24 := by omega
  have hc : (iv m)[k]? = some (.int .i64 (m[k]?.getD 0)) := by
    rw [iv_get m k hk', List.getElem?_eq_getElem hk']
    rfl
  simp [Instr.index, asIntOf, run_underlying und_map, sizeOf, typeInfo, part, isAgg, run_underlying hu, hi1, hs1, hk, hc]
/-- between two states of the map that is being made -/
def TSt (w : World) (R : Nat) (m f : List Int) (k : Nat) (wr : World) : Prop :=
  wr.heap[w.heap.size]? = some (.cells (iv (thenK m f k)).toArray 136 (0, 0)) ∧ wr.heap[w.heap.size + 1]? = some (.cells (iv f).toArray 136 (0, 0)) ∧ wr.heap[R]? = some (.cells (iv (List.replicate 24 0)).toArray 136 (0, 0)) ∧ Below w.heap.size w wr
theorem bSetRow {B : Nat} {w w' : World} (h : Below B w w') {R : Nat} (hR : B ≤ R) (cs : Array Value) : Below B w (w'.setRow R cs) :=
  ⟨h.os, h.tape, h.output, by rw [size_setRow]; exact h.size, fun k hk => by
    show (w'.heap.modify R _)[k]? = _
    rw [Array.getElem?_modify, if_neg (by omega)]
    exact h.block k hk⟩
set_option maxRecDepth 100000 in
set_option maxHeartbeats 1600000 in
theorem then_any (m f : List Int) (st : Int) (h24 : st ≤ 24) (hm : mapOk st m) (hf : mapOk st f) (w : World) :
    Calls Try.prog 154 #[.agg (iv m).toArray, .agg (iv f).toArray] w fun e w' => e = .returned (.agg (iv (thenRow m f)).toArray) ∧ Below w.heap.size w w' := by
  have hsm : (Try.prog.info? 136).map (·.size) = some (iv m).toArray.size := by rw [size_map]; simp [iv, hm.1]
  go_enter Try.func154, Try.ntmps154
  go_upto_region 1 with fail
  obtain ⟨hP, hF, hR, hB3, hs3⟩ := al3 w (.cells (iv m).toArray 136) (.cells (iv f).toArray 136) (.cells (iv (List.replicate 24 0)).toArray 136)
  change Code.wp _ _ _ _ (((w.alloc (.cells (iv m).toArray 136)).alloc (.cells (iv f).toArray 136)).alloc (.cells (iv (List.replicate 24 0)).toArray 136))
  generalize ((w.alloc (.cells (iv m).toArray 136)).alloc (.cells (iv f).toArray 136)).alloc (.cells (iv (List.replicate 24 0)).toArray 136) = w3 at *
  go_wp2_with (with_reducible refine wpList_load_row rfl 136 _ rfl w.heap.size rfl 136 _ _ _ hP und_map rfl hsm ?_)
  obtain ⟨R, hRe⟩ : ∃ R, R = w.heap.size + 1 + 1 := ⟨_, rfl⟩
  rw [show w.heap.size + 2 = R from hRe.symm] at hR
  rw [← hRe]
  have HRE := Lib.hid hRe
  have HST : Hid (TSt w R m f 0 w3) := Lib.hid ⟨by rw [thenK_zero]; exact hP, hF, hR, hB3⟩
  have HM := Lib.hid hm
  have HF := Lib.hid hf
  have HSM := Lib.hid hsm
  clear hRe hP hF hR hB3 hs3 hm hf hsm
  go_loopw [8] (fun i wr => ∃ k : Nat, k ≤ 24 ∧ i = .int .i64 k ∧ TSt w R m f k wr) (fun i _ => 24 - (intOf i).toNat)
  case atStart => exact ⟨0, by omega, rfl, HST.out⟩
  case round =>
    obtain ⟨k, hk, rfl, hst⟩ := hrel
    obtain ⟨wo, rfl⟩ : ∃ wo : World, wo = wr := ⟨_, rfl⟩
    have HS := Lib.hid hst
    obtain ⟨hP, hF, hR, hB⟩ := hst
    by_cases hlt : k < 24
    · have hkm : k < m.length := by rw [HM.out.1]; exact hlt
      have hq := HM.out.2 _ (List.getElem_mem hkm)
      obtain ⟨q, hqe⟩ : ∃ q : Nat, m[k] = q := ⟨m[k].toNat, by omega⟩
      have hq24 : q < 24 := by omega
      have hix := index_map m HM.out.1 k hlt
      rw [List.getD_eq_getElem?_getD, List.getElem?_eq_getElem hkm, Option.getD_some, hqe] at hix
      have hqf : q < f.length := by rw [HF.out.1]; exact hq24
      have c3 : wo.cell? ⟨w.heap.size + 1, q, none⟩ = some (.int .i64 (f.getD q 0)) := by
        rw [cell_of_row _ _ _ _ _ _ hF, List.getElem?_toArray, iv_get f q hqf, List.getD_eq_getElem?_getD, List.getElem?_eq_getElem hqf]; rfl
      have hkt : k < (thenK m f k).length := by rw [thenK_len m f k (by omega)]; exact hkm
      have c2 : wo.cell? ⟨w.heap.size, k, none⟩ = some (.int .i64 (thenK m f k)[k]) := by
        rw [cell_of_row _ _ _ _ _ _ hP, List.getElem?_toArray, iv_get _ k hkt]
      have f2 : wo.frozen? ⟨w.heap.size, k, none⟩ = false := frozen_of_row _ _ _ _ _ hP
      have HNX : Hid (TSt w R m f (k + 1) (wo.setCell ⟨w.heap.size, k, none⟩ (.int .i64 (f.getD q 0)))) := Lib.hid (by
        refine ⟨?_, (Below.heap_setCell wo _ _ _ (by simp)).trans hF, (Below.heap_setCell wo _ _ _ (by have := HRE.out; show R ≠ w.heap.size; omega)).trans hR, hB.setCell (by simp) _⟩
        rw [heap_setCell_same _ _ _ _ _ _ hP, ← thenK_set m f k hkm, hqe]
        simp [iv, List.map_set])
      generalize f.getD q 0 = z at *
      generalize (thenK m f k)[k] = u2 at *
      have hq0 : (0 : Int) ≤ (q : Int) := by omega
      have hq1 : (q : Int) < 24 := by omega
      have hk0 : (0 : Int) ≤ (k : Int) := by omega
      have hk1 : (k : Int) < 24 := by omega
      clear hP hF hR hB hq hqe hqf hkt hkm HS
      go_wp2_with fail
      go_roundw
      all_goals first | exact ⟨k + 1, by omega, by go_num, HNX.out⟩ | ((repeat apply Exists.intro); exact ⟨⟨k + 1, by omega, by go_num, HNX.out⟩, rfl⟩) | (simp [intOf]; done) | (simp [intOf]; omega) | omega
    · obtain rfl : k = 24 := by omega
      have hall : thenK m f 24 = thenRow m f := by rw [← HM.out.1]; exact thenK_all m f
      rw [hall] at hP
      have hsz : (iv (thenRow m f)).toArray.size = 24 := by simp [iv, thenRow, HM.out.1]
      have hsm : (Try.prog.info? 136).map (·.size) = some (iv (thenRow m f)).toArray.size := by rw [size_map, hsz]
      have hz : (iv (List.replicate 24 0)).toArray.size = (iv (thenRow m f)).toArray.size := by rw [hsz]; simp [iv]
      have h1 : (iv (thenRow m f)).toArray.all (·.oneCell') = true := all_oneCell_toArray (fun v hv => by obtain ⟨x, _, rfl⟩ := List.mem_map.1 hv; rfl)
      have HR9 : Hid ((wo.setRow R (iv (thenRow m f)).toArray).heap[R]? = some (.cells (iv (thenRow m f)).toArray 136 (0, 0))) := Lib.hid (setRow_heap wo R _ _ _ _ hR)
      have HB9 : Hid (Below w.heap.size w (wo.setRow R (iv (thenRow m f)).toArray)) := Lib.hid (bSetRow hB (by rw [HRE.out]; omega) _)
      have HSZ := Lib.hid hsm
      have HH := Lib.hid (And.intro hP (And.intro hR (And.intro hz h1)))
      clear hall hsz HS hF hB hP hR hz h1 hsm
      go_upto_region 6 with fail
      go_wp2_with (first
        | (with_reducible refine wpList_load_row rfl 136 _ rfl w.heap.size rfl 136 _ _ _ HH.out.1 und_map rfl HSZ.out ?_)
        | (with_reducible refine wpList_store_row rfl 136 _ _ rfl R _ rfl rfl 136 _ HH.out.2.1 HSZ.out HH.out.2.2.1 HH.out.2.2.2 ?_))
      refine bodyPost_ret (v := .agg (iv (thenRow m f)).toArray) (results_cell_row rfl _ _ R 136 _ (0, 0) _ rfl HR9.out und_map rfl HSZ.out) rfl ⟨rfl, HB9.out⟩
end Go.Proofs.Ytddjcgaejjldbaa
