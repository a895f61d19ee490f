/-
  Walks: spec.PatternAuto, impl.patternFault, impl.PatternAuto.
-/
import Derived.Test.YtaffachjopjbgaaPtP
import Derived.Test.YtaffachjopjbgaaPtI
namespace Go.Proofs.Ytaffachjopjbgaa
open Go.RowKit
open Wd
set_option linter.unusedVariables false
namespace Wd
def autPatternAuto (p : ByteArray) : Au × Int := if askN true (okL p.data.toList) p.size = 0 then (patA p.data.toList, 0) else (zeroA, askN true (okL p.data.toList) p.size)
end Wd
theorem ask_size {g q : Bool} {n : Nat} (h : askN g q n = 0) : g = true ∧ q = true ∧ 0 < n ∧ n ≤ 20 := by
  unfold askN at h
  split at h
  · next h1 =>
    refine ⟨h1.1, h1.2, ?_⟩
    split at h
    · omega
    · split at h
      · omega
      · omega
  · omega
theorem autPatternAuto_few (p : ByteArray) : FewA (autPatternAuto p).1 := by
  unfold autPatternAuto
  split
  · next h =>
    have := (ask_size h).2.2.2
    exact patA_few (by have : p.data.toList.length = p.size := by simp
                       omega)
  · exact zeroA_few
theorem gp_nil (w : World) : GP (w.alloc (.cells #[.slice none 0 0] 37)) w.heap.size [] :=
  ⟨.slice none 0 0, cell_new w _ _, none, 0, rfl, .inl rfl⟩
theorem few_nil : FewR [] := by
  unfold FewR
  simp [sumL]
theorem empty_byte {p : ByteArray} (h : p.size = 0) : p = ⟨#[]⟩ := by
  have h0 : p.data.size = 0 := h
  obtain ⟨d⟩ := p
  simp only at h0
  rw [Array.eq_empty_of_size_eq_zero h0]
theorem full_byte {p : ByteArray} (h : p.size ≠ 0) : (p.toList == ([] : List UInt8)) = false := by
  rw [ByteArray.toList_eq, beq_eq_false_iff_ne]
  intro e
  have h9 : p.data.toList.length = 0 := by rw [e]; rfl
  exact h (by simpa using h9)
theorem OwnA.set4 {w : World} {lo : Nat} {f n : Value} {U : List Value} {fin : List Int} {nx : List (List Int)} (h : OwnA w lo f n U fin nx) {R : Nat} (hR : R < lo) (d0 d1 d2 d3 : Value) : OwnA ((((w.setCell ⟨R, 0, none⟩ d0).setCell ⟨R, 1, none⟩ d1).setCell ⟨R, 2, none⟩ d2).setCell ⟨R, 3, none⟩ d3) lo f n U fin nx := by
  have one : ∀ {w : World} (i : Nat) (d : Value), OwnA w lo f n U fin nx → OwnA (w.setCell ⟨R, i, none⟩ d) lo f n U fin nx := fun i d h => ⟨own_setLow h.fin _ _ hR, h.nx.setLow _ _ hR, h.ne⟩
  exact one 3 d3 (one 2 d2 (one 1 d1 (one 0 d0 h)))
theorem fault_any (p : ByteArray) (w : World) : Calls Try.prog 111 #[.string p] w fun e w' => e = .returned (.int .i64 (askN true true p.size)) ∧ w' = w := by
  unfold askN
  rw [if_pos ⟨rfl, rfl⟩]
  by_cases h0 : p.size = 0
  · rw [if_pos h0]
    have he := empty_byte h0
    subst he
    go_enter Try.func111, Try.ntmps111
    go_wp2_with fail
    go_ret
    exact ⟨rfl, rfl⟩
  · rw [if_neg h0]
    have hne := full_byte h0
    have hne2 : p.toList ≠ [] := by
      intro e
      rw [e] at hne
      simp at hne
    have hne3 : p.toList.isEmpty = false := by
      cases h : p.toList with
      | nil => exact absurd h hne2
      | cons a b => rfl
    by_cases h20 : 20 < p.size
    · rw [if_pos h20]
      have hd : (20 : Int) < (p.size : Int) := by omega
      clear h0
      go_enter Try.func111, Try.ntmps111
      go_wp2_with fail
      go_ret
      exact ⟨rfl, rfl⟩
    · rw [if_neg h20]
      have hd : ¬ (20 : Int) < (p.size : Int) := by omega
      clear h0
      go_enter Try.func111, Try.ntmps111
      go_wp2_with fail
      go_ret
      exact ⟨rfl, rfl⟩
set_option maxRecDepth 100000 in
set_option maxHeartbeats 3200000 in
theorem specPatternAuto (p : ByteArray) (w : World) (hp : p.size ≤ maxLen) :
    Calls Try.prog 43 #[.string p] w fun e w' => ∃ y, e = .returned (.tuple #[y, .int .i64 (autPatternAuto p).2]) ∧ IsAu w' y (autPatternAuto p).1 ∧ Below w.heap.size w w' := by
  have hb : Below w.heap.size w (w.alloc (.cells #[.int .i64 0, .int .i64 0, .slice none 0 0, .slice none 0 0] 33)) := (Below.refl _ w).alloc (Nat.le_refl _) _
  have hR : B4 (w.alloc (.cells #[.int .i64 0, .int .i64 0, .slice none 0 0, .slice none 0 0] 33)) w.heap.size (.int .i64 0) (.int .i64 0) (.slice none 0 0) (.slice none 0 0) 33 := B4.new w _ _ _ _ _
  have hG := gp_nil (w.alloc (.cells #[.int .i64 0, .int .i64 0, .slice none 0 0, .slice none 0 0] 33))
  rw [show (w.alloc (.cells #[.int .i64 0, .int .i64 0, .slice none 0 0, .slice none 0 0] 33)).heap.size = w.heap.size + 1 from by simp] at hG
  have hB2 := hb.alloc hb.size (.cells #[.slice none 0 0] 37)
  have hR2 := hR.alloc (.cells #[.slice none 0 0] 37)
  have HA := Lib.hid (l04Asked_any (w.heap.size + 1) [] p _ few_nil hp hG)
  rw [show gOk [] = true from rfl] at HA
  have HB2 := Lib.hid hB2
  have HR2 := Lib.hid hR2
  clear hb hR hG hB2 hR2
  unfold autPatternAuto
  obtain ⟨c, hc⟩ : ∃ c, c = askN true (okL p.data.toList) p.size := ⟨_, rfl⟩
  rw [← hc] at HA ⊢
  have HP := Lib.hid (fun (h0 : c = 0) W => l04Pattern_any p W (by have := (ask_size (hc.symm.trans h0)).2.2.2; exact this))
  clear hc
  by_cases h0 : c = 0
  · rw [if_pos h0]
    have HQ := Lib.hid (HP.out h0)
    subst h0
    go_enter Try.func43, Try.ntmps43
    go_wp2_with fail
    refine HA.out.mono ?_
    rintro e w3 ⟨rfl, hB3⟩
    have HB3 := Lib.hid (HB2.out.trans (hB3.mono HB2.out.size))
    have HR3 := Lib.hid (HR2.out.kept hB3)
    clear hB3
    go_wp2_with fail
    refine (HQ.out _).mono ?_
    rintro e w4 ⟨f, n, U, rfl, hA, hB4⟩
    have HB4 := Lib.hid (HB3.out.trans (hB4.mono HB3.out.size))
    have HR4 := Lib.hid (HR3.out.kept hB4)
    have HS4 := Lib.hid hB4.size
    obtain ⟨Af, cf, rfl⟩ := own_slice hA.fin
    obtain ⟨An, cn, rfl⟩ := own_slice hA.nx.outer
    have HAA := Lib.hid hA
    have HWW : Hid (w.heap.size < w3.heap.size) := Lib.hid HR3.out.lt
    obtain ⟨⟨r0, r1, r2, r3⟩, g0, g1, g2, g3⟩ := blk4_cells HR4.out
    obtain ⟨ST, hST⟩ : ∃ ST, ST = (patA p.data.toList).st := ⟨_, rfl⟩
    obtain ⟨GO, hGO⟩ : ∃ GO, GO = (patA p.data.toList).go := ⟨_, rfl⟩
    rw [← hST, ← hGO]
    have HE := Lib.hid (blk4_cells (blk4_all (a' := .int .i64 ST) (b' := .int .i64 GO) (c' := .slice Af (patA p.data.toList).fin.length cf) (d' := .slice An U.length cn) HR4.out)).1
    have HST := Lib.hid hST
    have HGO := Lib.hid hGO
    clear hA hB4 hST hGO
    go_wp2_with fail
    obtain ⟨y0, y1, y2, y3⟩ := HE.out
    refine bodyPost_ret (v := .tuple #[.agg #[.int .i64 ST, .int .i64 GO, .slice Af (patA p.data.toList).fin.length cf, .slice An U.length cn], .int .i64 0]) (by simp [results, Try.results43, go_sem, y0, y1, y2, y3]) rfl ⟨_, rfl, ?_, ?_⟩
    · rw [HST.out, HGO.out]
      have hlo := HWW.out
      exact (OwnA.set4 HAA.out (R := w.heap.size) hlo _ _ _ _).isAu
    · exact (((HB4.out.setCell (Nat.le_refl _) _).setCell (Nat.le_refl _) _).setCell (Nat.le_refl _) _).setCell (Nat.le_refl _) _
  · rw [if_neg h0]
    have hd : (c == 0) = false := by simp [h0]
    have hd2 : (c != 0) = true := by simp [h0]
    go_enter Try.func43, Try.ntmps43
    go_wp2_with fail
    refine HA.out.mono ?_
    rintro e w3 ⟨rfl, hB3⟩
    have HB3 := Lib.hid (HB2.out.trans (hB3.mono HB2.out.size))
    have HR3 := Lib.hid (HR2.out.kept hB3)
    obtain ⟨⟨r0, r1, r2, r3⟩, g0, g1, g2, g3⟩ := blk4_cells HR3.out
    have HE := Lib.hid (blk4_cells (blk4_all (a' := .int .i64 0) (b' := .int .i64 0) (c' := .slice none 0 0) (d' := .slice none 0 0) HR3.out)).1
    clear hB3
    go_wp2_with fail
    obtain ⟨y0, y1, y2, y3⟩ := HE.out
    refine bodyPost_ret (v := .tuple #[.agg #[.int .i64 0, .int .i64 0, .slice none 0 0, .slice none 0 0], .int .i64 c]) (by simp [results, Try.results43, go_sem, y0, y1, y2, y3]) rfl ⟨_, rfl, zeroA_is _, ?_⟩
    exact (((HB3.out.setCell (Nat.le_refl _) _).setCell (Nat.le_refl _) _).setCell (Nat.le_refl _) _).setCell (Nat.le_refl _) _
set_option maxRecDepth 100000 in
set_option maxHeartbeats 3200000 in
theorem implPatternAuto (p : ByteArray) (w : World) (hp : p.size ≤ maxLen) :
    Calls Try.prog 44 #[.string p] w fun e w' => ∃ f n U, e = .returned (.tuple #[.agg #[.int .i64 (autPatternAuto p).1.st, .int .i64 (autPatternAuto p).1.go, f, n], .int .i64 (autPatternAuto p).2]) ∧ OwnA w' w.heap.size f n U (autPatternAuto p).1.fin (autPatternAuto p).1.nx ∧ Below w.heap.size w w' := by
  have hb : Below w.heap.size w (w.alloc (.cells #[.int .i64 0, .int .i64 0, .slice none 0 0, .slice none 0 0] 33)) := (Below.refl _ w).alloc (Nat.le_refl _) _
  have hR : B4 (w.alloc (.cells #[.int .i64 0, .int .i64 0, .slice none 0 0, .slice none 0 0] 33)) w.heap.size (.int .i64 0) (.int .i64 0) (.slice none 0 0) (.slice none 0 0) 33 := B4.new w _ _ _ _ _
  have HB2 := Lib.hid hb
  have HR2 := Lib.hid hR
  have HV := Lib.hid (implOk p (w.alloc (.cells #[.int .i64 0, .int .i64 0, .slice none 0 0, .slice none 0 0] 33)) hp)
  have HF := Lib.hid (fault_any p (w.alloc (.cells #[.int .i64 0, .int .i64 0, .slice none 0 0, .slice none 0 0] 33)))
  clear hb hR
  unfold autPatternAuto
  cases ho : okL p.data.toList
  · rw [ho] at HV
    have ha : askN true false p.size = 1 := by unfold askN; rw [if_neg (by simp)]
    rw [ha, if_neg (by omega)]
    clear ho ha
    go_enter Try.func44, Try.ntmps44
    go_wp2_with fail
    refine HV.out.mono ?_
    rintro e w3 ⟨rfl, hw3⟩
    subst hw3
    obtain ⟨⟨r0, r1, r2, r3⟩, g0, g1, g2, g3⟩ := blk4_cells HR2.out
    have HE := Lib.hid (blk4_cells (blk4_all (a' := .int .i64 0) (b' := .int .i64 0) (c' := .slice none 0 0) (d' := .slice none 0 0) HR2.out)).1
    go_wp2_with fail
    obtain ⟨y0, y1, y2, y3⟩ := HE.out
    refine bodyPost_ret (v := .tuple #[.agg #[.int .i64 0, .int .i64 0, .slice none 0 0, .slice none 0 0], .int .i64 1]) (by first | (simp [results, Try.results44, go_sem]; done) | simp [results, Try.results44, go_sem, y0, y1, y2, y3]) rfl ⟨_, _, _, rfl, zeroA_own _ _, ?_⟩
    first | exact HB2.out | exact (Below.refl _ w).alloc (Nat.le_refl _) _ | exact (((HB2.out.setCell (Nat.le_refl _) _).setCell (Nat.le_refl _) _).setCell (Nat.le_refl _) _).setCell (Nat.le_refl _) _
  · rw [ho] at HV
    obtain ⟨c, hc⟩ : ∃ c, c = askN true true p.size := ⟨_, rfl⟩
    rw [← hc] at HF ⊢
    have HP := Lib.hid (fun (h0 : c = 0) W => patternAuto_any p W (by have := (ask_size (hc.symm.trans h0)).2.2.2; exact this))
    clear hc ho
    by_cases h0 : c = 0
    · rw [if_pos h0]
      have HQ := Lib.hid (HP.out h0)
      subst h0
      go_enter Try.func44, Try.ntmps44
      go_wp2_with fail
      refine HV.out.mono ?_
      rintro e w3 ⟨rfl, hw3⟩
      subst hw3
      go_wp2_with fail
      refine HF.out.mono ?_
      rintro e w3 ⟨rfl, hw3⟩
      obtain rfl := hw3.symm
      go_wp2_with fail
      refine (HQ.out _).mono ?_
      rintro e w4 ⟨f, n, U, rfl, hA, hB4⟩
      have HB4 := Lib.hid (HB2.out.trans (hB4.mono HB2.out.size))
      have HR4 := Lib.hid (HR2.out.kept hB4)
      obtain ⟨Af, cf, rfl⟩ := own_slice hA.fin
      obtain ⟨An, cn, rfl⟩ := own_slice hA.nx.outer
      have HAA := Lib.hid hA
      have HWW : Hid (w.heap.size < (w.alloc (.cells #[.int .i64 0, .int .i64 0, .slice none 0 0, .slice none 0 0] 33)).heap.size) := Lib.hid (by simp)
      obtain ⟨⟨r0, r1, r2, r3⟩, g0, g1, g2, g3⟩ := blk4_cells HR4.out
      obtain ⟨ST, hST⟩ : ∃ ST, ST = (patA p.data.toList).st := ⟨_, rfl⟩
      obtain ⟨GO, hGO⟩ : ∃ GO, GO = (patA p.data.toList).go := ⟨_, rfl⟩
      rw [← hST, ← hGO]
      have HE := Lib.hid (blk4_cells (blk4_all (a' := .int .i64 ST) (b' := .int .i64 GO) (c' := .slice Af (patA p.data.toList).fin.length cf) (d' := .slice An U.length cn) HR4.out)).1
      have HST := Lib.hid hST
      have HGO := Lib.hid hGO
      clear hA hB4 hST hGO
      go_wp2_with fail
      obtain ⟨y0, y1, y2, y3⟩ := HE.out
      refine bodyPost_ret (v := .tuple #[.agg #[.int .i64 ST, .int .i64 GO, .slice Af (patA p.data.toList).fin.length cf, .slice An U.length cn], .int .i64 0]) (by simp [results, Try.results44, go_sem, y0, y1, y2, y3]) rfl ⟨_, _, U, by rw [HST.out, HGO.out], ?_, ?_⟩
      · exact ((OwnA.set4 HAA.out (R := w.heap.size) HWW.out _ _ _ _).lower (by simp))
      · exact (((HB4.out.setCell (Nat.le_refl _) _).setCell (Nat.le_refl _) _).setCell (Nat.le_refl _) _).setCell (Nat.le_refl _) _
    · rw [if_neg h0]
      have hd : (c == 0) = false := by simp [h0]
      have hd2 : (c != 0) = true := by simp [h0]
      go_enter Try.func44, Try.ntmps44
      go_wp2_with fail
      refine HV.out.mono ?_
      rintro e w3 ⟨rfl, hw3⟩
      subst hw3
      go_wp2_with fail
      refine HF.out.mono ?_
      rintro e w3 ⟨rfl, hw3⟩
      obtain rfl := hw3.symm
      obtain ⟨⟨r0, r1, r2, r3⟩, g0, g1, g2, g3⟩ := blk4_cells HR2.out
      have HE := Lib.hid (blk4_cells (blk4_all (a' := .int .i64 0) (b' := .int .i64 0) (c' := .slice none 0 0) (d' := .slice none 0 0) HR2.out)).1
      go_wp2_with fail
      obtain ⟨y0, y1, y2, y3⟩ := HE.out
      refine bodyPost_ret (v := .tuple #[.agg #[.int .i64 0, .int .i64 0, .slice none 0 0, .slice none 0 0], .int .i64 c]) (by first | (simp [results, Try.results44, go_sem]; done) | simp [results, Try.results44, go_sem, y0, y1, y2, y3]) rfl ⟨_, _, _, rfl, zeroA_own _ _, ?_⟩
      first | exact HB2.out | exact (Below.refl _ w).alloc (Nat.le_refl _) _ | exact (((HB2.out.setCell (Nat.le_refl _) _).setCell (Nat.le_refl _) _).setCell (Nat.le_refl _) _).setCell (Nat.le_refl _) _
end Go.Proofs.Ytaffachjopjbgaa
