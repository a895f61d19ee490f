/-
  The walk of FnExactPatternAuto: it returns true at every input.
-/
import Derived.Test.YtaffachjopjbgaaPtA
import Derived.Test.YtaffachjopjbgaaAuTo3
import Derived.Test.YtaffachjopjbgaaMatK
import Derived.Deep.RegionHeld3
namespace Go.Proofs.Ytaffachjopjbgaa.fnExactPatternAuto
open Go.RowKit Wd
set_option linter.unusedVariables false
theorem b4_only {w w' : World} {b lo : Nat} {c0 c1 c2 c3 f n : Value} {U : List Value} {fin : List Int} {nx : List (List Int)} (h : B4 w b c0 c1 c2 c3 33) (ha : OwnA w lo f n U fin nx) (ho : OnlyIn (f :: U) w w') : B4 w' b c0 c1 c2 c3 33 := by
  refine (ho.block b h.lt (fun u hu e => ?_)).trans h
  rcases List.mem_cons.1 hu with rfl | hu
  · rcases own_b4_ne ha.fin h (by decide) with h1 | h1
    · rw [h1] at e; cases e
    · exact h1 e
  · obtain ⟨j, hj, rfl⟩ := List.mem_iff_getElem.1 hu
    rcases own_b4_ne (ha.nx.rows.row j _ _ (List.getElem?_eq_getElem hj) (List.getElem?_eq_getElem (by rw [← ha.nx.rows.len]; exact hj))) h (by decide) with h1 | h1
    · rw [h1] at e; cases e
    · exact h1 e
theorem auN_pos (x : Au) : 0 ≤ auN x := by unfold auN; omega
set_option maxRecDepth 100000 in
set_option maxHeartbeats 25600000 in
theorem walk (p : ByteArray) (w : World) (hp : p.size ≤ maxLen) :
    Calls Try.prog 10 #[.string p] w fun e w' => e = .returned (.bool true) ∧ Below w.heap.size w w' := by
  by_cases hbig : 1048576 < p.size
  · unfold maxLen at hp
    go_enter Try.func10, Try.ntmps10
    go_wp2
    go_ret
    exact ⟨rfl, Below.refl _ _⟩
  have HSV := Lib.hid (fun W => specPatternAuto p W hp)
  have HIV := Lib.hid (fun W => implPatternAuto p W hp)
  have hrf := autPatternAuto_few p
  have hsz : p.size ≤ 1048576 := by omega
  generalize autPatternAuto p = rc at *
  obtain ⟨r, c⟩ := rc
  simp only at hrf HSV HIV
  have HEQ := Lib.hid (fun W u v (h1 : IsAu W u r) (h2 : IsAu W v r) => eqAuto_any u v r W hrf h1 h2)
  have HMR := Lib.hid (fun f n U lo W (h : OwnA W lo f n U r.fin r.nx) => markAu f n U r lo W hrf h)
  have HHR := Lib.hid (fun f n U lo W h => heldAu f n U r lo W hrf h)
  have han := auN_pos r
  clear hrf hp
  go_enter Try.func10, Try.ntmps10
  go_wp2_with fail
  refine (HSV.out _).mono ?_
  rintro e w3 ⟨y3, rfl, hy3, hB3⟩
  have HB3 := Lib.hid hB3
  have HY3 := Lib.hid hy3
  obtain ⟨fy, ny, rfl, hfy, hny3⟩ := hy3
  obtain ⟨A3, c3, rfl⟩ := hfy.shape
  obtain ⟨A3', c3', rfl, _⟩ := hny3
  have hb3 := (Below.refl _ w3).alloc (Nat.le_refl _) (.cells #[.int .i64 r.st, .int .i64 r.go, .slice A3 r.fin.length c3, .slice A3' r.nx.length c3'] 33)
  have hW3 : B4 (w3.alloc (.cells #[.int .i64 r.st, .int .i64 r.go, .slice A3 r.fin.length c3, .slice A3' r.nx.length c3'] 33)) w3.heap.size _ _ _ _ _ := B4.new w3 _ _ _ _ _
  have HYa := Lib.hid (HY3.out.kept hb3)
  have HWa := Lib.hid hW3
  have HBa := Lib.hid (HB3.out.trans (hb3.mono HB3.out.size))
  clear hfy hB3
  go_upto_region 4 with fail
  obtain ⟨Wb, hWb⟩ : ∃ Wb, Wb = w3.heap.size := ⟨_, rfl⟩
  rw [← hWb] at HWa hW3 ⊢
  generalize w3.alloc (.cells #[.int .i64 r.st, .int .i64 r.go, .slice A3 r.fin.length c3, .slice A3' r.nx.length c3'] 33) = wa at *
  have HCa := Lib.hid (Below.refl wa.heap.size wa)
  have HYK := Lib.hid (fun W (hb : Below wa.heap.size wa W) => HYa.out.kept hb)
  have HWK := Lib.hid (fun W (hb : Below wa.heap.size wa W) => HWa.out.kept hb)
  clear hb3 hW3 hWb
  go_wp2_with fail
  refine (HIV.out _).mono ?_
  rintro e w6 ⟨f6, n6, U6, rfl, ho6, hB6⟩
  have HG6 := Lib.hid ho6
  obtain ⟨Af6, cf6, rfl⟩ := own_slice ho6.fin
  obtain ⟨An6, cn6, rfl⟩ := own_slice ho6.nx.outer
  have HB6 := Lib.hid (HBa.out.trans (hB6.mono HBa.out.size))
  have HC6 := Lib.hid (HCa.out.trans (hB6.mono HCa.out.size))
  clear ho6 hB6
  have hb6 := (Below.refl _ w6).alloc (Nat.le_refl _) (.cells #[.int .i64 r.st, .int .i64 r.go, .slice Af6 r.fin.length cf6, .slice An6 U6.length cn6] 33)
  have HRc : Hid (B4 (w6.alloc (.cells #[.int .i64 r.st, .int .i64 r.go, .slice Af6 r.fin.length cf6, .slice An6 U6.length cn6] 33)) w6.heap.size _ _ _ _ _) := Lib.hid (B4.new w6 _ _ _ _ _)
  have HBc := Lib.hid (HB6.out.trans (hb6.mono HB6.out.size))
  have HCc := Lib.hid (HC6.out.trans (hb6.mono HC6.out.size))
  have HGc := Lib.hid (HG6.out.kept hb6)
  clear hb6
  go_upto_region 5 with fail
  obtain ⟨Gb, hGb⟩ : ∃ Gb, Gb = w6.heap.size := ⟨_, rfl⟩
  rw [← hGb] at HRc ⊢
  generalize w6.alloc (.cells #[.int .i64 r.st, .int .i64 r.go, .slice Af6 r.fin.length cf6, .slice An6 U6.length cn6] 33) = wc at *
  clear hGb
  have HWc := Lib.hid (HWK.out _ HCc.out)
  obtain ⟨⟨g0, g1, g2, g3⟩, _⟩ := blk4_cells HRc.out
  obtain ⟨⟨t0, t1, t2, t3⟩, _⟩ := blk4_cells HWc.out
  go_wp2_with fail
  refine (HEQ.out _ _ _ HGc.out.isAu (HYK.out _ HCc.out)).mono ?_
  rintro e w7 ⟨rfl, hB7⟩
  have HB7 := Lib.hid (HBc.out.trans (hB7.mono HBc.out.size))
  have HC7 := Lib.hid (HCc.out.trans (hB7.mono HCc.out.size))
  have HG7 := Lib.hid (HGc.out.kept hB7)
  have HR7 := Lib.hid (HRc.out.kept hB7)
  clear hB7 g0 g1 g2 g3 t0 t1 t2 t3
  obtain ⟨⟨g0, g1, g2, g3⟩, _⟩ := blk4_cells HR7.out
  go_wp2_with fail
  refine (HMR.out _ _ _ _ _ HG7.out).mono ?_
  rintro e wf ⟨rfl, hof, hoo⟩
  have HLO := Lib.hid (fun u hu q (hq : u.ownBlock = some q) => (HG7.out.blocks u hu q hq).1)
  have HBf := Lib.hid (HB7.out.trans (hoo.below (lo := w.heap.size) HB7.out.size (fun u hu q hq => by have h1 := HLO.out u hu q hq; have h2 := HBa.out.size;  omega)))
  have HCf := Lib.hid (HC7.out.trans (hoo.below (lo := wa.heap.size) HC7.out.size (fun u hu q hq => by have h1 := HLO.out u hu q hq;  omega)))
  have HRf := Lib.hid (b4_only HR7.out HG7.out hoo)
  have HGf := Lib.hid hof
  have hnm : ¬ (1 + auN r < 0) := by omega
  have hnm2 : decide (1 + auN r < 0) = false := decide_eq_false hnm
  clear hof hoo g0 g1 g2 g3
  obtain ⟨⟨g0, g1, g2, g3⟩, _⟩ := blk4_cells HRf.out
  go_wp2_with fail
  refine (HHR.out _ _ _ _ _ HGf.out).mono ?_
  rintro e wg ⟨rfl, hBg⟩
  have HBg := Lib.hid (HBf.out.trans (hBg.mono HBf.out.size))
  have HCg := Lib.hid (HCf.out.trans (hBg.mono HCf.out.size))
  have HGg := Lib.hid (HGf.out.kept hBg)
  have HRg := Lib.hid (HRf.out.kept hBg)
  clear hBg g0 g1 g2 g3
  go_wp2_with fail
  refine (HIV.out _).mono ?_
  rintro e wi ⟨fi, ni, Ui, rfl, hoi, hBi⟩
  have HBi := Lib.hid (HBg.out.trans (hBi.mono HBg.out.size))
  have HCi := Lib.hid (HCg.out.trans (hBi.mono HCg.out.size))
  have HGi := Lib.hid (HGg.out.kept hBi)
  have HRi := Lib.hid (HRg.out.kept hBi)
  have HHi := Lib.hid hoi
  obtain ⟨Afi, cfi, rfl⟩ := own_slice hoi.fin
  obtain ⟨Ani, cni, rfl⟩ := own_slice hoi.nx.outer
  clear hoi hBi
  have hbi := (Below.refl _ wi).alloc (Nat.le_refl _) (.cells #[.int .i64 r.st, .int .i64 r.go, .slice Afi r.fin.length cfi, .slice Ani Ui.length cni] 33)
  have HBj := Lib.hid (HBi.out.trans (hbi.mono HBi.out.size))
  have HCj := Lib.hid (HCi.out.trans (hbi.mono HCi.out.size))
  have HGj := Lib.hid (HGi.out.kept hbi)
  have HRj := Lib.hid (HRi.out.kept hbi)
  have HHj := Lib.hid (HHi.out.kept hbi)
  have HWj := Lib.hid (HWK.out _ HCj.out)
  have hwlt : Wb < wi.heap.size := (HWK.out _ HCi.out).lt
  have hrlt : Gb < wi.heap.size := HRi.out.lt
  clear hbi
  obtain ⟨⟨t0, t1, t2, t3⟩, _⟩ := blk4_cells (HWK.out _ HCi.out)
  go_wp2_with fail
  refine (HEQ.out _ _ _ HHj.out.isAu (HYK.out _ HCj.out)).mono ?_
  rintro e wk ⟨rfl, hBk⟩
  have HBk := Lib.hid (HBj.out.trans (hBk.mono HBj.out.size))
  have HCk := Lib.hid (HCj.out.trans (hBk.mono HCj.out.size))
  have HGk := Lib.hid (HGj.out.kept hBk)
  have HRk := Lib.hid (HRj.out.kept hBk)
  clear hBk t0 t1 t2 t3 hwlt hrlt
  obtain ⟨⟨g0, g1, g2, g3⟩, _⟩ := blk4_cells HRk.out
  go_wp2_with fail
  refine (HHR.out _ _ _ _ _ HGk.out).mono ?_
  rintro e wl ⟨rfl, hBl⟩
  have HBl := Lib.hid (HBk.out.trans (hBl.mono HBk.out.size))
  clear hBl g0 g1 g2 g3
  go_wp2_with fail
  go_ret
  exact ⟨rfl, HBl.out⟩
end Go.Proofs.Ytaffachjopjbgaa.fnExactPatternAuto
