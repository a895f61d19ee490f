/-
  Contracts and numbers of the functions that the laws of this place call, one text behind the other. No condition beyond those that each theorem names.
-/
import Derived.Test.YtaffachjopjbgaaZ6
import Derived.Test.YtaffachjopjbgaaZ7
namespace Go.Proofs.Ytaffachjopjbgaa
open Go.RowKit
open Wd
set_option linter.unusedVariables false
namespace Wd
def cpA (gs : List Rl) (p : ByteArray) : Int × Int := if askN (gOk gs) (okL p.data.toList) p.size = 0 then (allV (patV p gs) gs 0, 0) else (0, askN (gOk gs) (okL p.data.toList) p.size)
end Wd
theorem allV_nil (gs : List Rl) (vs : List (List Int)) (h : gs = []) (s : Int) : allV vs gs s = 0 := by subst h; rfl
set_option maxRecDepth 100000 in
set_option maxHeartbeats 3200000 in
theorem implCountPattern (gv : Value) (gs : List Rl) (p : ByteArray) (w : World) (hfr : FewR gs) (hr : Rules w gv gs) (hpm : p.size ≤ maxLen) :
    Calls Try.prog 30 #[.agg #[gv], .string p] w fun e w' => e = .returned (.tuple #[.int .i64 (cpA gs p).1, .int .i64 (cpA gs p).2]) ∧ Below w.heap.size w w' := by
  have HRU := Lib.hid (fun W (hb : Below w.heap.size w W) => hr.kept hb)
  have hb := (Below.refl _ w).alloc (Nat.le_refl _) (.cells #[gv] 37)
  have hg := cell_new w gv 37
  have HPS := Lib.hid (patternSearch_any gv gs p _ hfr hpm (HRU.out _ hb))
  have HB := Lib.hid hb
  obtain ⟨Ag, cg, rfl, hRx⟩ := hr
  clear hb hRx
  unfold cpA
  obtain ⟨c, hc⟩ : ∃ c, c = askN (gOk gs) (okL p.data.toList) p.size := ⟨_, rfl⟩
  rw [← hc] at HPS ⊢
  have HCE := Lib.hid hc
  clear hc
  by_cases h0 : c = 0
  · rw [if_pos h0]
    obtain ⟨hok, ho, _, _⟩ := ask_size (HCE.out.symm.trans h0)
    have HAL := Lib.hid (fun W sv (hb : Below w.heap.size w W) hW => all_any sv (.slice Ag gs.length cg) gs (patNx p.data.toList) (patV p gs) 0 0 W hok (HRU.out W hb) (visK_len _ _ _ _) hW (by omega))
    have HC0 := Lib.hid h0
    generalize allV (patV p gs) gs 0 = V at *
    clear hok ho
    go_enter Try.func30, Try.ntmps30
    go_wp2_with fail
    refine HPS.out.mono ?_
    rintro e w3 ⟨sv, rfl, hyes, hno, hB3⟩
    have HS3 := Lib.hid (hyes h0)
    have HB3 := Lib.hid (HB.out.trans (hB3.mono HB.out.size))
    obtain ⟨D2, d2, D3, d3, D4, d4, hsv⟩ := HS3.out.shapeP
    subst hsv
    subst h0
    clear hyes hno hB3 hg
    have hb4 := (Below.refl _ w3).alloc (Nat.le_refl _) (.cells #[.slice Ag gs.length cg, .slice D2 (lens gs).length d2, .slice D3 (mapsK (patNx p.data.toList) gs gs.length).length d3, .int .i64 0, .slice D4 (patV p gs).length d4] 116)
    have HS4 := Lib.hid (HS3.out.kept hb4)
    have HB4 := Lib.hid (HB3.out.trans (hb4.mono HB3.out.size))
    clear hb4
    go_wp2_with fail
    refine (HAL.out _ _ HB4.out HS4.out).mono ?_
    rintro e w5 ⟨rfl, hB5⟩
    have HB5 := Lib.hid (HB4.out.trans (hB5.mono HB4.out.size))
    clear hB5
    go_wp2_with fail
    go_ret2
    exact ⟨rfl, HB5.out⟩
  · rw [if_neg h0]
    have HAL := Lib.hid (fun W => all_any zeroS (.slice none 0 0) [] [] [] 0 0 W rfl ⟨none, 0, rfl, .inl rfl⟩ rfl (zeroS_is W []) (by omega))
    have HC0 := Lib.hid h0
    go_enter Try.func30, Try.ntmps30
    go_wp2_with fail
    refine HPS.out.mono ?_
    rintro e w3 ⟨sv, rfl, hyes, hno, hB3⟩
    have hsv := hno h0
    subst hsv
    have HB3 := Lib.hid (HB.out.trans (hB3.mono HB.out.size))
    unfold zeroS
    unfold zeroS at HAL
    clear hyes hno hB3 hg
    have HB4 := Lib.hid (HB3.out.alloc HB3.out.size (.cells #[.slice none 0 0, .slice none 0 0, .slice none 0 0, .int .i64 0, .slice none 0 0] 116))
    go_wp2_with fail
    refine (HAL.out _).mono ?_
    rintro e w5 ⟨rfl, hB5⟩
    have HB5 := Lib.hid (HB4.out.trans (hB5.mono HB4.out.size))
    clear hB5
    go_wp2_with fail
    go_ret2
    exact ⟨rfl, HB5.out⟩
set_option maxRecDepth 100000 in
set_option maxHeartbeats 6400000 in
theorem specCountPattern (gv : Value) (gs : List Rl) (p : ByteArray) (w : World) (hfr : FewR gs) (hr : Rules w gv gs) (hpm : p.size ≤ maxLen) :
    Calls Try.prog 29 #[.agg #[gv], .string p] w fun e w' => e = .returned (.tuple #[.int .i64 (cpA gs p).1, .int .i64 (cpA gs p).2]) ∧ Below w.heap.size w w' := by
  have hb := (Below.refl _ w).alloc (Nat.le_refl _) (.cells #[gv] 37)
  have hG : GP (w.alloc (.cells #[gv] 37)) w.heap.size gs := rules_gpT hr 37
  have HA := Lib.hid (l04Asked_any w.heap.size gs p _ hfr hpm hG)
  have HB := Lib.hid hb
  have HG := Lib.hid hG
  obtain ⟨Ag, cg, rfl, hRx⟩ := hr
  clear hb hRx hG
  unfold cpA
  obtain ⟨c, hc⟩ : ∃ c, c = askN (gOk gs) (okL p.data.toList) p.size := ⟨_, rfl⟩
  rw [← hc] at HA ⊢
  by_cases h0 : c = 0
  · rw [if_pos h0]
    obtain ⟨hok, ho, hp0, hp20⟩ := ask_size (hc.symm.trans h0)
    have hl : p.data.toList.length = p.size := by simp
    have haok := patA_ok (p := p.data.toList) (by omega)
    obtain ⟨⟨h1, h24⟩, hrow, hlen⟩ := aOk_parts haok
    have hnl := patNx_len p.data.toList
    have HP := Lib.hid (fun W => l04Pattern_any p W hp20)
    have HV := Lib.hid (fun nv W (hN : IsLL W nv (patNx p.data.toList)) hg => l04Visits_any nv (patNx p.data.toList) ((p.data.toList.length : Int) + 1) 0 w.heap.size gs W h1 h24 hrow hlen hN hok hg (by omega))
    have HVL : Hid ((vcL (patNx p.data.toList) gs (patNx p.data.toList).length 0)[p.size]? = some (allV (patV p gs) gs 0)) := Lib.hid (by
      unfold vcL
      rw [rowF_get (by omega)]
      rfl)
    have HVN : Hid ((vcL (patNx p.data.toList) gs (patNx p.data.toList).length 0).length = p.size + 1) := Lib.hid (by unfold vcL; rw [rowF_len]; omega)
    have HUN : Hid ((patNx p.data.toList).length = p.size + 1) := Lib.hid (by omega)
    have HP20 := Lib.hid hp20
    clear hok ho haok h1 h24 hrow hlen hnl hc hl hp0
    subst h0
    generalize allV (patV p gs) gs 0 = V at *
    go_enter Try.func29, Try.ntmps29
    go_wp2_with fail
    refine HA.out.mono ?_
    rintro e w3 ⟨rfl, hB3⟩
    have HB3 := Lib.hid (HB.out.trans (hB3.mono HB.out.size))
    have HG3 := Lib.hid (HG.out.kept hB3)
    clear hB3
    go_wp2_with fail
    refine (HP.out _).mono ?_
    rintro e w5 ⟨f, n, U, rfl, hA, hB5⟩
    have HB5 := Lib.hid (HB3.out.trans (hB5.mono HB3.out.size))
    have HG5 := Lib.hid (HG3.out.kept hB5)
    have HLL := Lib.hid hA.nx.isLL
    have hul := hA.nx.len
    obtain ⟨Af, cf, rfl⟩ := own_slice hA.fin
    obtain ⟨An, cn, rfl⟩ := own_slice hA.nx.outer
    rw [show (patA p.data.toList).nx = patNx p.data.toList from rfl, HUN.out] at hul
    rw [hul]
    rw [hul] at HLL
    obtain ⟨ST, hST⟩ : ∃ ST, ST = (patA p.data.toList).st := ⟨_, rfl⟩
    obtain ⟨GO, hGO⟩ : ∃ GO, GO = (patA p.data.toList).go := ⟨_, rfl⟩
    obtain ⟨FL, hFL⟩ : ∃ FL, FL = (patA p.data.toList).fin.length := ⟨_, rfl⟩
    rw [← hST, ← hGO, ← hFL]
    have hb6 := (Below.refl _ w5).alloc (Nat.le_refl _) (.cells #[.int .i64 ST, .int .i64 GO, .slice Af FL cf, .slice An (p.size + 1) cn] 33)
    have HB6 := Lib.hid (HB5.out.trans (hb6.mono HB5.out.size))
    have HG6 := Lib.hid (HG5.out.kept hb6)
    have HL6 := Lib.hid (HLL.out.kept hb6)
    have HAB : Hid (B4 (w5.alloc (.cells #[.int .i64 ST, .int .i64 GO, .slice Af FL cf, .slice An (p.size + 1) cn] 33)) w5.heap.size _ _ _ _ _) := Lib.hid (B4.new w5 (.int .i64 ST) (.int .i64 GO) (.slice Af FL cf) (.slice An (p.size + 1) cn) 33)
    clear hA hB5 hb6 hST hGO hFL hul
    go_upto_region 5 with fail
    generalize w5.alloc (.cells #[.int .i64 ST, .int .i64 GO, .slice Af FL cf, .slice An (p.size + 1) cn] 33) = w6 at *
    obtain ⟨⟨p0, p1, p2, p3⟩, _⟩ := blk4_cells HAB.out
    go_wp2_with fail
    refine (HV.out _ _ HL6.out HG6.out).mono ?_
    rintro e w7 ⟨y, rfl, ho7, hB7⟩
    have HB7 := Lib.hid (HB6.out.trans (hB7.mono HB6.out.size))
    obtain ⟨Ay, cy, hy⟩ := own_slice ho7
    rw [HVN.out] at hy
    subst hy
    have hcell : ∃ q : Addr, Ay = some q ∧ w7.cell? (q.add p.size) = some (.int .i64 V) := by
      have h9 := ho7
      unfold OwnsI at h9
      rw [HVN.out] at h9
      obtain ⟨g9, hA9, _, _⟩ := own_addr h9 (by omega)
      subst hA9
      refine ⟨_, rfl, ?_⟩
      have h8 := h9.cellAt p.size (by omega)
      rw [add_zero', h8]
      unfold iv
      rw [List.getElem?_map, HVL.out]
      rfl
    obtain ⟨q, rfl, hq⟩ := hcell
    have k0 : (0 : Int) ≤ (p.size : Int) := by omega
    have k1 : (p.size : Int) < (p.size : Int) + 1 := by omega
    clear hB7 ho7 p0 p1 p2 p3
    go_wp2_with fail
    go_ret2
    exact ⟨rfl, HB7.out⟩
  · rw [if_neg h0]
    have hd : (c == 0) = false := by simp [h0]
    have hd2 : (c != 0) = true := by simp [h0]
    clear hc
    go_enter Try.func29, Try.ntmps29
    go_wp2_with fail
    refine HA.out.mono ?_
    rintro e w3 ⟨rfl, hB3⟩
    have HB3 := Lib.hid (HB.out.trans (hB3.mono HB.out.size))
    clear hB3
    go_wp2_with fail
    go_ret2
    exact ⟨rfl, HB3.out⟩
end Go.Proofs.Ytaffachjopjbgaa
