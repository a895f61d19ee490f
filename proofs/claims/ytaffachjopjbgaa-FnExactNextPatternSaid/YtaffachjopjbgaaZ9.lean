/-
  Contracts and numbers of the functions that the laws of this place call, one text behind the other. No condition beyond those that each theorem names.
-/
import Derived.Test.YtaffachjopjbgaaZ1
import Derived.Test.YtaffachjopjbgaaZ5
import Derived.Test.YtaffachjopjbgaaZ6
import Derived.Test.YtaffachjopjbgaaZ7
namespace Go.Proofs.Ytaffachjopjbgaa
open Go.RowKit
open Wd
set_option linter.unusedVariables false
namespace Wd
/-- which visit of a pattern's end: behind how many letters -/
def patF (p : ByteArray) (gs : List Rl) (k : Int) : Int := fndF (fun q => decide (q = (p.size : Int))) (patNx p.data.toList) gs gs.length (gs.length - 1) 0 k
def paA (gs : List Rl) (p : ByteArray) (k : Int) : Int × Int :=
  if askN (gOk gs) (okL p.data.toList) p.size = 0 then (if k < 0 then (0, 2) else if allV (patV p gs) gs 0 ≤ k then (0, 6) else (patF p gs k - p.size, 0)) else (0, askN (gOk gs) (okL p.data.toList) p.size)
end Wd
theorem patF_bd {gs : List Rl} {p : ByteArray} {k : Int} (h20 : p.size ≤ 20) (hok : gOk gs = true) (h0 : 0 ≤ k) (hk : k < allV (patV p gs) gs 0) : 0 < gs.length ∧ 1 ≤ patF p gs k ∧ patF p gs k ≤ 1000000000000000 := by
  have hl : p.data.toList.length = p.size := by simp
  obtain ⟨⟨h1, h24⟩, hrow, hlen⟩ := aOk_parts (patA_ok (p := p.data.toList) (by omega))
  have hfit := (gOk_iff.1 hok).2.1
  unfold allV at hk
  by_cases hg0 : gs.length = 0
  · rw [if_pos hg0] at hk; omega
  · rw [if_neg hg0] at hk
    have h3 := (fnd_bd (fun q => decide (q = (p.size : Int))) hrow hlen h1 h24 hfit gs.length (gs.length - 1) 0 k (by omega) (by omega) (by omega)).2 h0 hk
    have h4 := small_at (gOk_iff.1 hok).2.2 (gs.length - 1) (by omega)
    unfold patF
    have h5 := h3.2
    have h6 := h3.1
    exact ⟨by omega, h6, Int.le_trans h5 h4⟩
set_option maxRecDepth 100000 in
set_option maxHeartbeats 6400000 in
theorem implPatternAt (gv : Value) (gs : List Rl) (p : ByteArray) (k : Int) (w : World) (hfr : FewR gs) (hr : Rules w gv gs) (hpm : p.size ≤ maxLen) (hkb : -9223372036854775808 ≤ k ∧ k ≤ 9223372036854775807) :
    Calls Try.prog 26 #[.agg #[gv], .string p, .int .i64 k] w fun e w' => e = .returned (.tuple #[.int .i64 (paA gs p k).1, .int .i64 (paA gs p k).2]) ∧ Below w.heap.size w w' := by
  have HRU := Lib.hid (fun W (hb : Below w.heap.size w W) => hr.kept hb)
  have hb := (Below.refl _ w).alloc (Nat.le_refl _) (.cells #[gv] 37)
  have hg := cell_new w gv 37
  have HPS := Lib.hid (patternSearch_any gv gs p _ hfr hpm (HRU.out _ hb))
  have HB := Lib.hid hb
  obtain ⟨Ag, cg, rfl, hRx⟩ := hr
  clear hb hRx
  unfold paA
  obtain ⟨c, hc⟩ : ∃ c, c = askN (gOk gs) (okL p.data.toList) p.size := ⟨_, rfl⟩
  rw [← hc] at HPS ⊢
  have HCE := Lib.hid hc
  clear hc
  by_cases h0 : c = 0
  · rw [if_pos h0]
    obtain ⟨hok, ho, hp0, h20⟩ := ask_size (HCE.out.symm.trans h0)
    have hl : p.data.toList.length = p.size := by simp
    obtain ⟨⟨h1, h24⟩, hrow, hlen⟩ := aOk_parts (patA_ok (p := p.data.toList) (by omega))
    have HAL := Lib.hid (fun W sv (hb : Below w.heap.size w W) hW => all_any sv (.slice Ag gs.length cg) gs (patNx p.data.toList) (patV p gs) 0 0 W hok (HRU.out W hb) (visK_len _ _ _ _) hW (by omega))
    have HVI := Lib.hid (fun W sv (hb : Below w.heap.size w W) hW hg0 hk0 hk => visit_any sv (.slice Ag gs.length cg) gs (fun q => decide (q = (p.size : Int))) (patNx p.data.toList) ((p.data.toList.length : Int) + 1) 0 k 0 W h1 h24 hrow hlen hok (HRU.out W hb) hW (by omega) hg0 hk0 hk)
    have HPB := Lib.hid (fun a b => patF_bd (k := k) h20 hok a b)
    have HC0 := Lib.hid h0
    obtain ⟨ans, hans⟩ : ∃ ans : Int × Int, ans = (if k < 0 then (0, 2) else if allV (patV p gs) gs 0 ≤ k then (0, 6) else (patF p gs k - p.size, 0)) := ⟨_, rfl⟩
    rw [← hans]
    have HA := Lib.hid hans
    clear hans hok ho hrow hlen h1 h24 hl
    go_enter Try.func26, Try.ntmps26
    go_wp2_with fail
    refine HPS.out.mono ?_
    rintro e w3 ⟨sv, rfl, hyes, hno, hB3⟩
    have HS3 := Lib.hid (hyes h0)
    have HB3 := Lib.hid (HB.out.trans (hB3.mono HB.out.size))
    obtain ⟨D2, d2, D3, d3, D4, d4, hsv⟩ := HS3.out.shapeP
    subst hsv
    subst h0
    clear hyes hno hB3 hg
    have hb4 := (Below.refl _ w3).alloc (Nat.le_refl _) (.cells #[.slice Ag gs.length cg, .slice D2 (lens gs).length d2, .slice D3 (mapsK (patNx p.data.toList) gs gs.length).length d3, .int .i64 0, .slice D4 (patV p gs).length d4] 116)
    have HS4 := Lib.hid (HS3.out.kept hb4)
    have HB4 := Lib.hid (HB3.out.trans (hb4.mono HB3.out.size))
    have HC4 : Hid (B5 _ w3.heap.size _ _ _ _ _ 116) := Lib.hid (heap_alloc_new w3 (.cells #[.slice Ag gs.length cg, .slice D2 (lens gs).length d2, .slice D3 (mapsK (patNx p.data.toList) gs gs.length).length d3, .int .i64 0, .slice D4 (patV p gs).length d4] 116))
    clear hb4
    go_upto_region 2 with fail
    obtain ⟨Sb, hSb⟩ : ∃ Sb, Sb = w3.heap.size := ⟨_, rfl⟩
    rw [← hSb] at HC4 ⊢
    generalize w3.alloc (.cells #[.slice Ag gs.length cg, .slice D2 (lens gs).length d2, .slice D3 (mapsK (patNx p.data.toList) gs gs.length).length d3, .int .i64 0, .slice D4 (patV p gs).length d4] 116) = w4 at *
    clear hSb
    obtain ⟨s0, s1, s2, s3, s4⟩ := b5_cells HC4.out
    by_cases hk0 : k < 0
    · have HE : Hid (ans = (0, 2)) := Lib.hid (by rw [HA.out, if_pos hk0])
      have hd : decide (k < 0) = true := decide_eq_true hk0
      clear hk0
      go_wp2_with fail
      go_ret2
      exact ⟨by rw [HE.out]; rfl, HB4.out⟩
    · have hd : decide (k < 0) = false := decide_eq_false hk0
      by_cases hka : allV (patV p gs) gs 0 ≤ k
      · have HE : Hid (ans = (0, 6)) := Lib.hid (by rw [HA.out, if_neg hk0, if_pos hka])
        have hd2 : decide (allV (patV p gs) gs 0 ≤ k) = true := decide_eq_true hka
        generalize allV (patV p gs) gs 0 = V at *
        clear hk0 hka
        go_wp2_with fail
        refine (HAL.out _ _ HB4.out HS4.out).mono ?_
        rintro e w5 ⟨rfl, hB5⟩
        have HB5 := Lib.hid (HB4.out.trans (hB5.mono HB4.out.size))
        clear hB5 s0 s1 s2 s3 s4
        go_wp2_with fail
        go_ret2
        exact ⟨by rw [HE.out]; rfl, HB5.out⟩
      · obtain ⟨hg0, hf1, hf2⟩ := HPB.out (by omega) (by omega)
        have HE : Hid (ans = (patF p gs k - p.size, 0)) := Lib.hid (by rw [HA.out, if_neg hk0, if_neg hka])
        have hd2 : decide (allV (patV p gs) gs 0 ≤ k) = false := decide_eq_false hka
        have HVJ : Hid (∀ W sv, Below w.heap.size w W → IsS W 0 sv (.slice Ag gs.length cg) gs (patNx p.data.toList) (patV p gs) 0 → Calls Try.prog 91 #[sv, .int .i64 k] W fun e w' => e = .returned (.int .i64 (patF p gs k)) ∧ Below W.heap.size W w') := Lib.hid (fun W sv hb hW => HVI.out W sv hb hW hg0 (by omega) (by show k < allV (patV p gs) gs 0; omega))
        have hw1 : IntKind.i64.wrap (patF p gs k - (p.size : Int)) = patF p gs k - (p.size : Int) := by rw [IntKind.wrap_i64]; omega
        clear hk0 hka hf1 hf2 HVI
        generalize allV (patV p gs) gs 0 = V at *
        generalize patF p gs k = fz at *
        go_wp2_with fail
        refine (HAL.out _ _ HB4.out HS4.out).mono ?_
        rintro e w5 ⟨rfl, hB5⟩
        have HB5 := Lib.hid (HB4.out.trans (hB5.mono HB4.out.size))
        have HS5 := Lib.hid (HS4.out.kept hB5)
        obtain ⟨t0, t1, t2, t3, t4⟩ := b5_cells (HC4.out.kept hB5)
        clear hB5 s0 s1 s2 s3 s4
        go_wp2_with fail
        refine (HVJ.out _ _ HB5.out HS5.out).mono ?_
        rintro e w6 ⟨rfl, hB6⟩
        have HB6 := Lib.hid (HB5.out.trans (hB6.mono HB5.out.size))
        clear hB6 t0 t1 t2 t3 t4
        go_wp2_with fail
        go_ret2
        exact ⟨by rw [HE.out]; rfl, HB6.out⟩
  · rw [if_neg h0]
    have hd : (c == 0) = false := by simp [h0]
    have hd2 : (c != 0) = true := by simp [h0]
    go_enter Try.func26, Try.ntmps26
    go_wp2_with fail
    refine HPS.out.mono ?_
    rintro e w3 ⟨sv, rfl, hyes, hno, hB3⟩
    have hsv := hno h0
    subst hsv
    have HB3 := Lib.hid (HB.out.trans (hB3.mono HB.out.size))
    unfold zeroS
    clear hyes hno hB3 hg
    have HB4 := Lib.hid (HB3.out.alloc HB3.out.size (.cells #[.slice none 0 0, .slice none 0 0, .slice none 0 0, .int .i64 0, .slice none 0 0] 116))
    go_wp2_with fail
    go_ret2
    exact ⟨rfl, HB4.out⟩
end Go.Proofs.Ytaffachjopjbgaa
namespace Go.Proofs.Ytaffachjopjbgaa
open Go.RowKit
open Wd
set_option linter.unusedVariables false
/-- the visits of all rules, as wide as there are states -/
def visN (wa : Int → Bool) (nx : List (List Int)) (gs : List Rl) (N k : Nat) : List (List Int) := (visK wa nx gs k).map (·.take N)
theorem visN_len (wa : Int → Bool) (nx : List (List Int)) (gs : List Rl) (N k : Nat) : (visN wa nx gs N k).length = k := by unfold visN; rw [List.length_map, visK_len]
theorem visK_row (wa : Int → Bool) (nx : List (List Int)) (gs : List Rl) : ∀ k j, j < k → ((visK wa nx gs k).getD j []).length = 24
  | 0, j, h => by omega
  | k + 1, j, h => by
    by_cases e : j = k
    · rw [visK, getD_snoc_eq _ _ _ _ (by rw [visK_len]; exact e), visR_len]
    · rw [visK, getD_snoc_lt _ _ _ _ (by rw [visK_len]; omega)]
      exact visK_row wa nx gs k j (by omega)
theorem visN_get {wa : Int → Bool} {nx : List (List Int)} {gs : List Rl} {N k j s : Nat} (h : j < k) (hs : s < N) (hN : N ≤ 24) : ∃ h1 : j < (visN wa nx gs N k).length, ∃ h2 : s < (visN wa nx gs N k)[j].length, (visN wa nx gs N k)[j].length = N ∧ (visN wa nx gs N k)[j][s] = at2 (visK wa nx gs k) j s := by
  have hj : j < (visK wa nx gs k).length := by rw [visK_len]; exact h
  have hr := visK_row wa nx gs k j h
  have he : (visK wa nx gs k).getD j [] = (visK wa nx gs k)[j] := by rw [List.getD_eq_getElem?_getD, List.getElem?_eq_getElem hj]; rfl
  rw [he] at hr
  have hl : ((visK wa nx gs k)[j].take N).length = N := by rw [List.length_take, hr]; omega
  refine ⟨by rw [visN_len]; exact h, by unfold visN; rw [List.getElem_map, hl]; exact hs, by unfold visN; rw [List.getElem_map, hl], ?_⟩
  unfold at2
  rw [he, List.getD_eq_getElem?_getD, List.getElem?_eq_getElem (by omega), Option.getD_some]
  simp only [visN, List.getElem_map, List.getElem_take]
set_option maxRecDepth 100000 in
set_option maxHeartbeats 12800000 in
theorem l04Tallies_any (nv mv : Value) (nx : List (List Int)) (st t : Int) (pg : Nat) (gs : List Rl) (w : World) (h1 : 1 ≤ st) (h24 : st ≤ 24) (hrow : nx.all (rowOk st) = true) (hlen : (nx.length : Int) = st) (hN : IsLL w nv nx) (hok : gOk gs = true) (hg : GP w pg gs) (hm : IsLL w mv (mapsN nx gs nx.length gs.length)) :
    Calls Try.prog 96 #[nv, .pointer (some ⟨pg, 0, none⟩), mv, .int .i64 t] w fun e w' => ∃ y, e = .returned y ∧ IsLL w' y (visN (fun q => decide (q = t)) nx gs nx.length gs.length) ∧ Below w.heap.size w w' := by
  obtain ⟨i0, hi, hz0, hz1, hz2⟩ := info_parts Try.info_ints
  obtain ⟨j0, hj, hy0, hy1, hy2⟩ := info_parts Try.info_int64
  have hfit := (gOk_iff.1 hok).2.1
  have hn := gOk_len hok
  have HGP := Lib.hid hg
  have HSM := Lib.hid (fun j (hj : j < gs.length) => small_at (gOk_iff.1 hok).2.2 j hj)
  obtain ⟨gv, hgv, Av, cv, rfl, hrc⟩ := hg
  obtain ⟨A, c, rfl, _⟩ := hN
  have HRC := Lib.hid hrc
  have HGV := Lib.hid hgv
  have HROW := Lib.hid hrow
  have HLEN := Lib.hid hlen
  have HFIT := Lib.hid hfit
  obtain ⟨N, hNe⟩ : ∃ N, N = nx.length := ⟨_, rfl⟩
  obtain ⟨n, hne⟩ : ∃ n, n = gs.length := ⟨_, rfl⟩
  have hNst : (N : Int) = st := by omega
  have hN24 : N ≤ 24 := by omega
  rw [← hNe, ← hne] at hm
  rw [← hNe, ← hne]
  rw [← hne] at hn hgv
  have HM1 := Lib.hid hm
  obtain ⟨Am, cm, rfl, _⟩ := hm
  rw [mapsN_len]
  have HN := Lib.hid hNe
  have HNE := Lib.hid hne
  have HNST := Lib.hid hNst
  obtain ⟨wa, hwa⟩ : ∃ wa : Int → Bool, wa = fun q => decide (q = t) := ⟨_, rfl⟩
  rw [← hwa]
  have HWA := Lib.hid hwa
  clear hrc hrow hlen hfit hNe hne hNst hok hwa
  go_enter Try.func96, Try.ntmps96
  go_wp2_with fail
  obtain ⟨w1, rfl⟩ : ∃ w1 : World, w1 = w := ⟨_, rfl⟩
  have HGV1 := Lib.hid hgv
  have HB1 : Hid (Below w1.heap.size w1 w1) := Lib.hid (Below.refl _ _)
  have HS := Lib.hid (MSt.start w1 _ rfl)
  go_loopw [9, 10] (fun y i wr => ∃ k : Nat, k ≤ n ∧ i = .int .i64 k ∧ MSt w1 (visN wa nx gs N k) y wr) (fun _ i _ => n - (intOf i).toNat)
  case atStart => exact ⟨0, Nat.zero_le _, rfl, HS.out⟩
  case round =>
    obtain ⟨k, hk, rfl, hst⟩ := hrel
    obtain ⟨wo, rfl⟩ : ∃ wo : World, wo = wr := ⟨_, rfl⟩
    obtain ⟨U, hm, hB⟩ := hst
    have HM := Lib.hid (And.intro hm hB)
    have hlenU := hm.len
    rw [visN_len] at hlenU
    obtain ⟨Ay, cy, hAy⟩ := own_slice hm.outer
    rw [hlenU] at hAy
    subst hAy
    have HLU := Lib.hid hlenU
    have hgo := (hB.cell (lt_of_cell HGV1.out)).trans HGV1.out
    clear hgv hlenU
    by_cases hkn : k < n
    · have hkg : k < gs.length := by rw [← HNE.out]; exact hkn
      rcases HRC.out with hn0 | ⟨g, rfl, hg, hc⟩
      · rw [hn0] at hkg; simp at hkg
      obtain ⟨a0, a1, a2⟩ := rules_cells hc hkg
      have hBw := HB1.out.trans (hB.mono HB1.out.size)
      rw [← hBw.cell (p := ⟨g, k * 3, none⟩) hg] at a0
      rw [← hBw.cell (p := ⟨g, k * 3 + 1, none⟩) hg] at a1
      rw [← hBw.cell (p := ⟨g, k * 3 + 2, none⟩) hg] at a2
      obtain ⟨row, hrw⟩ : ∃ row, row = visR wa (mapsK nx gs k) (visK wa nx gs k) gs[k] ((mapsK nx gs (k + 1)).getD k []) := ⟨_, rfl⟩
      have hnx : visN wa nx gs N (k + 1) = visN wa nx gs N k ++ [row.take N] := by
        unfold visN
        rw [visK, List.map_append, List.getD_eq_getElem?_getD (l := gs), List.getElem?_eq_getElem hkg, hrw]
        rfl
      have hr24 : row.length = 24 := by rw [hrw, visR_len]
      have hrow : ∀ q (hq : q < 24), row[q]'(by omega) = at2 (visK wa nx gs (k + 1)) k q := fun q hq => by
        unfold at2
        rw [visK, getD_snoc_eq _ _ _ _ (visK_len wa nx gs k).symm, List.getD_eq_getElem?_getD (l := gs), List.getElem?_eq_getElem hkg, Option.getD_some, ← hrw, List.getD_eq_getElem?_getD, List.getElem?_eq_getElem (by omega)]
        rfl
      have HNX := Lib.hid hnx
      have HROWV := Lib.hid hrow
      generalize hx : gs[k] = x at *
      have hx' : gs[k] = x := hx
      have HXE := Lib.hid hx'
      have hfk := fits_at HFIT.out k hkg
      rw [hx'] at hfk
      have HFK := Lib.hid hfk
      obtain ⟨L, l, r⟩ := x
      simp only at a0 a1 a2
      have hbk := (Below.refl _ wo).alloc (Nat.le_refl _) (.cells #[.string L, .int .i64 l, .int .i64 r] 127)
      have hKn := heap_alloc_new wo (.cells #[.string L, .int .i64 l, .int .i64 r] 127)
      have hB' : (wo.alloc (.cells #[.string L, .int .i64 l, .int .i64 r] 127)).heap.size = wo.heap.size + 1 := by simp
      obtain ⟨wk, hwk⟩ : ∃ wk, wk = wo.alloc (.cells #[.string L, .int .i64 l, .int .i64 r] 127) := ⟨_, rfl⟩
      have HWK := Lib.hid hwk
      rw [← hwk] at hbk hKn hB'
      have HSTB : Hid (FvIn w1 (.slice Ay k cy) U (visN wa nx gs N k) wk.heap.size row wo.heap.size ⟨L, l, r⟩ 0 (.slice (some ⟨wk.heap.size, 0, none⟩) 0 0) (wk.alloc (.cells #[] 2))) := Lib.hid
        ⟨⟨(hm.kept hbk).kept ((Below.refl _ wk).alloc (Nat.le_refl _) _), World.ownsRow_lit (base := wk.heap.size) (e := 2) (size := 1) wk #[] 0 (Nat.le_refl _) (by decide) rfl, (hB.trans (hbk.mono hB.size)).alloc (Nat.le_trans hB.size hbk.size) _, by simp⟩, by
          rw [((Below.refl _ wk).alloc (Nat.le_refl _) (.cells #[] 2)).block wo.heap.size (by omega)]
          exact hKn⟩
      have HUB := Lib.hid (fun (u : Value) hu q (hq : u.ownBlock = some q) => show q < wk.heap.size from by have := (hm.rows.ge u hu q hq).2; omega)
      have HYB := Lib.hid (fun q (hq : (Value.slice Ay k cy).ownBlock = some q) => show q < wk.heap.size from by have := (hm.outer.lt q hq).2; omega)
      have HWB : Hid (w1.heap.size ≤ wk.heap.size) := Lib.hid (Nat.le_trans hB.size hbk.size)
      obtain ⟨B, hBe⟩ : ∃ B, B = wk.heap.size := ⟨_, rfl⟩
      obtain ⟨Kp, hKp⟩ : ∃ Kp, Kp = wo.heap.size := ⟨_, rfl⟩
      rw [← hBe, ← hKp] at HSTB
      rw [← hBe] at HUB HYB HWB hB'
      rw [← hKp] at hB'
      have HKB := Lib.hid hB'
      clear hm hB hbk hKn hc hBw hrow hfk hx hx' hnx hrw
      go_wp2_with fail
      rw [hwk] at HSTB
      rw [← hKp]
      rw [← hB']
      clear hBe hgo a0 a1 a2 hwk hB' hKp
      go_loopw [12, 13] (fun tv i wr => ∃ s : Nat, s ≤ N ∧ i = .int .i64 s ∧ FvIn w1 (.slice Ay k cy) U (visN wa nx gs N k) B row Kp ⟨L, l, r⟩ s tv wr) (fun _ i _ => N - (intOf i).toNat)
      case atStart => exact ⟨0, Nat.zero_le _, rfl, HSTB.out⟩
      case round =>
        obtain ⟨s, hs, rfl, hst⟩ := hrel
        obtain ⟨wu, rfl⟩ : ∃ wu : World, wu = wr := ⟨_, rfl⟩
        obtain ⟨A3, c3, hA3⟩ := own_slice hst.1.2.1
        by_cases hsN : s < N
        · rw [List.length_take, Nat.min_eq_left (by omega)] at hA3
          subst hA3
          have hs24 : s < 24 := by omega
          obtain ⟨kc0, kc1, kc2⟩ := rule3_cells hst.2
          have hBu := hst.1.2.2.1
          have HMu := HM1.out.kept hBu
          have HFu := hst.1.1.isLL
          have hBB : B ≤ wu.heap.size := hst.1.2.2.2
          have HO : Hid (wu.ownsRow B 2 1 (.slice A3 s c3) s (iv (row.take s))) := Lib.hid (by
            have := hst.1.2.1
            unfold OwnsI at this
            rw [List.length_take, Nat.min_eq_left (by omega)] at this
            exact this)
          have HST := Lib.hid hst
          have hzr : row[s]'(by omega) = at2 (visK wa nx gs gs.length) k s := by rw [HROWV.out s hs24, ← visK_at wa nx gs k s gs.length hkg]
          have hmr := (mapsK_ok HROW.out HLEN.out h1 h24 HFIT.out n (by rw [← HNE.out]; omega) k hkn).1
          have k0 : (0 : Int) ≤ (k : Int) := by omega
          have k1 : (k : Int) < (n : Int) := by omega
          have s0 : (0 : Int) ≤ (s : Int) := by omega
          have s1 : (s : Int) < (N : Int) := by omega
          clear hst hBu
          by_cases h0 : L.size = 0
          · have hp := (ok_pair h0).1 HFK.out
            have he := empty_arr h0
            simp only at hp he
            have hxe := HXE.out
            clear h0
            subst he
            obtain ⟨a, rfl⟩ : ∃ a : Nat, l = a := ⟨l.toNat, by omega⟩
            obtain ⟨b, rfl⟩ : ∃ b : Nat, r = b := ⟨r.toNat, by omega⟩
            have ha : a < k := by omega
            have hb : b < k := by omega
            have hfp := vis_pair wa nx hkg (by rw [hxe]; rfl) (show gs[k].l = (a : Int) by rw [hxe]) (show gs[k].r = (b : Int) by rw [hxe]) ha hb hs24
            rw [hfp] at hzr
            have hma := (mapsK_ok HROW.out HLEN.out h1 h24 HFIT.out gs.length (Nat.le_refl _) a (by omega))
            have hqb := map_lt HROW.out HLEN.out h1 h24 HFIT.out (k := a) (s := s) (by omega) hs24
            have hq0 : 0 ≤ at2 (mapsK nx gs gs.length) a s ∧ at2 (mapsK nx gs gs.length) a s < (N : Int) := by
              unfold at2
              rw [List.getD_eq_getElem?_getD (i := s), List.getElem?_eq_getElem (by rw [hma.1]; omega), Option.getD_some]
              have := hma.2 _ (List.getElem_mem (show s < ((mapsK nx gs gs.length).getD a []).length by rw [hma.1]; omega))
              have := HNST.out
              omega
            have bda := (fnd_bd wa HROW.out HLEN.out h1 h24 HFIT.out (a + 1) a s 0 (by omega) (by omega) hs24).1
            have bdb := (fnd_bd wa HROW.out HLEN.out h1 h24 HFIT.out (b + 1) b (at2 (mapsK nx gs gs.length) a s).toNat 0 (by omega) (by omega) hqb).1
            have va := (vis_fir wa HROW.out HLEN.out h1 h24 HFIT.out (a + 1) a s (by omega) (by omega) hs24).1
            have vb := (vis_fir wa HROW.out HLEN.out h1 h24 HFIT.out (b + 1) b (at2 (mapsK nx gs gs.length) a s).toNat (by omega) (by omega) hqb).1
            have la := HSM.out a (by omega)
            have lb := HSM.out b (by omega)
            obtain ⟨q, hq⟩ : ∃ q : Nat, at2 (mapsK nx gs gs.length) a s = q := ⟨(at2 (mapsK nx gs gs.length) a s).toNat, by omega⟩
            rw [hq, Int.toNat_natCast] at hzr bdb vb
            have hqN : q < N := by omega
            obtain ⟨m1, m2, m3, m4⟩ := mapsN_at (nx := nx) (gs := gs) (N := N) (k := n) (j := a) (s := s) (by omega) hsN (mapsK_ok HROW.out HLEN.out h1 h24 HFIT.out n (by rw [← HNE.out]; omega) a (by omega)).1 hN24
            replace m4 := m4.trans (mapsK_at nx gs a s (show a < n by omega) (show a < gs.length by omega))
            rw [hq] at m4
            obtain ⟨am, xm, cm1, cm2, hvm, g0, g1⟩ := ll_get HMu m1 m2
            rw [m3] at g0
            rw [m4] at g1
            obtain ⟨o1, o2, o3, o4⟩ := visN_get (wa := wa) (nx := nx) (gs := gs) (N := N) (k := k) (j := a) (s := s) ha hsN hN24
            rw [visK_at wa nx gs a s k ha, ← visK_at wa nx gs a s gs.length (by omega)] at o4
            obtain ⟨ay, xa, cy1, cy2, hvy, e0, e1⟩ := ll_get HFu o1 o2
            rw [o3] at e0
            rw [o4] at e1
            obtain ⟨r1, r2, r3, r4⟩ := visN_get (wa := wa) (nx := nx) (gs := gs) (N := N) (k := k) (j := b) (s := q) hb hqN hN24
            rw [visK_at wa nx gs b q k hb, ← visK_at wa nx gs b q gs.length (by omega)] at r4
            obtain ⟨ay2, xb, cy3, cy4, hvy2, f0, f1⟩ := ll_get HFu r1 r2
            rw [r3] at f0
            rw [r4] at f1
            injection hvm with hvm hx1 hx2
            clear hx1 hx2
            injection hvy with hvy hx1 hx2
            clear hx1 hx2
            injection hvy2 with hvy2 hx1 hx2
            clear hx1 hx2
            subst hvm
            rw [hvy] at hvy2
            injection hvy2 with hvy2
            subst hvy2
            subst hvy
            generalize at2 (visK wa nx gs gs.length) a s = p at *
            generalize at2 (visK wa nx gs gs.length) b q = m at *
            have a0' : (0 : Int) ≤ (a : Int) := by omega
            have a1' : (a : Int) < (k : Int) := by omega
            have a2' : (a : Int) < (n : Int) := by omega
            have b0' : (0 : Int) ≤ (b : Int) := by omega
            have b1' : (b : Int) < (k : Int) := by omega
            have q0' : (0 : Int) ≤ (q : Int) := by omega
            have q1' : (q : Int) < (N : Int) := by omega
            have hws : IntKind.i64.wrap (p + m) = p + m := IntWalk.i64_in _ (by omega)
            clear hp hxe hfp hma hqb hq0 hq m1 m2 m3 m4 o1 o2 o3 o4 r1 r2 r3 r4 HMu HFu hmr bda bdb va vb la lb
            have HZ := Lib.hid hzr
            clear hzr
            go_upto_region 12 with fail
            go_quiet ((fail))
            have HST := Lib.hid (FvIn.drewN HST.out nq)
            have HO : Hid ((wu.drewN nq).ownsRow B 2 1 (.slice A3 s c3) s (iv (row.take s))) := Lib.hid HO.out
            have hBB : B ≤ (wu.drewN nq).heap.size := hBB
            clear kc0 kc1 kc2 g0 g1 e0 e1 f0 f1
            generalize wu.drewN nq = wv at *
            go_wp2_with (first | (at_builtin; refine wpList_append_own _ rfl _ _ 22 rfl B 2 j0 (.int .i64 0) 1 8 Try.underlying22 hj hy0 hy1 hy2 rfl (by decide) _ _ _ rfl (World.ownsRow.alloc HO.out _) ⟨wv.heap.size, 0, none⟩ 1 1 [.int .i64 (p + m)] rfl rfl (one_new _ _ _) (one_int _ _) (by unfold maxLen; omega) (by omega) (by simp; omega) ?_))
            intro v' w5 hown' hgr _
            have HN5 := Lib.hid (FvIn.append HST.out HWB.out HUB.out HYB.out (by omega) HKB.out HZ.out hown' hgr)
            clear hown' hgr
            go_wp2_with fail
            go_roundw
            all_goals first | exact ⟨s + 1, by omega, by go_num, HN5.out⟩ | ((repeat apply Exists.intro); exact ⟨⟨s + 1, by omega, by go_num, HN5.out⟩, rfl⟩) | (simp [intOf]; done) | (simp [intOf]; omega) | omega
          · obtain ⟨b, hL, _, _, _⟩ := letter_byte h0 HFK.out
            simp only at hL
            have hfl := vis_letter wa nx hkg (show gs[k].L.size ≠ 0 by rw [HXE.out]; exact h0) hs24
            rw [hfl] at hzr
            obtain ⟨m1, m2, m3, m4⟩ := mapsN_at (nx := nx) (gs := gs) (N := N) (k := n) (j := k) (s := s) hkn hsN hmr hN24
            obtain ⟨am, xm, cm1, cm2, hvm, g0, g1⟩ := ll_get HMu m1 m2
            rw [m3] at g0
            rw [m4.trans (mapsK_at nx gs k s hkn hkg)] at g1
            injection hvm with hvm hx1 hx2
            clear hx1 hx2
            subst hvm
            have hne := full_list h0
            rw [hL] at hne
            subst hL
            rw [HWA.out] at hzr
            simp only [decide_eq_true_eq] at hzr
            clear h0 hfl m1 m2 m3 m4 hne
            generalize at2 (mapsK nx gs gs.length) k s = q at *
            clear HMu HFu hmr
            by_cases hqt : q = t
            · have hd1 : (q == t) = true := by simp [hqt]
              rw [if_pos hqt] at hzr
              have HZ := Lib.hid hzr
              subst hqt
              clear hzr
              go_wp2_with (first | (at_builtin; refine wpList_append_own _ rfl _ _ 22 rfl B 2 j0 (.int .i64 0) 1 8 Try.underlying22 hj hy0 hy1 hy2 rfl (by decide) _ _ _ rfl (World.ownsRow.alloc HO.out _) ⟨wu.heap.size, 0, none⟩ 1 1 [.int .i64 1] rfl rfl (one_new _ _ _) (one_int _ _) (by unfold maxLen; omega) (by omega) (by simp; omega) ?_))
              intro v' w5 hown' hgr _
              have HN5 := Lib.hid (FvIn.append HST.out HWB.out HUB.out HYB.out (by omega) HKB.out HZ.out hown' hgr)
              clear hown' hgr
              go_wp2_with fail
              go_roundw
              all_goals first | exact ⟨s + 1, by omega, by go_num, HN5.out⟩ | ((repeat apply Exists.intro); exact ⟨⟨s + 1, by omega, by go_num, HN5.out⟩, rfl⟩) | (simp [intOf]; done) | (simp [intOf]; omega) | omega
            · have hd1 : (q == t) = false := by simp [hqt]
              rw [if_neg hqt] at hzr
              have HZ := Lib.hid hzr
              clear hzr
              go_wp2_with (first | (at_builtin; refine wpList_append_own _ rfl _ _ 22 rfl B 2 j0 (.int .i64 0) 1 8 Try.underlying22 hj hy0 hy1 hy2 rfl (by decide) _ _ _ rfl (World.ownsRow.alloc HO.out _) ⟨wu.heap.size, 0, none⟩ 1 1 [.int .i64 0] rfl rfl (one_new _ _ _) (one_int _ _) (by unfold maxLen; omega) (by omega) (by simp; omega) ?_))
              intro v' w5 hown' hgr _
              have HN5 := Lib.hid (FvIn.append HST.out HWB.out HUB.out HYB.out (by omega) HKB.out HZ.out hown' hgr)
              clear hown' hgr
              go_wp2_with fail
              go_roundw
              all_goals first | exact ⟨s + 1, by omega, by go_num, HN5.out⟩ | ((repeat apply Exists.intro); exact ⟨⟨s + 1, by omega, by go_num, HN5.out⟩, rfl⟩) | (simp [intOf]; done) | (simp [intOf]; omega) | omega
        · obtain rfl : s = N := by omega
          rw [List.length_take, Nat.min_eq_left (by omega)] at hA3
          subst hA3
          have hws : w1.heap.size ≤ wu.heap.size := hst.1.2.2.1.size
          have HIS := Lib.hid hst.1
          have HFR : Hid (∀ q ∈ U, q.ownBlock = none ∨ q.ownBlock ≠ (Value.slice A3 s c3).ownBlock) := Lib.hid (fun q hq => by
            cases e : q.ownBlock with
            | none => exact .inl rfl
            | some g => exact .inr fun e' => by have h1 := HUB.out q hq g e; have h2 := (hst.1.2.1.lt g e'.symm).1; omega)
          have HOU : Hid (∀ o, (wu.alloc o).ownsRow w1.heap.size 22 1 (.slice Ay k cy) k U) := Lib.hid (fun o => by
            have := hst.1.1.outer
            rw [HLU.out] at this
            exact this.alloc o)
          clear hst
          go_wp2_with (first | (at_builtin; refine wpList_append_own _ rfl _ _ 23 rfl w1.heap.size 22 i0 (.slice none 0 0) 1 24 Try.underlying23 hi hz0 hz1 hz2 rfl (by decide) _ _ _ rfl (HOU.out _) ⟨wu.heap.size, 0, none⟩ 1 1 [.slice A3 s c3] rfl rfl (one_new _ _ _) (one_slice _ _ _) (by unfold maxLen; omega) (by omega) (by simp; omega) ?_))
          intro y' w6 hown hg6 _
          have HST6 : Hid (MSt w1 (visN wa nx gs s (k + 1)) y' w6) := Lib.hid (by
            rw [HNX.out]
            refine ⟨U ++ [.slice A3 s c3], HIS.out.1.snoc (own_lower HIS.out.2.1 HWB.out) HFR.out (by rw [HLU.out]; exact hown) hg6, ?_⟩
            exact (HIS.out.2.2.1.alloc hws _).grown hg6 (by simp; omega) (fun q hq => (HIS.out.1.outer.lt q hq).1))
          clear hown hg6
          go_wp2_with fail
          go_roundw
          all_goals first | exact ⟨k + 1, by omega, by go_num, HST6.out⟩ | ((repeat apply Exists.intro); exact ⟨⟨k + 1, by omega, by go_num, HST6.out⟩, rfl⟩) | (simp [intOf]; done) | (simp [intOf]; omega) | omega
    · obtain rfl : k = n := by omega
      have HLL := Lib.hid hm.isLL
      clear hm hB
      go_wp2_with fail
      go_ret
      exact ⟨_, rfl, HLL.out, HB1.out.trans (HM.out.2.mono HB1.out.size)⟩
end Go.Proofs.Ytaffachjopjbgaa
namespace Go.Proofs.Ytaffachjopjbgaa
open Go.RowKit
open Wd
set_option linter.unusedVariables false
theorem fnd_letter_at (wa : Int → Bool) (nx : List (List Int)) {gs : List Rl} {k s : Nat} {c : Int} (hk : k < gs.length) (hz : gs[k].L.size ≠ 0) : fndF wa nx gs gs.length k s c = 1 := by
  obtain ⟨f, hf⟩ : ∃ f, gs.length = f + 1 := ⟨gs.length - 1, by omega⟩
  have h := fnd_letter wa nx (s := s) (f := f) (c := c) hk hz
  rw [← hf] at h
  exact h
theorem fnd_pair_at (wa : Int → Bool) (nx : List (List Int)) {gs : List Rl} {k a b s : Nat} {c : Int} (hfit : fits gs = true) (hk : k < gs.length) (hz : gs[k].L.size = 0) (ha : gs[k].l = a) (hb : gs[k].r = b) (hak : a < k) (hbk : b < k) (hs : s < 24) :
    fndF wa nx gs gs.length k s c = if c < at2 (visK wa nx gs gs.length) a s then fndF wa nx gs gs.length a s c else (lens gs).getD a 0 + fndF wa nx gs gs.length b (at2 (mapsK nx gs gs.length) a s).toNat (c - at2 (visK wa nx gs gs.length) a s) := by
  obtain ⟨f, hf⟩ : ∃ f, gs.length = f + 1 := ⟨gs.length - 1, by omega⟩
  have h := fnd_pair wa nx (s := s) (f := f) (c := c) hk hz ha hb
  rw [fnd_stable wa nx hfit f gs.length a s c (by omega) (by omega) (by omega), fnd_stable wa nx hfit f gs.length b _ _ (by omega) (by omega) (by omega), ← hf] at h
  exact h
/-- between two rules on the way down to a visit -/
def PaRel (wa : Int → Bool) (nx : List (List Int)) (gs : List Rl) (N : Nat) (T : Int) (w9 : World) (kv rv sv ev : Value) (wr : World) : Prop :=
  ∃ (r s : Nat) (c e : Int), kv = .int .i64 c ∧ rv = .int .i64 (r : Int) ∧ sv = .int .i64 (s : Int) ∧ ev = .int .i64 e ∧ r < gs.length ∧ s < N ∧ 0 ≤ c ∧ c < at2 (visK wa nx gs gs.length) r s ∧ 0 ≤ e ∧ e + fndF wa nx gs gs.length r s c = T ∧ Below w9.heap.size w9 wr
set_option maxRecDepth 100000 in
set_option maxHeartbeats 3200000 in
theorem specPatternAt (gv : Value) (gs : List Rl) (p : ByteArray) (k : Int) (w : World) (hfr : FewR gs) (hr : Rules w gv gs) (hpm : p.size ≤ maxLen) (hkb : -9223372036854775808 ≤ k ∧ k ≤ 9223372036854775807) :
    Calls Try.prog 25 #[.agg #[gv], .string p, .int .i64 k] w fun e w' => e = .returned (.tuple #[.int .i64 (paA gs p k).1, .int .i64 (paA gs p k).2]) ∧ Below w.heap.size w w' := by
  have HRU := Lib.hid (fun W (hb : Below w.heap.size w W) => hr.kept hb)
  have hb := (Below.refl _ w).alloc (Nat.le_refl _) (.cells #[gv] 37)
  have hG : GP (w.alloc (.cells #[gv] 37)) w.heap.size gs := rules_gpT hr 37
  have hg := cell_new w gv 37
  have HA := Lib.hid (l04Asked_any w.heap.size gs p _ hfr hpm hG)
  have HB := Lib.hid hb
  have HG := Lib.hid hG
  have HGC := Lib.hid hg
  obtain ⟨Ag, cg, rfl, hRx⟩ := hr
  clear hb hRx hG hg
  unfold paA
  obtain ⟨c, hc⟩ : ∃ c, c = askN (gOk gs) (okL p.data.toList) p.size := ⟨_, rfl⟩
  rw [← hc] at HA ⊢
  by_cases h0 : c = 0
  · rw [if_pos h0]
    obtain ⟨hok, ho, hp0, h20⟩ := ask_size (hc.symm.trans h0)
    have hl : p.data.toList.length = p.size := by simp
    have haok := patA_ok (p := p.data.toList) (by omega)
    obtain ⟨⟨h1, h24⟩, hrow, hlen⟩ := aOk_parts haok
    have hrow : (patNx p.data.toList).all (rowOk ((p.data.toList.length : Int) + 1)) = true := hrow
    have hlen : ((patNx p.data.toList).length : Int) = (p.data.toList.length : Int) + 1 := hlen
    have h1 : 1 ≤ (p.data.toList.length : Int) + 1 := h1
    have h24 : (p.data.toList.length : Int) + 1 ≤ 24 := h24
    have hnl := patNx_len p.data.toList
    have hfit := (gOk_iff.1 hok).2.1
    have hn400 := gOk_len hok
    have HP := Lib.hid (fun W => l04Pattern_any p W h20)
    have HMA := Lib.hid (fun nv W (hN : IsLL W nv (patNx p.data.toList)) hg => l04Maps_any nv (patNx p.data.toList) ((p.data.toList.length : Int) + 1) w.heap.size gs W h1 h24 hrow hlen hN hfit hn400 hg)
    have HTA := Lib.hid (fun nv mv W (hN : IsLL W nv (patNx p.data.toList)) hg hm => l04Tallies_any nv mv (patNx p.data.toList) ((p.data.toList.length : Int) + 1) (p.size : Int) w.heap.size gs W h1 h24 hrow hlen hN hok hg hm)
    have HLS : Hid (∀ W, GP W w.heap.size gs → Calls Try.prog 81 #[.pointer (some ⟨w.heap.size, 0, none⟩)] W fun e w' => ∃ x, e = .returned (.tuple #[x, .bool true]) ∧ OwnsI w' W.heap.size x (lens gs) ∧ Below W.heap.size W w') := Lib.hid (fun W hg => by
      refine (lengths_any w.heap.size gs W hfr hg).mono ?_
      rintro e w' ⟨x, rfl, ho, hB⟩
      rw [hok]
      exact ⟨x, rfl, ho hok, hB⟩)
    have HPB := Lib.hid (fun a b => patF_bd (k := k) h20 hok a b)
    have HVF := Lib.hid (fun k s (hk : k < gs.length) (hs : s < 24) => (vis_fir (fun q => decide (q = (p.size : Int))) hrow hlen h1 h24 hfit (k + 1) k s (by omega) hk hs).1)
    have HFB := Lib.hid (fun k s c (hk : k < gs.length) (hs : s < 24) => fnd_bd (fun q => decide (q = (p.size : Int))) hrow hlen h1 h24 hfit gs.length k s c (by omega) hk hs)
    have HMP := Lib.hid (fun k t (hk : k < gs.length) (ht : t < 24) => (show 0 ≤ at2 (mapsK (patNx p.data.toList) gs gs.length) k t ∧ at2 (mapsK (patNx p.data.toList) gs gs.length) k t < (p.data.toList.length : Int) + 1 from by
      have hma := mapsK_ok hrow hlen h1 h24 hfit gs.length (Nat.le_refl _) k hk
      unfold at2
      rw [List.getD_eq_getElem?_getD (i := t), List.getElem?_eq_getElem (by rw [hma.1]; omega), Option.getD_some]
      exact hma.2 _ (List.getElem_mem (show t < ((mapsK (patNx p.data.toList) gs gs.length).getD k []).length by rw [hma.1]; omega))))
    have HMR := Lib.hid (fun k (hk : k < gs.length) => (mapsK_ok hrow hlen h1 h24 hfit gs.length (Nat.le_refl _) k hk).1)
    have HFIT := Lib.hid hfit
    have HSM := Lib.hid (fun j (hj : j < gs.length) => small_at (gOk_iff.1 hok).2.2 j hj)
    have HUN : Hid ((patNx p.data.toList).length = p.size + 1) := Lib.hid (by omega)
    have HPL : Hid (p.data.toList.length = p.size) := Lib.hid hl
    have HH20 := Lib.hid h20
    have HRCS := Lib.hid (fun k (hk : k < gs.length) => rule_cases hfit hk)
    obtain ⟨ans, hans⟩ : ∃ ans : Int × Int, ans = (if k < 0 then (0, 2) else if allV (patV p gs) gs 0 ≤ k then (0, 6) else (patF p gs k - p.size, 0)) := ⟨_, rfl⟩
    rw [← hans]
    have HAN := Lib.hid hans
    obtain ⟨NX, hNX⟩ : ∃ NX, NX = patNx p.data.toList := ⟨_, rfl⟩
    rw [← hNX] at HMA HTA HVF HFB HMP HMR HUN
    have HNX := Lib.hid hNX
    obtain ⟨wa, hwa⟩ : ∃ wa : Int → Bool, wa = fun q => decide (q = (p.size : Int)) := ⟨_, rfl⟩
    rw [← hwa] at HTA HVF HFB
    have HWA := Lib.hid hwa
    clear hans hok ho haok h1 h24 hrow hlen hnl hc hl hp0 hfit hNX hwa
    subst h0
    go_enter Try.func25, Try.ntmps25
    go_wp2_with fail
    refine HA.out.mono ?_
    rintro e w3 ⟨rfl, hB3⟩
    have HB3 := Lib.hid (HB.out.trans (hB3.mono HB.out.size))
    have HG3 := Lib.hid (HG.out.kept hB3)
    have hg3 := (hB3.cell (lt_of_cell HGC.out)).trans HGC.out
    have HGC3 := Lib.hid hg3
    clear hB3
    by_cases hk0 : k < 0
    · have HE : Hid (ans = (0, 2)) := Lib.hid (by rw [HAN.out, if_pos hk0])
      have hd : decide (k < 0) = true := decide_eq_true hk0
      clear hk0
      go_wp2_with fail
      go_ret2
      exact ⟨by rw [HE.out]; rfl, HB3.out⟩
    · have hd : decide (k < 0) = false := decide_eq_false hk0
      have HK0 := Lib.hid hk0
      by_cases hg0 : gs.length = 0
      · have HE : Hid (ans = (0, 6)) := Lib.hid (by rw [HAN.out, if_neg hk0, if_pos (by unfold allV; rw [if_pos hg0]; omega)])
        rw [hg0] at hg3
        clear hk0
        go_wp2_with fail
        go_ret2
        exact ⟨by rw [HE.out]; rfl, HB3.out⟩
      · obtain ⟨m, hm⟩ : ∃ m, gs.length = m + 1 := ⟨gs.length - 1, by omega⟩
        have hz0 : ((gs.length : Int) == 0) = false := beq_eq_false_iff_ne.2 (by omega)
        have HM1 := Lib.hid hm
        have hmlt : m < gs.length := by omega
        have hsub : IntKind.i64.wrap ((gs.length : Int) - 1) = (m : Int) := by rw [IntKind.wrap_i64]; omega
        have hg1 : gs.length - 1 = m := by omega
        have HG1 := Lib.hid hg1
        clear hg0 hm hg1 hk0
        go_wp2_with fail
        refine (HP.out _).mono ?_
        rintro e w5 ⟨f, n, U, rfl, hA, hB5⟩
        have HB5 := Lib.hid (HB3.out.trans (hB5.mono HB3.out.size))
        have HG5 := Lib.hid (HG3.out.kept hB5)
        have HGC5 := Lib.hid ((hB5.cell (lt_of_cell HGC3.out)).trans HGC3.out)
        have hLL := hA.nx.isLL
        have hul := hA.nx.len
        rw [show (patA p.data.toList).nx = NX from HNX.out.symm] at hLL hul
        obtain ⟨Af, cf, rfl⟩ := own_slice hA.fin
        obtain ⟨An, cn, rfl⟩ := own_slice hA.nx.outer
        rw [HUN.out] at hul
        rw [hul] at hLL
        rw [hul]
        have HLL := Lib.hid hLL
        obtain ⟨ST, hST⟩ : ∃ ST, ST = (patA p.data.toList).st := ⟨_, rfl⟩
        obtain ⟨GO, hGO⟩ : ∃ GO, GO = (patA p.data.toList).go := ⟨_, rfl⟩
        obtain ⟨FL, hFL⟩ : ∃ FL, FL = (patA p.data.toList).fin.length := ⟨_, rfl⟩
        rw [← hST, ← hGO, ← hFL]
        have hb6 := (Below.refl _ w5).alloc (Nat.le_refl _) (.cells #[.int .i64 ST, .int .i64 GO, .slice Af FL cf, .slice An (p.size + 1) cn] 33)
        have HB6 := Lib.hid (HB5.out.trans (hb6.mono HB5.out.size))
        have HG6 := Lib.hid (HG5.out.kept hb6)
        have HGC6 := Lib.hid ((hb6.cell (lt_of_cell HGC5.out)).trans HGC5.out)
        have HL6 := Lib.hid (HLL.out.kept hb6)
        have HAB : Hid (B4 (w5.alloc (.cells #[.int .i64 ST, .int .i64 GO, .slice Af FL cf, .slice An (p.size + 1) cn] 33)) w5.heap.size _ _ _ _ _) := Lib.hid (B4.new w5 (.int .i64 ST) (.int .i64 GO) (.slice Af FL cf) (.slice An (p.size + 1) cn) 33)
        clear hA hB5 hb6 hST hGO hFL hul hLL hg3
        go_upto_region 9 with fail
        obtain ⟨Ab, hAb⟩ : ∃ Ab, Ab = w5.heap.size := ⟨_, rfl⟩
        rw [← hAb] at HAB ⊢
        generalize w5.alloc (.cells #[.int .i64 ST, .int .i64 GO, .slice Af FL cf, .slice An (p.size + 1) cn] 33) = w6 at *
        clear hAb
        obtain ⟨⟨p0, p1, p2, p3⟩, _⟩ := blk4_cells HAB.out
        go_wp2_with fail
        refine (HMA.out _ _ HL6.out HG6.out).mono ?_
        rintro e w7 ⟨ym, Um, rfl, hmm, hB7⟩
        have HB7 := Lib.hid (HB6.out.trans (hB7.mono HB6.out.size))
        have HG7 := Lib.hid (HG6.out.kept hB7)
        have HGC7 := Lib.hid ((hB7.cell (lt_of_cell HGC6.out)).trans HGC6.out)
        have HL7 := Lib.hid (HL6.out.kept hB7)
        have HAB7 := Lib.hid (HAB.out.kept hB7)
        have HM7 := Lib.hid hmm.isLL
        obtain ⟨Am, cm, hym⟩ := own_slice hmm.outer
        rw [hmm.len, mapsN_len] at hym
        subst hym
        clear hB7 hmm p0 p1 p2 p3
        obtain ⟨⟨p0, p1, p2, p3⟩, _⟩ := blk4_cells HAB7.out
        go_wp2_with fail
        refine (HTA.out _ _ _ HL7.out HG7.out HM7.out).mono ?_
        rintro e w8 ⟨yt, rfl, hyt, hB8⟩
        have HB8 := Lib.hid (HB7.out.trans (hB8.mono HB7.out.size))
        have HG8 := Lib.hid (HG7.out.kept hB8)
        have HGC8 := Lib.hid ((hB8.cell (lt_of_cell HGC7.out)).trans HGC7.out)
        have HM8 := Lib.hid (HM7.out.kept hB8)
        have HY8 := Lib.hid hyt
        obtain ⟨At, ct, rfl, _⟩ := hyt
        rw [visN_len]
        rw [visN_len] at HY8
        clear hB8 p0 p1 p2 p3
        go_wp2_with fail
        refine (HLS.out _ HG8.out).mono ?_
        rintro e w9 ⟨lv, rfl, hlv, hB9⟩
        have HB9 := Lib.hid (HB8.out.trans (hB9.mono HB8.out.size))
        have HGC9 := Lib.hid ((hB9.cell (lt_of_cell HGC8.out)).trans HGC8.out)
        have HM9 := Lib.hid (HM8.out.kept hB9)
        have HY9 := Lib.hid (HY8.out.kept hB9)
        have HL9 := Lib.hid (IsL.of_own hlv)
        have HR9 := Lib.hid (HRU.out w9 HB9.out)
        obtain ⟨Al, cl, rfl⟩ := own_slice hlv
        rw [lens_len]
        rw [lens_len] at HL9
        clear hB9 hlv
        have gc9 := HGC9.out
        have hN0 : 0 < NX.length := by have := HUN.out; omega
        obtain ⟨o1, o2, o3, o4⟩ := visN_get (wa := wa) (nx := NX) (gs := gs) (N := NX.length) (k := gs.length) (j := m) (s := 0) (by omega) hN0 (by have := HUN.out; have := HH20.out; omega)
        obtain ⟨ay, xa, cy1, cy2, hvy, e0, e1⟩ := ll_get HY9.out o1 o2
        rw [o3] at e0
        rw [o4] at e1
        injection hvy with hvy hx1 hx2
        subst hvy
        clear hx1 hx2 o1 o2 o3 o4
        have m0 : (0 : Int) ≤ (m : Int) := by omega
        have m1 : (m : Int) < (gs.length : Int) := by omega
        have n0 : (0 : Int) < (NX.length : Int) := by omega
        have hav : allV (patV p gs) gs 0 = at2 (visK wa NX gs gs.length) m 0 := by
          unfold allV patV
          rw [if_neg (by omega), ← HNX.out, ← HWA.out, HG1.out]
          rfl
        have HAV := Lib.hid hav
        rw [show xa.add 0 = xa from by cases xa; simp [Addr.add]] at e1
        by_cases hka : at2 (visK wa NX gs gs.length) m 0 ≤ k
        · have HE : Hid (ans = (0, 6)) := Lib.hid (by rw [HAN.out, if_neg (by have := HK0.out; omega), if_pos (by rw [hav]; exact hka)])
          have hd2 : decide (at2 (visK wa NX gs gs.length) m 0 ≤ k) = true := decide_eq_true hka
          generalize at2 (visK wa NX gs gs.length) m 0 = V at *
          clear hka hav
          go_wp2_with fail
          go_ret2
          exact ⟨by rw [HE.out]; rfl, HB9.out⟩
        · have hd2 : decide (at2 (visK wa NX gs gs.length) m 0 ≤ k) = false := decide_eq_false hka
          obtain ⟨_, hf1, hf2⟩ := HPB.out (by have := HK0.out; omega) (by rw [hav]; omega)
          have HE : Hid (ans = (patF p gs k - p.size, 0)) := Lib.hid (by rw [HAN.out, if_neg (by have := HK0.out; omega), if_neg (by rw [hav]; exact hka)])
          have hTT : patF p gs k = fndF wa NX gs gs.length m 0 k := by
            unfold patF
            rw [← HNX.out, ← HWA.out, HG1.out]
          obtain ⟨T, hT⟩ : ∃ T, T = patF p gs k := ⟨_, rfl⟩
          rw [← hT] at HE hf1 hf2 hTT
          have HTB := Lib.hid (And.intro hf1 hf2)
          have HST : Hid (PaRel wa NX gs NX.length T w9 (.int .i64 k) (.int .i64 (m : Int)) (.int .i64 0) (.int .i64 0) w9) := Lib.hid ⟨m, 0, k, 0, rfl, rfl, rfl, rfl, hmlt, hN0, by have := HK0.out; omega, by omega, Int.le_refl _, by rw [hTT]; omega, Below.refl _ _⟩
          have HNL : Hid (NX.length ≤ 21) := Lib.hid (by have := HUN.out; have := HH20.out; omega)
          generalize at2 (visK wa NX gs gs.length) m 0 = V at *
          clear hka hav hf1 hf2 hT hTT hd hmlt
          go_wp2_with fail
          clear e0 e1 gc9 hd2
          go_loopw [2, 14, 15, 16] (fun kv rv sv ev wr => PaRel wa NX gs NX.length T w9 kv rv sv ev wr) (fun _ rv _ _ _ => (intOf rv).toNat)
          case atStart => exact HST.out
          case round =>
            obtain ⟨r, s, c, e, rfl, rfl, rfl, rfl, hrg, hsN, hc0, hcv, he0, heT, hB⟩ := hrel
            obtain ⟨wu, rfl⟩ : ∃ wu : World, wu = wr := ⟨_, rfl⟩
            have hs24 : s < 24 := by have := HNL.out; omega
            have hR := HR9.out.kept hB
            obtain ⟨Ag', cg', hva, hra⟩ := hR
            injection hva with hva hvb hvc
            subst hva hvc
            clear hvb
            rcases hra with hz | ⟨g, hgA, hgl, hgc⟩
            · rw [hz] at hrg; simp at hrg
            subst hgA
            obtain ⟨a0, a1, a2⟩ := rules_cells hgc hrg
            have gcu := (hB.cell (lt_of_cell HGC9.out)).trans HGC9.out
            have r0 : (0 : Int) ≤ (r : Int) := by omega
            have r1 : (r : Int) < (gs.length : Int) := by omega
            have s0 : (0 : Int) ≤ (s : Int) := by omega
            have s1 : (s : Int) < (NX.length : Int) := by omega
            have HBU := Lib.hid hB
            have hfb := (HFB.out r s c hrg hs24)
            rcases HRCS.out r hrg with hz | ⟨hz, a, b, ha, hb, hak, hbk⟩
            · rw [fnd_letter_at wa NX hrg hz] at heT
              have hne := full_list hz
              have HTE : Hid (T = e + 1) := Lib.hid heT.symm
              have htb := HTB.out
              have hw1 : IntKind.i64.wrap (e + 1) = e + 1 := by rw [IntKind.wrap_i64]; omega
              have hw2 : IntKind.i64.wrap (e + 1 - (p.size : Int)) = e + 1 - (p.size : Int) := by have := HH20.out; rw [IntKind.wrap_i64]; omega
              generalize gs[r] = x at *
              obtain ⟨RL, rl, rr⟩ := x
              simp only at a0 a1 a2 hne
              clear hfb heT hgc hz hcv hB htb
              go_wp2_with fail
              go_ret2
              exact ⟨by rw [HE.out, HTE.out]; rfl, HB9.out.trans (HBU.out.mono HB9.out.size)⟩
            · have hsplit := fnd_pair_at wa NX HFIT.out hrg hz ha hb hak hbk (s := s) (c := c) (hs := hs24)
              rw [hsplit] at heT
              have hvp := vis_pair wa NX hrg hz ha hb hak hbk hs24
              have hqm := HMP.out a s (by omega) hs24
              obtain ⟨q, hq⟩ : ∃ q : Nat, at2 (mapsK NX gs gs.length) a s = q := ⟨(at2 (mapsK NX gs gs.length) a s).toNat, by omega⟩
              rw [hq, Int.toNat_natCast] at heT hvp
              have hqN : q < NX.length := by have := HUN.out; have := HPL.out; omega
              have va := HVF.out a s (by omega) hs24
              have vb := HVF.out b q (by omega) (by have := HNL.out; omega)
              have la := HSM.out a (by omega)
              have lp := lens_pos (gs := gs) (k := a) (by omega) (fun j hj _ => fits_at HFIT.out j hj)
              have hfa := HFB.out b q (c - at2 (visK wa NX gs gs.length) a s) (by omega) (by have := HNL.out; omega)
              have htb := HTB.out
              have hemp := empty_arr hz
              rw [hemp] at a0
              rw [ha] at a1
              rw [hb] at a2
              have hbk7 := (Below.refl _ wu).alloc (Nat.le_refl _) (.cells #[.string ⟨#[]⟩, .int .i64 (a : Int), .int .i64 (b : Int)] 127)
              have hK7 := heap_alloc_new wu (.cells #[.string ⟨#[]⟩, .int .i64 (a : Int), .int .i64 (b : Int)] 127)
              have HB7u := Lib.hid (hB.trans (hbk7.mono hB.size))
              have HK7 := Lib.hid hK7
              have hB' : Below w9.heap.size w9 (wu.alloc (.cells #[.string ⟨#[]⟩, .int .i64 (a : Int), .int .i64 (b : Int)] 127)) := hB.trans (hbk7.mono hB.size)
              obtain ⟨o1, o2, o3, o4⟩ := visN_get (wa := wa) (nx := NX) (gs := gs) (N := NX.length) (k := gs.length) (j := a) (s := s) (by omega) hsN (by have := HNL.out; omega)
              obtain ⟨ay', xa', cy3, cy4, hvy, e0, e1⟩ := ll_get (HY9.out.kept hB') o1 o2
              rw [o3] at e0
              rw [o4] at e1
              injection hvy with hvy hx1 hx2
              injection hvy with hvy
              subst hvy
              clear hx1 hx2 o1 o2 o3 o4
              obtain ⟨m1, m2, m3, m4⟩ := mapsN_at (nx := NX) (gs := gs) (N := NX.length) (k := gs.length) (j := a) (s := s) (by omega) hsN (HMR.out a (by omega)) (by have := HNL.out; omega)
              obtain ⟨am, xm, cm1, cm2, hvm, g0, g1⟩ := ll_get (HM9.out.kept hB') m1 m2
              rw [m3] at g0
              rw [m4, hq] at g1
              injection hvm with hvm hx1 hx2
              subst hvm
              clear hx1 hx2 m1 m2 m3 m4
              obtain ⟨Al2, cl2, hvl, hl0 | ⟨xl, hAl, hlc⟩⟩ := (HL9.out.kept hB')
              · have := lens_len gs; rw [hl0] at this; simp at this; omega
              have l0 := hlc a (by rw [lens_len]; omega)
              have hle : (lens gs)[a]'(by rw [lens_len]; omega) = (lens gs).getD a 0 := by rw [List.getD_eq_getElem?_getD, List.getElem?_eq_getElem (by rw [lens_len]; omega)]; rfl
              rw [hle] at l0
              injection hvl with hvl hx1 hx2
              clear hx1 hx2
              rw [hAl] at hvl
              subst hvl
              have a0' : (0 : Int) ≤ (a : Int) := by omega
              have a1' : (a : Int) < (gs.length : Int) := by omega
              have q0' : (0 : Int) ≤ (q : Int) := by omega
              have q1' : (q : Int) < (NX.length : Int) := by omega
              have gs7 := (hB'.cell (lt_of_cell HGC9.out)).trans HGC9.out
              by_cases hlt : c < at2 (visK wa NX gs gs.length) a s
              · rw [if_pos hlt] at heT
                have hd3 : decide (c < at2 (visK wa NX gs gs.length) a s) = true := decide_eq_true hlt
                have HNX7 : Hid (PaRel wa NX gs NX.length T w9 (.int .i64 c) (.int .i64 (a : Int)) (.int .i64 (s : Int)) (.int .i64 e) (wu.alloc (.cells #[.string ⟨#[]⟩, .int .i64 (a : Int), .int .i64 (b : Int)] 127))) := Lib.hid ⟨a, s, c, e, rfl, rfl, rfl, rfl, by omega, hsN, hc0, hlt, he0, heT, hB'⟩
                obtain ⟨kc0, kc1, kc2⟩ := rule3_cells hK7
                generalize gs[r] = x at *
                obtain ⟨RL, rl, rr⟩ := x
                clear hfb heT hgc hz hcv hB hB' hbk7 hK7 hsplit hvp hqm hq va vb la lp hfa htb hemp ha hb hlc hle hAl g0 g1 l0 hlt
                generalize at2 (visK wa NX gs gs.length) a s = Va at *
                go_upto_region 19 with fail
                obtain ⟨Kp, hKp⟩ : ∃ Kp, Kp = wu.heap.size := ⟨_, rfl⟩
                rw [← hKp] at kc0 kc1 kc2 ⊢
                generalize wu.alloc (.cells #[.string ⟨#[]⟩, .int .i64 (a : Int), .int .i64 (b : Int)] 127) = w7 at *
                clear hKp a0 a1 a2 gcu
                go_wp2_with fail
                go_roundw
                all_goals first | exact HNX7.out | ((repeat apply Exists.intro); exact ⟨HNX7.out, rfl⟩) | (simp [intOf]; done) | (simp [intOf]; omega) | omega
              · rw [if_neg hlt] at heT
                have hd3 : decide (c < at2 (visK wa NX gs gs.length) a s) = false := decide_eq_false hlt
                have hfa1 := hfa.2 (by omega) (by omega)
                have hw1 : IntKind.i64.wrap (c - at2 (visK wa NX gs gs.length) a s) = c - at2 (visK wa NX gs gs.length) a s := by
                  have := hfb.1
                  have := HSM.out r hrg
                  rw [IntKind.wrap_i64]; omega
                have hw2 : IntKind.i64.wrap (e + (lens gs).getD a 0) = e + (lens gs).getD a 0 := by rw [IntKind.wrap_i64]; omega
                have HNX7 : Hid (PaRel wa NX gs NX.length T w9 (.int .i64 (c - at2 (visK wa NX gs gs.length) a s)) (.int .i64 (b : Int)) (.int .i64 (q : Int)) (.int .i64 (e + (lens gs).getD a 0)) (wu.alloc (.cells #[.string ⟨#[]⟩, .int .i64 (a : Int), .int .i64 (b : Int)] 127))) := Lib.hid ⟨b, q, _, _, rfl, rfl, rfl, rfl, by omega, hqN, by omega, by omega, by omega, by omega, hB'⟩
                obtain ⟨kc0, kc1, kc2⟩ := rule3_cells hK7
                generalize gs[r] = x at *
                obtain ⟨RL, rl, rr⟩ := x
                clear hfb heT hgc hz hcv hB hB' hbk7 hK7 hsplit hvp hqm hq va vb la lp hfa hfa1 htb hemp ha hb hlc hle hAl hlt
                generalize at2 (visK wa NX gs gs.length) a s = Va at *
                generalize (lens gs).getD a 0 = La at *
                go_upto_region 19 with fail
                obtain ⟨Kp, hKp⟩ : ∃ Kp, Kp = wu.heap.size := ⟨_, rfl⟩
                rw [← hKp] at kc0 kc1 kc2 ⊢
                generalize wu.alloc (.cells #[.string ⟨#[]⟩, .int .i64 (a : Int), .int .i64 (b : Int)] 127) = w7 at *
                clear hKp a0 a1 a2 gcu
                go_wp2_with fail
                go_roundw
                all_goals first | exact HNX7.out | ((repeat apply Exists.intro); exact ⟨HNX7.out, rfl⟩) | (simp [intOf]; done) | (simp [intOf]; omega) | omega
  · rw [if_neg h0]
    have hd : (c == 0) = false := by simp [h0]
    have hd2 : (c != 0) = true := by simp [h0]
    clear hc
    go_enter Try.func25, Try.ntmps25
    go_wp2_with fail
    refine HA.out.mono ?_
    rintro e w3 ⟨rfl, hB3⟩
    have HB3 := Lib.hid (HB.out.trans (hB3.mono HB.out.size))
    clear hB3
    go_wp2_with fail
    go_ret2
    exact ⟨rfl, HB3.out⟩
end Go.Proofs.Ytaffachjopjbgaa
