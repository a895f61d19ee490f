/-
  Walk: spec.l04First.
-/
import Derived.Test.YtaffachjopjbgaaFvM
import Derived.Test.YtaffachjopjbgaaMapsS
import Derived.Test.YtaffachjopjbgaaGramOk
namespace Go.Proofs.Ytaffachjopjbgaa
open Go.RowKit
open Wd
set_option linter.unusedVariables false
/-- the first visits of all rules, as wide as there are states -/
def firN (wa : Int → Bool) (nx : List (List Int)) (gs : List Rl) (N k : Nat) : List (List Int) := (firK wa nx gs k).map (·.take N)
theorem firN_len (wa : Int → Bool) (nx : List (List Int)) (gs : List Rl) (N k : Nat) : (firN wa nx gs N k).length = k := by unfold firN; rw [List.length_map, firK_len]
theorem firR_len (wa : Int → Bool) (ln : List Int) (ms vs : List (List Int)) (x : Rl) (m : List Int) : (firR wa ln ms vs x m).length = 24 := by simp [firR]
theorem firK_row (wa : Int → Bool) (nx : List (List Int)) (gs : List Rl) : ∀ k j, j < k → ((firK wa nx gs k).getD j []).length = 24
  | 0, j, h => by omega
  | k + 1, j, h => by
    by_cases e : j = k
    · rw [firK, getD_snoc_eq _ _ _ _ (by rw [firK_len]; exact e), firR_len]
    · rw [firK, getD_snoc_lt _ _ _ _ (by rw [firK_len]; omega)]
      exact firK_row wa nx gs k j (by omega)
theorem firN_get {wa : Int → Bool} {nx : List (List Int)} {gs : List Rl} {N k j s : Nat} (h : j < k) (hs : s < N) (hN : N ≤ 24) : ∃ h1 : j < (firN wa nx gs N k).length, ∃ h2 : s < (firN wa nx gs N k)[j].length, (firN wa nx gs N k)[j].length = N ∧ (firN wa nx gs N k)[j][s] = at2 (firK wa nx gs k) j s := by
  have hj : j < (firK wa nx gs k).length := by rw [firK_len]; exact h
  have hr := firK_row wa nx gs k j h
  have he : (firK wa nx gs k).getD j [] = (firK wa nx gs k)[j] := by rw [List.getD_eq_getElem?_getD, List.getElem?_eq_getElem hj]; rfl
  rw [he] at hr
  have hl : ((firK wa nx gs k)[j].take N).length = N := by rw [List.length_take, hr]; omega
  refine ⟨by rw [firN_len]; exact h, by unfold firN; rw [List.getElem_map, hl]; exact hs, by unfold firN; rw [List.getElem_map, hl], ?_⟩
  unfold at2
  rw [he, List.getD_eq_getElem?_getD, List.getElem?_eq_getElem (by omega), Option.getD_some]
  simp only [firN, List.getElem_map, List.getElem_take]
theorem mapsN_at {nx : List (List Int)} {gs : List Rl} {N k j s : Nat} (h : j < k) (hs : s < N) (hr : ((mapsK nx gs k).getD j []).length = 24) (hN : N ≤ 24) : ∃ h1 : j < (mapsN nx gs N k).length, ∃ h2 : s < (mapsN nx gs N k)[j].length, (mapsN nx gs N k)[j].length = N ∧ (mapsN nx gs N k)[j][s] = at2 (mapsK nx gs k) j s := by
  have hj : j < (mapsK nx gs k).length := by rw [mapsK_len]; exact h
  have he : (mapsK nx gs k).getD j [] = (mapsK nx gs k)[j] := by rw [List.getD_eq_getElem?_getD, List.getElem?_eq_getElem hj]; rfl
  rw [he] at hr
  have hl : ((mapsK nx gs k)[j].take N).length = N := by rw [List.length_take, hr]; omega
  refine ⟨by rw [mapsN_len]; exact h, by unfold mapsN; rw [List.getElem_map, hl]; exact hs, by unfold mapsN; rw [List.getElem_map, hl], ?_⟩
  unfold at2
  rw [he, List.getD_eq_getElem?_getD, List.getElem?_eq_getElem (by omega), Option.getD_some]
  simp only [mapsN, List.getElem_map, List.getElem_take]
/-- the cells of a table's entry -/
theorem ll_get {w : World} {v : Value} {Z : List (List Int)} (h : IsLL w v Z) {j s : Nat} (hj : j < Z.length) (hs : s < Z[j].length) : ∃ a x c c2, v = .slice (some a) Z.length c ∧ w.cell? (a.add j) = some (.slice (some x) Z[j].length c2) ∧ w.cell? (x.add s) = some (.int .i64 Z[j][s]) := by
  obtain ⟨A, c, rfl, h0 | ⟨a, rfl, hc⟩⟩ := h
  · rw [h0] at hj; simp at hj
  · obtain ⟨u, h1, h2⟩ := hc j hj
    obtain ⟨A2, c2, rfl, h0 | ⟨x, rfl, hx⟩⟩ := h2
    · rw [h0] at hs; simp at hs
    · exact ⟨a, x, c, c2, rfl, h1, hx s hs⟩
/-- between two states of a rule: besides, the copy of the rule -/
def FvIn (w : World) (y : Value) (U : List Value) (Z : List (List Int)) (B : Nat) (row : List Int) (Kp : Nat) (x : Rl) (s : Nat) (tv : Value) (wr : World) : Prop :=
  InS w y U Z B row s tv wr ∧ wr.heap[Kp]? = some (.cells #[.string x.L, .int .i64 x.l, .int .i64 x.r] 127 (0, 0))
theorem FvIn.drewN {w wr : World} {y tv : Value} {U : List Value} {Z : List (List Int)} {B Kp s : Nat} {row : List Int} {x : Rl} (h : FvIn w y U Z B row Kp x s tv wr) (m : Nat) : FvIn w y U Z B row Kp x s tv (wr.drewN m) :=
  ⟨h.1.kept (below_drewN (Below.refl _ _) m), h.2⟩
theorem FvIn.append {w wr w5 : World} {y tv tv' : Value} {U : List Value} {Z : List (List Int)} {B Kp s : Nat} {row : List Int} {x : Rl} {o : Obj} {z : Int} (h : FvIn w y U Z B row Kp x s tv wr) (hwB : w.heap.size ≤ B)
    (hU : ∀ u ∈ U, ∀ q, u.ownBlock = some q → q < B) (hy : ∀ q, y.ownBlock = some q → q < B) (hs : s < row.length) (hK : B = Kp + 1) (hz : row[s] = z)
    (hown : w5.ownsRow B 2 1 tv' (s + 1) (iv (row.take s) ++ [.int .i64 z])) (hg : (wr.alloc o).grownBy w5 tv.ownBlock) : FvIn w y U Z B row Kp x (s + 1) tv' w5 := by
  subst hz
  have hlt : Kp < wr.heap.size := by have := h.1.2.2.2; omega
  refine ⟨InS.append h.1 hwB hU hy hs hown hg, ?_⟩
  rw [hg.block Kp (by simp; omega) (fun e => by have := (h.1.2.1.lt Kp e.symm).1; omega), ((Below.refl _ wr).alloc (Nat.le_refl _) o).block Kp hlt]
  exact h.2
theorem rule3_cells {w : World} {R : Nat} {t : TypeId} {a b c : Value} (h : w.heap[R]? = some (.cells #[a, b, c] t (0, 0))) :
    w.cell? ⟨R, 0, none⟩ = some a ∧ w.cell? ⟨R, 1, none⟩ = some b ∧ w.cell? ⟨R, 2, none⟩ = some c := by
  have key : ∀ o, w.cell? ⟨R, o, none⟩ = (#[a, b, c] : Array Value)[o]? := fun o => by simp [World.cell?, h]
  exact ⟨by rw [key]; rfl, by rw [key]; rfl, by rw [key]; rfl⟩
set_option maxRecDepth 100000 in
set_option maxHeartbeats 12800000 in
theorem l04First_any (nv : Value) (nx : List (List Int)) (st t : Int) (pg lo : Nat) (lv : Value) (gs : List Rl) (w : World) (h1 : 1 ≤ st) (h24 : st ≤ 24) (hrow : nx.all (rowOk st) = true) (hlen : (nx.length : Int) = st) (hN : IsLL w nv nx) (hok : gOk gs = true) (hg : GP w pg gs) (hl : OwnsI w lo lv (lens gs)) :
    Calls Try.prog 82 #[nv, .pointer (some ⟨pg, 0, none⟩), lv, .int .i64 t] w fun e w' => ∃ y, e = .returned y ∧ IsLL w' y (firN (fun q => decide (q = t)) nx gs nx.length gs.length) ∧ Below w.heap.size w w' := by
  obtain ⟨i0, hi, hz0, hz1, hz2⟩ := info_parts Try.info_ints
  obtain ⟨j0, hj, hy0, hy1, hy2⟩ := info_parts Try.info_int64
  have hfit := (gOk_iff.1 hok).2.1
  have hn := gOk_len hok
  have HMA := Lib.hid (l04Maps_any nv nx st pg gs w h1 h24 hrow hlen hN hfit hn hg)
  have HGP := Lib.hid hg
  have HLV := Lib.hid (IsL.of_own hl)
  have HSM := Lib.hid (fun j (hj : j < gs.length) => small_at (gOk_iff.1 hok).2.2 j hj)
  obtain ⟨gv, hgv, Av, cv, rfl, hrc⟩ := hg
  obtain ⟨A, c, rfl, _⟩ := hN
  obtain ⟨Al, cl, rfl⟩ := own_slice hl
  have HRC := Lib.hid hrc
  have HGV := Lib.hid hgv
  have HROW := Lib.hid hrow
  have HLEN := Lib.hid hlen
  have HFIT := Lib.hid hfit
  obtain ⟨N, hNe⟩ : ∃ N, N = nx.length := ⟨_, rfl⟩
  obtain ⟨n, hne⟩ : ∃ n, n = gs.length := ⟨_, rfl⟩
  have hNst : (N : Int) = st := by omega
  have hN24 : N ≤ 24 := by omega
  rw [← hNe, ← hne] at HMA ⊢
  rw [← hne] at hn hgv
  rw [lens_len, ← hne] at HLV ⊢
  have HN := Lib.hid hNe
  have HNE := Lib.hid hne
  have HNST := Lib.hid hNst
  obtain ⟨wa, hwa⟩ : ∃ wa : Int → Bool, wa = fun q => decide (q = t) := ⟨_, rfl⟩
  rw [← hwa]
  have HWA := Lib.hid hwa
  clear hrc hrow hlen hfit hNe hne hNst hok hl hwa
  go_enter Try.func82, Try.ntmps82
  go_wp2_with fail
  refine HMA.out.mono ?_
  rintro e w1 ⟨ym, Um, rfl, hm1, hB1⟩
  have HB1 := Lib.hid hB1
  have HM1 := Lib.hid hm1.isLL
  have HGV1 := Lib.hid ((hB1.cell (lt_of_cell hgv)).trans hgv)
  obtain ⟨Am, cm, hym⟩ := own_slice hm1.outer
  rw [hm1.len, mapsN_len] at hym
  subst hym
  have HS := Lib.hid (MSt.start w1 _ rfl)
  clear hB1 hm1 HMA
  go_wp2_with fail
  go_loopw [10, 11] (fun y i wr => ∃ k : Nat, k ≤ n ∧ i = .int .i64 k ∧ MSt w1 (firN wa nx gs N k) y wr) (fun _ i _ => n - (intOf i).toNat)
  case atStart => exact ⟨0, Nat.zero_le _, rfl, HS.out⟩
  case round =>
    obtain ⟨k, hk, rfl, hst⟩ := hrel
    obtain ⟨wo, rfl⟩ : ∃ wo : World, wo = wr := ⟨_, rfl⟩
    obtain ⟨U, hm, hB⟩ := hst
    have HM := Lib.hid (And.intro hm hB)
    have hlenU := hm.len
    rw [firN_len] at hlenU
    obtain ⟨Ay, cy, hAy⟩ := own_slice hm.outer
    rw [hlenU] at hAy
    subst hAy
    have HLU := Lib.hid hlenU
    have hgo := (hB.cell (lt_of_cell HGV1.out)).trans HGV1.out
    clear hgv hlenU
    by_cases hkn : k < n
    · have hkg : k < gs.length := by rw [← HNE.out]; exact hkn
      rcases HRC.out with hn0 | ⟨g, rfl, hg, hc⟩
      · rw [hn0] at hkg; simp at hkg
      obtain ⟨a0, a1, a2⟩ := rules_cells hc hkg
      have hBw := HB1.out.trans (hB.mono HB1.out.size)
      rw [← hBw.cell (p := ⟨g, k * 3, none⟩) hg] at a0
      rw [← hBw.cell (p := ⟨g, k * 3 + 1, none⟩) hg] at a1
      rw [← hBw.cell (p := ⟨g, k * 3 + 2, none⟩) hg] at a2
      obtain ⟨row, hrw⟩ : ∃ row, row = firR wa (lens gs) (mapsK nx gs k) (firK wa nx gs k) gs[k] ((mapsK nx gs (k + 1)).getD k []) := ⟨_, rfl⟩
      have hnx : firN wa nx gs N (k + 1) = firN wa nx gs N k ++ [row.take N] := by
        unfold firN
        rw [firK, List.map_append, List.getD_eq_getElem?_getD (l := gs), List.getElem?_eq_getElem hkg, hrw]
        rfl
      have hr24 : row.length = 24 := by rw [hrw, firR_len]
      have hrow : ∀ q (hq : q < 24), row[q]'(by omega) = at2 (firK wa nx gs (k + 1)) k q := fun q hq => by
        unfold at2
        rw [firK, getD_snoc_eq _ _ _ _ (firK_len wa nx gs k).symm, List.getD_eq_getElem?_getD (l := gs), List.getElem?_eq_getElem hkg, Option.getD_some, ← hrw, List.getD_eq_getElem?_getD, List.getElem?_eq_getElem (by omega)]
        rfl
      have HNX := Lib.hid hnx
      have HROWV := Lib.hid hrow
      generalize hx : gs[k] = x at *
      have hx' : gs[k] = x := hx
      have HXE := Lib.hid hx'
      have hfk := fits_at HFIT.out k hkg
      rw [hx'] at hfk
      have HFK := Lib.hid hfk
      obtain ⟨L, l, r⟩ := x
      simp only at a0 a1 a2
      have hbk := (Below.refl _ wo).alloc (Nat.le_refl _) (.cells #[.string L, .int .i64 l, .int .i64 r] 127)
      have hKn := heap_alloc_new wo (.cells #[.string L, .int .i64 l, .int .i64 r] 127)
      have hB' : (wo.alloc (.cells #[.string L, .int .i64 l, .int .i64 r] 127)).heap.size = wo.heap.size + 1 := by simp
      obtain ⟨wk, hwk⟩ : ∃ wk, wk = wo.alloc (.cells #[.string L, .int .i64 l, .int .i64 r] 127) := ⟨_, rfl⟩
      have HWK := Lib.hid hwk
      rw [← hwk] at hbk hKn hB'
      have HSTB : Hid (FvIn w1 (.slice Ay k cy) U (firN wa nx gs N k) wk.heap.size row wo.heap.size ⟨L, l, r⟩ 0 (.slice (some ⟨wk.heap.size, 0, none⟩) 0 0) (wk.alloc (.cells #[] 2))) := Lib.hid
        ⟨⟨(hm.kept hbk).kept ((Below.refl _ wk).alloc (Nat.le_refl _) _), World.ownsRow_lit (base := wk.heap.size) (e := 2) (size := 1) wk #[] 0 (Nat.le_refl _) (by decide) rfl, (hB.trans (hbk.mono hB.size)).alloc (Nat.le_trans hB.size hbk.size) _, by simp⟩, by
          rw [((Below.refl _ wk).alloc (Nat.le_refl _) (.cells #[] 2)).block wo.heap.size (by omega)]
          exact hKn⟩
      have HUB := Lib.hid (fun (u : Value) hu q (hq : u.ownBlock = some q) => show q < wk.heap.size from by have := (hm.rows.ge u hu q hq).2; omega)
      have HYB := Lib.hid (fun q (hq : (Value.slice Ay k cy).ownBlock = some q) => show q < wk.heap.size from by have := (hm.outer.lt q hq).2; omega)
      have HWB : Hid (w1.heap.size ≤ wk.heap.size) := Lib.hid (Nat.le_trans hB.size hbk.size)
      obtain ⟨B, hBe⟩ : ∃ B, B = wk.heap.size := ⟨_, rfl⟩
      obtain ⟨Kp, hKp⟩ : ∃ Kp, Kp = wo.heap.size := ⟨_, rfl⟩
      rw [← hBe, ← hKp] at HSTB
      rw [← hBe] at HUB HYB HWB hB'
      rw [← hKp] at hB'
      have HKB := Lib.hid hB'
      clear hm hB hbk hKn hc hBw hrow hfk hx hx' hnx hrw
      go_wp2_with fail
      rw [hwk] at HSTB
      rw [← hKp]
      rw [← hB']
      clear hBe hgo a0 a1 a2 hwk hB' hKp
      go_loopw [13, 14] (fun tv i wr => ∃ s : Nat, s ≤ N ∧ i = .int .i64 s ∧ FvIn w1 (.slice Ay k cy) U (firN wa nx gs N k) B row Kp ⟨L, l, r⟩ s tv wr) (fun _ i _ => N - (intOf i).toNat)
      case atStart => exact ⟨0, Nat.zero_le _, rfl, HSTB.out⟩
      case round =>
        obtain ⟨s, hs, rfl, hst⟩ := hrel
        obtain ⟨wu, rfl⟩ : ∃ wu : World, wu = wr := ⟨_, rfl⟩
        obtain ⟨A3, c3, hA3⟩ := own_slice hst.1.2.1
        by_cases hsN : s < N
        · rw [List.length_take, Nat.min_eq_left (by omega)] at hA3
          subst hA3
          have hs24 : s < 24 := by omega
          obtain ⟨kc0, kc1, kc2⟩ := rule3_cells hst.2
          have hBu := hst.1.2.2.1
          have HMu := HM1.out.kept hBu
          have HFu := hst.1.1.isLL
          have HLu := HLV.out.kept (HB1.out.trans (hBu.mono HB1.out.size))
          have hBB : B ≤ wu.heap.size := hst.1.2.2.2
          have HO : Hid (wu.ownsRow B 2 1 (.slice A3 s c3) s (iv (row.take s))) := Lib.hid (by
            have := hst.1.2.1
            unfold OwnsI at this
            rw [List.length_take, Nat.min_eq_left (by omega)] at this
            exact this)
          have HST := Lib.hid hst
          have hzr : row[s]'(by omega) = at2 (firK wa nx gs gs.length) k s := by rw [HROWV.out s hs24, ← firK_at wa nx gs k s gs.length hkg]
          have hmr := (mapsK_ok HROW.out HLEN.out h1 h24 HFIT.out n (by rw [← HNE.out]; omega) k hkn).1
          have k0 : (0 : Int) ≤ (k : Int) := by omega
          have k1 : (k : Int) < (n : Int) := by omega
          have s0 : (0 : Int) ≤ (s : Int) := by omega
          have s1 : (s : Int) < (N : Int) := by omega
          clear hst hBu
          by_cases h0 : L.size = 0
          · have hp := (ok_pair h0).1 HFK.out
            have he := empty_arr h0
            simp only at hp he
            have hxe := HXE.out
            clear h0
            subst he
            obtain ⟨a, rfl⟩ : ∃ a : Nat, l = a := ⟨l.toNat, by omega⟩
            obtain ⟨b, rfl⟩ : ∃ b : Nat, r = b := ⟨r.toNat, by omega⟩
            have ha : a < k := by omega
            have hb : b < k := by omega
            have hfp := fir_pair wa nx hkg (by rw [hxe]; rfl) (show gs[k].l = (a : Int) by rw [hxe]) (show gs[k].r = (b : Int) by rw [hxe]) ha hb hs24
            rw [hfp] at hzr
            have hma := (mapsK_ok HROW.out HLEN.out h1 h24 HFIT.out gs.length (Nat.le_refl _) a (by omega))
            have hqb := map_lt HROW.out HLEN.out h1 h24 HFIT.out (k := a) (s := s) (by omega) hs24
            have hq0 : 0 ≤ at2 (mapsK nx gs gs.length) a s ∧ at2 (mapsK nx gs gs.length) a s < (N : Int) := by
              unfold at2
              rw [List.getD_eq_getElem?_getD (i := s), List.getElem?_eq_getElem (by rw [hma.1]; omega), Option.getD_some]
              have := hma.2 _ (List.getElem_mem (show s < ((mapsK nx gs gs.length).getD a []).length by rw [hma.1]; omega))
              have := HNST.out
              omega
            have bda := fir_bd wa HROW.out HLEN.out h1 h24 HFIT.out (a + 1) a s (by omega) (by omega) hs24
            have bdb := fir_bd wa HROW.out HLEN.out h1 h24 HFIT.out (b + 1) b (at2 (mapsK nx gs gs.length) a s).toNat (by omega) (by omega) hqb
            have la := HSM.out a (by omega)
            have lb := HSM.out b (by omega)
            have lp := lens_pos (gs := gs) (k := a) (by omega) (fun j hj _ => fits_at HFIT.out j hj)
            obtain ⟨q, hq⟩ : ∃ q : Nat, at2 (mapsK nx gs gs.length) a s = q := ⟨(at2 (mapsK nx gs gs.length) a s).toNat, by omega⟩
            rw [hq, Int.toNat_natCast] at hzr bdb
            have hqN : q < N := by omega
            obtain ⟨m1, m2, m3, m4⟩ := mapsN_at (nx := nx) (gs := gs) (N := N) (k := n) (j := a) (s := s) (by omega) hsN (mapsK_ok HROW.out HLEN.out h1 h24 HFIT.out n (by rw [← HNE.out]; omega) a (by omega)).1 hN24
            replace m4 := m4.trans (mapsK_at nx gs a s (show a < n by omega) (show a < gs.length by omega))
            rw [hq] at m4
            obtain ⟨am, xm, cm1, cm2, hvm, g0, g1⟩ := ll_get HMu m1 m2
            rw [m3] at g0
            rw [m4] at g1
            obtain ⟨o1, o2, o3, o4⟩ := firN_get (wa := wa) (nx := nx) (gs := gs) (N := N) (k := k) (j := a) (s := s) ha hsN hN24
            rw [firK_at wa nx gs a s k ha, ← firK_at wa nx gs a s gs.length (by omega)] at o4
            obtain ⟨ay, xa, cy1, cy2, hvy, e0, e1⟩ := ll_get HFu o1 o2
            rw [o3] at e0
            rw [o4] at e1
            obtain ⟨r1, r2, r3, r4⟩ := firN_get (wa := wa) (nx := nx) (gs := gs) (N := N) (k := k) (j := b) (s := q) hb hqN hN24
            rw [firK_at wa nx gs b q k hb, ← firK_at wa nx gs b q gs.length (by omega)] at r4
            obtain ⟨ay2, xb, cy3, cy4, hvy2, f0, f1⟩ := ll_get HFu r1 r2
            rw [r3] at f0
            rw [r4] at f1
            obtain ⟨Al2, cl2, hvl, hl0 | ⟨xl, hAl, hlc⟩⟩ := HLu
            · have := lens_len gs; rw [hl0] at this; simp at this; omega
            have l0 := hlc a (by rw [lens_len]; omega)
            have hle : (lens gs)[a]'(by rw [lens_len]; omega) = (lens gs).getD a 0 := by rw [List.getD_eq_getElem?_getD, List.getElem?_eq_getElem (by rw [lens_len]; omega)]; rfl
            rw [hle] at l0
            injection hvm with hvm hx1 hx2
            clear hx1 hx2
            injection hvy with hvy hx1 hx2
            clear hx1 hx2
            injection hvy2 with hvy2 hx1 hx2
            clear hx1 hx2
            injection hvl with hvl hx1 hx2
            clear hx1 hx2
            subst hvm
            rw [hvy] at hvy2
            injection hvy2 with hvy2
            subst hvy2
            subst hvy
            rw [hAl] at hvl
            subst hvl
            generalize at2 (firK wa nx gs gs.length) a s = p at *
            generalize at2 (firK wa nx gs gs.length) b q = m at *
            generalize (lens gs).getD a 0 = la' at *
            generalize (lens gs).getD b 0 = lb' at *
            have a0' : (0 : Int) ≤ (a : Int) := by omega
            have a1' : (a : Int) < (k : Int) := by omega
            have a2' : (a : Int) < (n : Int) := by omega
            have b0' : (0 : Int) ≤ (b : Int) := by omega
            have b1' : (b : Int) < (k : Int) := by omega
            have q0' : (0 : Int) ≤ (q : Int) := by omega
            have q1' : (q : Int) < (N : Int) := by omega
            have hws : IntKind.i64.wrap (la' + m) = la' + m := IntWalk.i64_in _ (by omega)
            have HLL := Lib.hid l0
            clear hp hxe hfp hma hqb hq0 hq m1 m2 m3 m4 o1 o2 o3 o4 r1 r2 r3 r4 hle hlc HMu HFu hmr lp bda la lb
            go_upto_region 16 with fail
            go_quiet ((fail))
            have HST := Lib.hid (FvIn.drewN HST.out nq)
            have HO : Hid ((wu.drewN nq).ownsRow B 2 1 (.slice A3 s c3) s (iv (row.take s))) := Lib.hid HO.out
            have kc1 : (wu.drewN nq).cell? ⟨Kp, 1, none⟩ = some (.int .i64 (a : Int)) := kc1
            have l0 : (wu.drewN nq).cell? (xl.add a) = some (.int .i64 la') := HLL.out
            have hBB : B ≤ (wu.drewN nq).heap.size := hBB
            clear kc0 kc2 g0 g1 e0 e1 f0 f1 HLL
            generalize wu.drewN nq = wv at *
            by_cases hp0 : p < 0
            · have hd1 : decide (p < 0) = true := decide_eq_true hp0
              by_cases hm0 : 0 ≤ m
              · have hd2 : decide (0 ≤ m) = true := decide_eq_true hm0
                rw [if_pos ⟨hp0, hm0⟩] at hzr
                have HZ := Lib.hid hzr
                clear hzr hp0 hm0
                go_wp2_with (first | (at_builtin; refine wpList_append_own _ rfl _ _ 22 rfl B 2 j0 (.int .i64 0) 1 8 Try.underlying22 hj hy0 hy1 hy2 rfl (by decide) _ _ _ rfl (World.ownsRow.alloc HO.out _) ⟨wv.heap.size, 0, none⟩ 1 1 [.int .i64 (la' + m)] rfl rfl (one_new _ _ _) (one_int _ _) (by unfold maxLen; omega) (by omega) (by simp; omega) ?_))
                intro v' w5 hown' hgr _
                have HN5 := Lib.hid (FvIn.append HST.out HWB.out HUB.out HYB.out (by omega) HKB.out HZ.out hown' hgr)
                clear hown' hgr
                go_wp2_with fail
                go_roundw
                all_goals first | exact ⟨s + 1, by omega, by go_num, HN5.out⟩ | ((repeat apply Exists.intro); exact ⟨⟨s + 1, by omega, by go_num, HN5.out⟩, rfl⟩) | (simp [intOf]; done) | (simp [intOf]; omega) | omega
              · have hd2 : decide (0 ≤ m) = false := decide_eq_false hm0
                rw [if_neg (fun h => hm0 h.2)] at hzr
                have HZ := Lib.hid hzr
                clear hzr hp0 hm0
                go_wp2_with (first | (at_builtin; refine wpList_append_own _ rfl _ _ 22 rfl B 2 j0 (.int .i64 0) 1 8 Try.underlying22 hj hy0 hy1 hy2 rfl (by decide) _ _ _ rfl (World.ownsRow.alloc HO.out _) ⟨wv.heap.size, 0, none⟩ 1 1 [.int .i64 p] rfl rfl (one_new _ _ _) (one_int _ _) (by unfold maxLen; omega) (by omega) (by simp; omega) ?_))
                intro v' w5 hown' hgr _
                have HN5 := Lib.hid (FvIn.append HST.out HWB.out HUB.out HYB.out (by omega) HKB.out HZ.out hown' hgr)
                clear hown' hgr
                go_wp2_with fail
                go_roundw
                all_goals first | exact ⟨s + 1, by omega, by go_num, HN5.out⟩ | ((repeat apply Exists.intro); exact ⟨⟨s + 1, by omega, by go_num, HN5.out⟩, rfl⟩) | (simp [intOf]; done) | (simp [intOf]; omega) | omega
            · have hd1 : decide (p < 0) = false := decide_eq_false hp0
              rw [if_neg (fun h => hp0 h.1)] at hzr
              have HZ := Lib.hid hzr
              clear hzr hp0
              go_wp2_with (first | (at_builtin; refine wpList_append_own _ rfl _ _ 22 rfl B 2 j0 (.int .i64 0) 1 8 Try.underlying22 hj hy0 hy1 hy2 rfl (by decide) _ _ _ rfl (World.ownsRow.alloc HO.out _) ⟨wv.heap.size, 0, none⟩ 1 1 [.int .i64 p] rfl rfl (one_new _ _ _) (one_int _ _) (by unfold maxLen; omega) (by omega) (by simp; omega) ?_))
              intro v' w5 hown' hgr _
              have HN5 := Lib.hid (FvIn.append HST.out HWB.out HUB.out HYB.out (by omega) HKB.out HZ.out hown' hgr)
              clear hown' hgr
              go_wp2_with fail
              go_roundw
              all_goals first | exact ⟨s + 1, by omega, by go_num, HN5.out⟩ | ((repeat apply Exists.intro); exact ⟨⟨s + 1, by omega, by go_num, HN5.out⟩, rfl⟩) | (simp [intOf]; done) | (simp [intOf]; omega) | omega
          · obtain ⟨b, hL, _, _, _⟩ := letter_byte h0 HFK.out
            simp only at hL
            have hfl := fir_letter wa nx hkg (show gs[k].L.size ≠ 0 by rw [HXE.out]; exact h0) hs24
            rw [hfl] at hzr
            obtain ⟨m1, m2, m3, m4⟩ := mapsN_at (nx := nx) (gs := gs) (N := N) (k := n) (j := k) (s := s) hkn hsN hmr hN24
            obtain ⟨am, xm, cm1, cm2, hvm, g0, g1⟩ := ll_get HMu m1 m2
            rw [m3] at g0
            rw [m4.trans (mapsK_at nx gs k s hkn hkg)] at g1
            injection hvm with hvm hx1 hx2
            clear hx1 hx2
            subst hvm
            have hne := full_list h0
            rw [hL] at hne
            subst hL
            rw [HWA.out] at hzr
            simp only [decide_eq_true_eq] at hzr
            clear h0 hfl m1 m2 m3 m4 hne
            generalize at2 (mapsK nx gs gs.length) k s = q at *
            clear HMu HFu HLu hmr
            by_cases hqt : q = t
            · have hd1 : (q == t) = true := by simp [hqt]
              rw [if_pos hqt] at hzr
              have HZ := Lib.hid hzr
              subst hqt
              clear hzr
              go_wp2_with (first | (at_builtin; refine wpList_append_own _ rfl _ _ 22 rfl B 2 j0 (.int .i64 0) 1 8 Try.underlying22 hj hy0 hy1 hy2 rfl (by decide) _ _ _ rfl (World.ownsRow.alloc HO.out _) ⟨wu.heap.size, 0, none⟩ 1 1 [.int .i64 1] rfl rfl (one_new _ _ _) (one_int _ _) (by unfold maxLen; omega) (by omega) (by simp; omega) ?_))
              intro v' w5 hown' hgr _
              have HN5 := Lib.hid (FvIn.append HST.out HWB.out HUB.out HYB.out (by omega) HKB.out HZ.out hown' hgr)
              clear hown' hgr
              go_wp2_with fail
              go_roundw
              all_goals first | exact ⟨s + 1, by omega, by go_num, HN5.out⟩ | ((repeat apply Exists.intro); exact ⟨⟨s + 1, by omega, by go_num, HN5.out⟩, rfl⟩) | (simp [intOf]; done) | (simp [intOf]; omega) | omega
            · have hd1 : (q == t) = false := by simp [hqt]
              rw [if_neg hqt] at hzr
              have HZ := Lib.hid hzr
              clear hzr
              go_wp2_with (first | (at_builtin; refine wpList_append_own _ rfl _ _ 22 rfl B 2 j0 (.int .i64 0) 1 8 Try.underlying22 hj hy0 hy1 hy2 rfl (by decide) _ _ _ rfl (World.ownsRow.alloc HO.out _) ⟨wu.heap.size, 0, none⟩ 1 1 [.int .i64 (-1)] rfl rfl (one_new _ _ _) (one_int _ _) (by unfold maxLen; omega) (by omega) (by simp; omega) ?_))
              intro v' w5 hown' hgr _
              have HN5 := Lib.hid (FvIn.append HST.out HWB.out HUB.out HYB.out (by omega) HKB.out HZ.out hown' hgr)
              clear hown' hgr
              go_wp2_with fail
              go_roundw
              all_goals first | exact ⟨s + 1, by omega, by go_num, HN5.out⟩ | ((repeat apply Exists.intro); exact ⟨⟨s + 1, by omega, by go_num, HN5.out⟩, rfl⟩) | (simp [intOf]; done) | (simp [intOf]; omega) | omega
        · obtain rfl : s = N := by omega
          rw [List.length_take, Nat.min_eq_left (by omega)] at hA3
          subst hA3
          have hws : w1.heap.size ≤ wu.heap.size := hst.1.2.2.1.size
          have HIS := Lib.hid hst.1
          have HFR : Hid (∀ q ∈ U, q.ownBlock = none ∨ q.ownBlock ≠ (Value.slice A3 s c3).ownBlock) := Lib.hid (fun q hq => by
            cases e : q.ownBlock with
            | none => exact .inl rfl
            | some g => exact .inr fun e' => by have h1 := HUB.out q hq g e; have h2 := (hst.1.2.1.lt g e'.symm).1; omega)
          have HOU : Hid (∀ o, (wu.alloc o).ownsRow w1.heap.size 22 1 (.slice Ay k cy) k U) := Lib.hid (fun o => by
            have := hst.1.1.outer
            rw [HLU.out] at this
            exact this.alloc o)
          clear hst
          go_wp2_with (first | (at_builtin; refine wpList_append_own _ rfl _ _ 23 rfl w1.heap.size 22 i0 (.slice none 0 0) 1 24 Try.underlying23 hi hz0 hz1 hz2 rfl (by decide) _ _ _ rfl (HOU.out _) ⟨wu.heap.size, 0, none⟩ 1 1 [.slice A3 s c3] rfl rfl (one_new _ _ _) (one_slice _ _ _) (by unfold maxLen; omega) (by omega) (by simp; omega) ?_))
          intro y' w6 hown hg6 _
          have HST6 : Hid (MSt w1 (firN wa nx gs s (k + 1)) y' w6) := Lib.hid (by
            rw [HNX.out]
            refine ⟨U ++ [.slice A3 s c3], HIS.out.1.snoc (own_lower HIS.out.2.1 HWB.out) HFR.out (by rw [HLU.out]; exact hown) hg6, ?_⟩
            exact (HIS.out.2.2.1.alloc hws _).grown hg6 (by simp; omega) (fun q hq => (HIS.out.1.outer.lt q hq).1))
          clear hown hg6
          go_wp2_with fail
          go_roundw
          all_goals first | exact ⟨k + 1, by omega, by go_num, HST6.out⟩ | ((repeat apply Exists.intro); exact ⟨⟨k + 1, by omega, by go_num, HST6.out⟩, rfl⟩) | (simp [intOf]; done) | (simp [intOf]; omega) | omega
    · obtain rfl : k = n := by omega
      have HLL := Lib.hid hm.isLL
      clear hm hB
      go_wp2_with fail
      go_ret
      exact ⟨_, rfl, HLL.out, HB1.out.trans (HM.out.2.mono HB1.out.size)⟩
end Go.Proofs.Ytaffachjopjbgaa
