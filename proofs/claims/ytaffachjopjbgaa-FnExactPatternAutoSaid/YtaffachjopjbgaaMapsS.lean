/-
  Walk: spec.l04Maps.
-/
import Derived.Test.YtaffachjopjbgaaMapM
import Derived.Test.YtaffachjopjbgaaNotM
import Derived.Deep.RegionHeld3
import Derived.Deep.AppendLies
import Derived.Test.YtaffachjopjbgaaAuLt
namespace Go.Proofs.Ytaffachjopjbgaa
open Go.RowKit
open Wd
set_option linter.unusedVariables false
/-- the maps of all rules, as wide as there are states -/
def mapsN (nx : List (List Int)) (gs : List Rl) (N k : Nat) : List (List Int) := (mapsK nx gs k).map (·.take N)
theorem mapsN_len (nx : List (List Int)) (gs : List Rl) (N k : Nat) : (mapsN nx gs N k).length = k := by unfold mapsN; rw [List.length_map, mapsK_len]
theorem mapsN_get {nx : List (List Int)} {gs : List Rl} {N k j : Nat} (h : j < k) : (mapsN nx gs N k)[j]? = some (((mapsK nx gs k).getD j []).take N) := by
  unfold mapsN
  rw [List.getElem?_map, List.getElem?_eq_getElem (by rw [mapsK_len]; exact h)]
  rw [List.getD_eq_getElem?_getD, List.getElem?_eq_getElem (by rw [mapsK_len]; exact h)]
  rfl
/-- between two states of a rule -/
def InS (w : World) (y : Value) (U : List Value) (Z : List (List Int)) (B : Nat) (row : List Int) (s : Nat) (tv : Value) (wr : World) : Prop :=
  OwnM wr w.heap.size y U Z ∧ OwnsI wr B tv (row.take s) ∧ Below w.heap.size w wr ∧ B ≤ wr.heap.size
theorem InS.kept {w wr w1 : World} {y tv : Value} {U : List Value} {Z : List (List Int)} {B s : Nat} {row : List Int} (h : InS w y U Z B row s tv wr) (hb : Below wr.heap.size wr w1) : InS w y U Z B row s tv w1 :=
  ⟨h.1.kept hb, own_below h.2.1 hb (Nat.le_refl _), h.2.2.1.trans (hb.mono h.2.2.1.size), Nat.le_trans h.2.2.2 hb.size⟩
theorem InS.append {w wr w5 : World} {y tv tv' : Value} {U : List Value} {Z : List (List Int)} {B s : Nat} {row : List Int} {o : Obj} (h : InS w y U Z B row s tv wr) (hwB : w.heap.size ≤ B)
    (hU : ∀ u ∈ U, ∀ q, u.ownBlock = some q → q < B) (hy : ∀ q, y.ownBlock = some q → q < B) (hs : s < row.length)
    (hown : w5.ownsRow B 2 1 tv' (s + 1) (iv (row.take s) ++ [.int .i64 row[s]])) (hg : (wr.alloc o).grownBy w5 tv.ownBlock) : InS w y U Z B row (s + 1) tv' w5 := by
  obtain ⟨h1, h2, h3, h4⟩ := h
  have hrow : ∀ q, tv.ownBlock = some q → B ≤ q := fun q hq => (h2.lt q hq).1
  have hsz := hg.size
  refine ⟨(h1.kept ((Below.refl _ wr).alloc (Nat.le_refl _) o)).apart hU hy hg hrow, ?_, (h3.alloc h3.size o).grown hg (by have := h3.size; simp; omega) (fun q hq => by have := hrow q hq; omega), by simp at hsz; omega⟩
  unfold OwnsI
  rw [List.take_succ_eq_append_getElem hs, List.length_append, iv_app, List.length_take, Nat.min_eq_left (by omega)]
  exact hown
theorem grown_undrew {w w' : World} {row : Option Nat} (h : w.drew.grownBy w' row) : w.grownBy w' row := ⟨h.os, h.tape, h.output, h.size, h.block⟩
theorem one_newD (w : World) (v : Value) (t : TypeId) : ∀ j u, [v][j]? = some u → (w.alloc (.cells #[v] t)).drew.cell? ((⟨w.heap.size, 0, none⟩ : Addr).add j) = some u := one_new w v t
set_option maxRecDepth 100000 in
set_option maxHeartbeats 12800000 in
theorem l04Maps_any (nv : Value) (nx : List (List Int)) (st : Int) (pg : Nat) (gs : List Rl) (w : World) (h1 : 1 ≤ st) (h24 : st ≤ 24) (hrow : nx.all (rowOk st) = true) (hlen : (nx.length : Int) = st) (hN : IsLL w nv nx) (hfit : fits gs = true) (hn : gs.length ≤ 400) (hg : GP w pg gs) :
    Calls Try.prog 95 #[nv, .pointer (some ⟨pg, 0, none⟩)] w fun e w' => ∃ y U, e = .returned y ∧ OwnM w' w.heap.size y U (mapsN nx gs nx.length gs.length) ∧ Below w.heap.size w w' := by
  obtain ⟨i0, hi, hz0, hz1, hz2⟩ := info_parts Try.info_ints
  obtain ⟨j0, hj, hy0, hy1, hy2⟩ := info_parts Try.info_int64
  obtain ⟨gv, hgv, hR⟩ := hg
  obtain ⟨A, c, rfl, hin⟩ := hN
  have HI := Lib.hid hin
  obtain ⟨Av, cv, rfl, hrc⟩ := hR
  have HRC := Lib.hid hrc
  have HGV := Lib.hid hgv
  have HROW := Lib.hid hrow
  have HLEN := Lib.hid hlen
  have HFIT := Lib.hid hfit
  obtain ⟨N, hNe⟩ : ∃ N, N = nx.length := ⟨_, rfl⟩
  obtain ⟨n, hne⟩ : ∃ n, n = gs.length := ⟨_, rfl⟩
  have hNst : (N : Int) = st := by omega
  have hN24 : N ≤ 24 := by omega
  rw [← hNe, ← hne]
  rw [← hne] at hn hgv
  have HN := Lib.hid hNe
  have HNE := Lib.hid hne
  have HNST := Lib.hid hNst
  have HS := Lib.hid (MSt.start w _ rfl)
  clear hin hrc hrow hlen hfit hNe hne hNst
  go_enter Try.func95, Try.ntmps95
  go_wp2_with fail
  go_loopw [5, 6] (fun y i wr => ∃ k : Nat, k ≤ n ∧ i = .int .i64 k ∧ MSt w (mapsN nx gs N k) y wr) (fun _ i _ => n - (intOf i).toNat)
  case atStart => exact ⟨0, Nat.zero_le _, rfl, HS.out⟩
  case round =>
    obtain ⟨k, hk, rfl, hst⟩ := hrel
    obtain ⟨wo, rfl⟩ : ∃ wo : World, wo = wr := ⟨_, rfl⟩
    obtain ⟨U, hm, hB⟩ := hst
    have HM := Lib.hid (And.intro hm hB)
    have hlenU := hm.len
    rw [mapsN_len] at hlenU
    obtain ⟨Ay, cy, hAy⟩ := own_slice hm.outer
    rw [hlenU] at hAy
    subst hAy
    have HLU := Lib.hid hlenU
    have hgo := (hB.cell (lt_of_cell HGV.out)).trans HGV.out
    rw [← HNE.out] at hgo
    clear hgv hlenU
    by_cases hkn : k < n
    · have hkg : k < gs.length := by rw [← HNE.out]; exact hkn
      obtain ⟨row, hrw⟩ : ∃ row, row = rowM nx (mapsK nx gs k) gs[k] := ⟨_, rfl⟩
      have hnx : mapsN nx gs N (k + 1) = mapsN nx gs N k ++ [row.take N] := by
        unfold mapsN
        rw [mapsK, List.map_append, List.getD_eq_getElem?_getD, List.getElem?_eq_getElem hkg, hrw]
        rfl
      have hok := mapsK_ok HROW.out HLEN.out h1 h24 HFIT.out k (by omega)
      have hok1 := mapsK_ok HROW.out HLEN.out h1 h24 HFIT.out (k + 1) (by omega) k (by omega)
      rw [mapsK_last, List.getD_eq_getElem?_getD, List.getElem?_eq_getElem hkg, Option.getD_some, ← hrw] at hok1
      have hr24 := hok1.1
      have HNX := Lib.hid hnx
      have HSTB : Hid (InS w (.slice Ay k cy) U (mapsN nx gs N k) wo.heap.size row 0 (.slice (some ⟨wo.heap.size, 0, none⟩) 0 0) (wo.alloc (.cells #[] 2))) := Lib.hid
        ⟨hm.kept ((Below.refl _ wo).alloc (Nat.le_refl _) _), World.ownsRow_lit (base := wo.heap.size) (e := 2) (size := 1) wo #[] 0 (Nat.le_refl _) (by decide) rfl, hB.alloc hB.size _, by simp⟩
      have HUB := Lib.hid (fun u hu q (hq : u.ownBlock = some q) => (hm.rows.ge u hu q hq).2)
      have HYB := Lib.hid (fun q (hq : (Value.slice Ay k cy).ownBlock = some q) => (hm.outer.lt q hq).2)
      have HWB := Lib.hid hB.size
      obtain ⟨B, hBe⟩ : ∃ B, B = wo.heap.size := ⟨_, rfl⟩
      clear hm hB
      go_wp2_with fail
      rw [← hBe] at HSTB HUB HYB HWB ⊢
      have HBE := Lib.hid hBe
      clear hBe hgo hnx
      go_loopw [7, 8, 9] (fun tv i _ wr => ∃ s : Nat, s ≤ N ∧ i = .int .i64 s ∧ InS w (.slice Ay k cy) U (mapsN nx gs N k) B row s tv wr) (fun _ i _ _ => N - (intOf i).toNat)
      case atStart => exact ⟨0, Nat.zero_le _, rfl, HSTB.out⟩
      case round =>
        obtain ⟨s, hs, rfl, hst⟩ := hrel
        obtain ⟨wu, rfl⟩ : ∃ wu : World, wu = wr := ⟨_, rfl⟩
        by_cases hsN : s < N
        · have hsx : s < nx.length := by rw [← HN.out]; exact hsN
          have hs24 : s < row.length := by omega
          have HSR := Lib.hid hs24
          have hgu := (hst.2.2.1.cell (lt_of_cell HGV.out)).trans HGV.out
          rw [← HNE.out] at hgu
          rcases HRC.out with hn0 | ⟨g, rfl, hg, hc⟩
          · rw [hn0] at hkg; simp at hkg
          obtain ⟨a0, a1, a2⟩ := rules_cells hc hkg
          rw [← hst.2.2.1.cell (p := ⟨g, k * 3, none⟩) hg] at a0
          rw [← hst.2.2.1.cell (p := ⟨g, k * 3 + 1, none⟩) hg] at a1
          rw [← hst.2.2.1.cell (p := ⟨g, k * 3 + 2, none⟩) hg] at a2
          have hfk := fits_at HFIT.out k hkg
          have k0 : (0 : Int) ≤ (k : Int) := by omega
          have k1 : (k : Int) < (n : Int) := by omega
          have s0 : (0 : Int) ≤ (s : Int) := by omega
          have s1 : (s : Int) < (N : Int) := by omega
          have HIS := Lib.hid hst
          obtain ⟨z, hz⟩ : ∃ z, z = row[s] := ⟨_, rfl⟩
          have HZ := Lib.hid hz.symm
          obtain ⟨A3, c3, hA3⟩ := own_slice hst.2.1
          rw [List.length_take, Nat.min_eq_left (by omega)] at hA3
          subst hA3
          have hTB := Lib.hid (fun q (hq : (Value.slice A3 s c3).ownBlock = some q) => hst.2.1.lt q hq)
          have hgB : g < w.heap.size := hg
          clear hc
          by_cases h0 : gs[k].L.size = 0
          · have hp := (ok_pair h0).1 hfk
            have he := empty_arr h0
            have hrw2 : row = thenRow ((mapsK nx gs k).getD gs[k].l.toNat []) ((mapsK nx gs k).getD gs[k].r.toNat []) := by rw [hrw]; unfold rowM; rw [if_pos h0]
            rw [he] at a0
            generalize gs[k] = R at *
            obtain ⟨L, l, r⟩ := R
            simp only at hp he a1 a2 hrw2
            subst he
            obtain ⟨a, rfl⟩ : ∃ a : Nat, l = a := ⟨l.toNat, by omega⟩
            obtain ⟨b, rfl⟩ : ∃ b : Nat, r = b := ⟨r.toNat, by omega⟩
            rw [Int.toNat_natCast, Int.toNat_natCast] at hrw2
            have ha : a < k := by omega
            have hb : b < k := by omega
            have hoa := hok a ha
            have hob := hok b hb
            have hga := mapsN_get (nx := nx) (gs := gs) (N := N) ha
            have hgb := mapsN_get (nx := nx) (gs := gs) (N := N) hb
            generalize (mapsK nx gs k).getD a [] = ma at *
            generalize (mapsK nx gs k).getD b [] = mb at *
            have hqm := hoa.2 _ (List.getElem_mem (show s < ma.length by rw [hoa.1]; omega))
            obtain ⟨q, hq⟩ : ∃ q : Nat, ma[s]'(by rw [hoa.1]; omega) = q := ⟨(ma[s]'(by rw [hoa.1]; omega)).toNat, by omega⟩
            have hqN : q < N := by have := HNST.out; omega
            have hzz : z = mb.getD q 0 := by
              have hzd : z = row.getD s 0 := by rw [hz, List.getD_eq_getElem?_getD, List.getElem?_eq_getElem hs24]; rfl
              rw [hzd, hrw2]
              unfold thenRow
              rw [List.getD_eq_getElem?_getD, List.getElem?_map, List.getElem?_eq_getElem (by rw [hoa.1]; omega), hq]
              simp only [Option.map_some, Option.getD_some, Int.toNat_natCast]
            have hb7 := (Below.refl _ wu).alloc (Nat.le_refl _) (.cells #[.string ⟨#[]⟩, .int .i64 a, .int .i64 b] 127)
            have HI7 := Lib.hid (hst.kept hb7)
            have hM7 := HI7.out.1
            have hK7 := heap_alloc_new wu (.cells #[.string ⟨#[]⟩, .int .i64 a, .int .i64 b] 127)
            have kc1 := cell_of_row _ _ 1 _ _ _ hK7
            have kc2 := cell_of_row _ _ 2 _ _ _ hK7
            have hKl : wu.heap.size < (wu.alloc (.cells #[.string ⟨#[]⟩, .int .i64 a, .int .i64 b] 127)).heap.size := by simp
            have hUl := HLU.out
            obtain ⟨gy, hgy, hgy1⟩ : ∃ gy, Ay = some ⟨gy, 0, none⟩ ∧ gy < B := by
              rcases hM7.shape with ⟨_, h0⟩ | ⟨gy, c', hv, _, _⟩
              · rw [h0] at hUl; simp at hUl; omega
              · injection hv with hv
                exact ⟨gy, hv, HYB.out gy (by rw [hv]; rfl)⟩
            subst hgy
            have cA : (wu.alloc (.cells #[.string ⟨#[]⟩, .int .i64 a, .int .i64 b] 127)).cell? ⟨gy, a, none⟩ = U[a]? := by
              have := hM7.outer
              rw [hUl] at this
              exact this.cellAt a (by omega)
            have cB : (wu.alloc (.cells #[.string ⟨#[]⟩, .int .i64 a, .int .i64 b] 127)).cell? ⟨gy, b, none⟩ = U[b]? := by
              have := hM7.outer
              rw [hUl] at this
              exact this.cellAt b (by omega)
            have hoA := hM7.rows.row a _ _ (List.getElem?_eq_getElem (by omega)) hga
            have hoB := hM7.rows.row b _ _ (List.getElem?_eq_getElem (by omega)) hgb
            rw [List.getElem?_eq_getElem (by omega)] at cA cB
            have mA := HUB.out _ (List.getElem_mem (show a < U.length by omega))
            have mB := HUB.out _ (List.getElem_mem (show b < U.length by omega))
            have lA : (ma.take N).length = N := by rw [List.length_take, hoa.1]; omega
            have lB : (mb.take N).length = N := by rw [List.length_take, hob.1]; omega
            generalize U[a]'(by omega) = ua at *
            generalize U[b]'(by omega) = ub at *
            obtain ⟨ga, ca, rfl⟩ : ∃ ga ca, ua = .slice (some ⟨ga, 0, none⟩) N ca := by
              rcases hoA.shape with ⟨_, h0⟩ | ⟨ga, ca, hv, _⟩
              · rw [h0] at lA; simp at lA; omega
              · exact ⟨ga, ca, by rw [hv, lA]⟩
            obtain ⟨gb, cb, rfl⟩ : ∃ gb cb, ub = .slice (some ⟨gb, 0, none⟩) N cb := by
              rcases hoB.shape with ⟨_, h0⟩ | ⟨gb, cb, hv, _⟩
              · rw [h0] at lB; simp at lB; omega
              · exact ⟨gb, cb, by rw [hv, lB]⟩
            have dA : (wu.alloc (.cells #[.string ⟨#[]⟩, .int .i64 a, .int .i64 b] 127)).cell? ⟨ga, s, none⟩ = some (.int .i64 (q : Int)) := by
              have h' := hoA
              unfold OwnsI at h'
              rw [lA] at h'
              rw [h'.cellAt s (by omega), iv_get _ s (by rw [lA]; omega), List.getElem_take, hq]
            have dB : (wu.alloc (.cells #[.string ⟨#[]⟩, .int .i64 a, .int .i64 b] 127)).cell? ⟨gb, q, none⟩ = some (.int .i64 z) := by
              have h' := hoB
              unfold OwnsI at h'
              rw [lB] at h'
              rw [h'.cellAt q (by omega), iv_get _ q (by rw [lB]; omega), List.getElem_take, hzz, List.getD_eq_getElem?_getD, List.getElem?_eq_getElem (by rw [hob.1]; omega)]
              rfl
            have gaB := mA ga rfl
            have gbB := mB gb rfl
            have a0' : (0 : Int) ≤ (a : Int) := by omega
            have a1' : (a : Int) < (k : Int) := by omega
            have b0' : (0 : Int) ≤ (b : Int) := by omega
            have b1' : (b : Int) < (k : Int) := by omega
            have q0' : (0 : Int) ≤ (q : Int) := by omega
            have q1' : (q : Int) < (N : Int) := by omega
            have hws : w.heap.size ≤ wu.heap.size := hst.2.2.1.size
            have hBu : B ≤ wu.heap.size := hst.2.2.2
            clear h0 hfk hok hok1 hrw hrw2 hr24 hst hz hb7 hoa hob hga hgb hqm hq hzz hM7 hoA hoB mA mB lA lB hp hUl
            go_upto_region 12 with fail
            obtain ⟨Kp, hKp⟩ : ∃ Kp, Kp = wu.heap.size := ⟨_, rfl⟩
            have hTK : Hid ((Value.slice A3 s c3).ownBlock ≠ some Kp) := Lib.hid (fun e => by have := (hTB.out Kp e).2; omega)
            rw [← hKp] at hK7 kc1 kc2 hKl ⊢
            generalize wu.alloc (.cells #[.string ⟨#[]⟩, .int .i64 a, .int .i64 b] 127) = w7 at *
            have kc1 : w7.cell? ⟨Kp, 1, none⟩ = some (.int .i64 (a : Int)) := kc1
            have kc2 : w7.cell? ⟨Kp, 2, none⟩ = some (.int .i64 (b : Int)) := kc2
            have HO7 : Hid (w7.ownsRow B 2 1 (.slice A3 s c3) s (iv (row.take s))) := Lib.hid (by
              have := HI7.out.2.1
              unfold OwnsI at this
              rw [List.length_take, Nat.min_eq_left (by omega)] at this
              exact this)
            have hB7 : B ≤ w7.heap.size := HI7.out.2.2.2
            have HTY : Hid (∀ g', g' < B → (Value.slice A3 s c3).ownBlock ≠ some g') := Lib.hid (fun g' hg' e => by have h1 := (hTB.out _ e).1; omega)
            have HF := Lib.hid (And.intro kc1 (And.intro kc2 (And.intro cA (And.intro cB (And.intro dA dB)))))
            clear hKp hK7
            go_region_held3 (fun w' => w'.cell? ⟨Kp, 1, none⟩ = some (.int .i64 (a : Int)) ∧ w'.cell? ⟨Kp, 2, none⟩ = some (.int .i64 (b : Int)) ∧ w'.cell? ⟨gy, a, none⟩ = some (.slice (some ⟨ga, 0, none⟩) N ca) ∧ w'.cell? ⟨gy, b, none⟩ = some (.slice (some ⟨gb, 0, none⟩) N cb) ∧ w'.cell? ⟨ga, s, none⟩ = some (.int .i64 (q : Int)) ∧ w'.cell? ⟨gb, q, none⟩ = some (.int .i64 z))
              (first | go_keep | exact HS8.out)
              (first
                | (refine step_append_lies _ (by rfl) _ _ 22 (by rfl) B 2 j0 (.int .i64 0) 1 8 Try.underlying22 hj hy0 hy1 hy2 (by rfl) (by decide) (.slice A3 s c3) s (iv (row.take s)) (by rfl) ?_ ⟨w7.heap.size, 0, none⟩ 1 1 [.int .i64 z] (by rfl) (by rfl) ?_ (one_int _ _) (by decide) ?_ ?_ ?_ (w7.heap.size + 1) ?_ ?_
                   exact own_drewN (World.ownsRow.alloc HO7.out _) 1
                   exact one_newD w7 _ _
                   (unfold maxLen; omega)
                   omega
                   (simp; omega)
                   simp
                   intro g8 c8 w8 hown' hgrow _ _
                   have hG := grown_undrew hgrow
                   have hz9 : w8.ownsRow B 2 1 (.slice (some ⟨g8, 0, none⟩) (s + 1) c8) (s + 1) (iv (row.take s) ++ [.int .i64 (row[s]'HSR.out)]) := by have ez : row[s]'HSR.out = z := HZ.out; rw [ez]; exact hown'
                   have h1 := InS.append HI7.out HWB.out HUB.out HYB.out HSR.out hz9 hG
                   have HN8 := Lib.hid (h1)
                   have HK8 : Hid (∀ p : Addr, p.block < w7.heap.size → (Value.slice A3 s c3).ownBlock ≠ some p.block → w8.cell? p = w7.cell? p) := Lib.hid (fun p hp hne => World.cell?_of_block ((hgrow.block p.block (by simp; omega) (fun e => hne e.symm)).trans (((Below.refl _ w7).alloc (Nat.le_refl _) _).block p.block (by simpa using hp))))
                   clear hG h1 hz9 hown' hgrow
                   have HS8 : Hid (w8.cell? ⟨Kp, 1, none⟩ = some (.int .i64 (a : Int)) ∧ w8.cell? ⟨Kp, 2, none⟩ = some (.int .i64 (b : Int)) ∧ w8.cell? ⟨gy, a, none⟩ = some (.slice (some ⟨ga, 0, none⟩) N ca) ∧ w8.cell? ⟨gy, b, none⟩ = some (.slice (some ⟨gb, 0, none⟩) N cb) ∧ w8.cell? ⟨ga, s, none⟩ = some (.int .i64 (q : Int)) ∧ w8.cell? ⟨gb, q, none⟩ = some (.int .i64 z)) := Lib.hid
                     ⟨(HK8.out ⟨Kp, 1, none⟩ hKl hTK.out).trans HF.out.1, (HK8.out ⟨Kp, 2, none⟩ hKl hTK.out).trans HF.out.2.1, (HK8.out ⟨gy, a, none⟩ (by simp only; omega) (HTY.out _ hgy1)).trans HF.out.2.2.1, (HK8.out ⟨gy, b, none⟩ (by simp only; omega) (HTY.out _ hgy1)).trans HF.out.2.2.2.1, (HK8.out ⟨ga, s, none⟩ (by simp only; omega) (HTY.out _ gaB)).trans HF.out.2.2.2.2.1, (HK8.out ⟨gb, q, none⟩ (by simp only; omega) (HTY.out _ gbB)).trans HF.out.2.2.2.2.2⟩))
            all_goals
              go_wp2_with fail
              go_roundw
              all_goals first | exact ⟨s + 1, by omega, by go_num, HN8.out⟩ | ((repeat apply Exists.intro); exact ⟨⟨s + 1, by omega, by go_num, HN8.out⟩, rfl⟩) | (simp [intOf]; done) | (simp [intOf]; omega) | omega
          · obtain ⟨b, hL, hb1, hb2, hno⟩ := letter_byte h0 hfk
            have he := full_list h0
            obtain ⟨d, hd⟩ : ∃ d : Nat, d = b.toNat - 97 := ⟨_, rfl⟩
            have hd1 : b.toNat = 97 + d := by omega
            have hd4 : d < 4 := by omega
            have hzz : z = (nx.getD s []).getD d 0 := by
              have hzd : z = row.getD s 0 := by rw [hz, List.getD_eq_getElem?_getD, List.getElem?_eq_getElem hs24]; rfl
              rw [hzd, hrw]
              unfold rowM
              rw [if_neg h0, hno, ← hd]
              unfold stepsRow
              rw [List.getD_eq_getElem?_getD, List.getElem?_map, List.getElem?_range (by omega)]
              rfl
            rcases HI.out with hn0 | ⟨x, rfl, hcx⟩
            · rw [hn0] at hsx; simp at hsx
            obtain ⟨u, c0, hu⟩ := hcx s hsx
            obtain ⟨hr4, _⟩ := row_facts HROW.out hsx
            obtain ⟨A2, c2, rfl, hcy⟩ := hu
            rw [hr4] at c0
            rcases hcy with hn0 | ⟨y2, rfl, hzc⟩
            · rw [hn0] at hr4; simp at hr4
            have d0 := hzc d (by omega)
            rw [show nx[s][d] = z from by rw [hzz, List.getD_eq_getElem?_getD (l := nx), List.getElem?_eq_getElem hsx, Option.getD_some, List.getD_eq_getElem?_getD, List.getElem?_eq_getElem (by omega), Option.getD_some]] at d0
            have lx : (x.add s).block < w.heap.size := lt_of_cell c0
            have ly : (y2.add d).block < w.heap.size := lt_of_cell d0
            have e0 := (hst.2.2.1.cell lx).trans c0
            have e1 := (hst.2.2.1.cell ly).trans d0
            rw [hL] at a0 he
            have HLT : Hid (∀ W, Calls Try.prog 160 #[.int .u8 ((((⟨#[b]⟩ : ByteArray)[0]'(Nat.zero_lt_one)).toNat : Nat) : Int)] W fun e w' => e = .returned (.int .i64 (d : Int)) ∧ w' = W) := Lib.hid (fun W => by
              show Calls Try.prog 160 #[.int .u8 ((b.toNat : Nat) : Int)] W _
              rw [hd1]
              exact letterN_any d hd4 W)
            have dd0 : (0 : Int) ≤ (d : Int) := by omega
            have dd1 : (d : Int) < 4 := by omega
            have hws : w.heap.size ≤ wu.heap.size := hst.2.2.1.size
            generalize gs[k] = R at *
            obtain ⟨L, l, r⟩ := R
            simp only at hL a1 a2
            subst hL
            have hb7 := (Below.refl _ wu).alloc (Nat.le_refl _) (.cells #[.string ⟨#[b]⟩, .int .i64 l, .int .i64 r] 127)
            have HI7 := Lib.hid (hst.kept hb7)
            have hK7 := heap_alloc_new wu (.cells #[.string ⟨#[b]⟩, .int .i64 l, .int .i64 r] 127)
            have kc := cell_of_row _ _ 0 _ _ _ hK7
            have f0 := (hb7.cell (p := x.add s) (by omega)).trans e0
            have f1 := (hb7.cell (p := y2.add d) (by omega)).trans e1
            have hKl : wu.heap.size < (wu.alloc (.cells #[.string ⟨#[b]⟩, .int .i64 l, .int .i64 r] 127)).heap.size := by simp
            clear h0 hfk hno hd hd1 hd4 hzz hcx c0 hr4 hzc d0 e0 e1 hok hok1 hrw hr24 hb1 hb2 hst hz hb7
            go_upto_region 11 with fail
            obtain ⟨Kp, hKp⟩ : ∃ Kp, Kp = wu.heap.size := ⟨_, rfl⟩
            have hTK : Hid ((Value.slice A3 s c3).ownBlock ≠ some Kp) := Lib.hid (fun e => by have := (hTB.out Kp e).2; omega)
            rw [← hKp] at hK7 kc hKl ⊢
            generalize wu.alloc (.cells #[.string ⟨#[b]⟩, .int .i64 l, .int .i64 r] 127) = w7 at *
            have kc : w7.cell? ⟨Kp, 0, none⟩ = some (.string ⟨#[b]⟩) := kc
            have HO7 : Hid (w7.ownsRow B 2 1 (.slice A3 s c3) s (iv (row.take s))) := Lib.hid (by
              have := HI7.out.2.1
              unfold OwnsI at this
              rw [List.length_take, Nat.min_eq_left (by omega)] at this
              exact this)
            have HBS := Lib.hid HI7.out.2.2.2
            have hB7 : B ≤ w7.heap.size := HI7.out.2.2.2
            have HTX : Hid ((Value.slice A3 s c3).ownBlock ≠ some (x.add s).block) := Lib.hid (fun e => by have h1 := (hTB.out _ e).1; have h2 := HWB.out; omega)
            have HTY : Hid ((Value.slice A3 s c3).ownBlock ≠ some (y2.add d).block) := Lib.hid (fun e => by have h1 := (hTB.out _ e).1; have h2 := HWB.out; omega)
            have HF0 := Lib.hid f0
            have HF1 := Lib.hid f1
            have HKC := Lib.hid kc
            have hwK : w.heap.size ≤ Kp := by omega
            clear hKp hK7
            go_region_held3 (fun w' => w'.cell? (x.add s) = some (.slice (some y2) 4 c2) ∧ w'.cell? (y2.add d) = some (.int .i64 z) ∧ w'.cell? ⟨Kp, 0, none⟩ = some (.string ⟨#[b]⟩))
              (first | go_keep | exact HS8.out)
              (first
                | (go_at_call 160
                   refine (HLT.out _).mono ?_
                   rintro e w9 ⟨rfl, rfl⟩)
                | (refine step_append_lies _ (by rfl) _ _ 22 (by rfl) B 2 j0 (.int .i64 0) 1 8 Try.underlying22 hj hy0 hy1 hy2 (by rfl) (by decide) (.slice A3 s c3) s (iv (row.take s)) (by rfl) ?_ ⟨w7.heap.size, 0, none⟩ 1 1 [.int .i64 z] (by rfl) (by rfl) ?_ (one_int _ _) (by decide) ?_ ?_ ?_ (w7.heap.size + 1) ?_ ?_
                   exact own_drewN (World.ownsRow.alloc HO7.out _) 1
                   exact one_newD w7 _ _
                   (unfold maxLen; omega)
                   omega
                   (simp; omega)
                   simp
                   intro g8 c8 w8 hown' hgrow _ _
                   have hG := grown_undrew hgrow
                   have hz9 : w8.ownsRow B 2 1 (.slice (some ⟨g8, 0, none⟩) (s + 1) c8) (s + 1) (iv (row.take s) ++ [.int .i64 (row[s]'HSR.out)]) := by have ez : row[s]'HSR.out = z := HZ.out; rw [ez]; exact hown'
                   have h1 := InS.append HI7.out HWB.out HUB.out HYB.out HSR.out hz9 hG
                   have HN8 := Lib.hid (h1)
                   have HK8 : Hid (∀ p : Addr, p.block < w7.heap.size → (Value.slice A3 s c3).ownBlock ≠ some p.block → w8.cell? p = w7.cell? p) := Lib.hid (fun p hp hne => World.cell?_of_block ((hgrow.block p.block (by simp; omega) (fun e => hne e.symm)).trans (((Below.refl _ w7).alloc (Nat.le_refl _) _).block p.block (by simpa using hp))))
                   clear hG h1 hz9 hown' hgrow
                   have HS8 : Hid (w8.cell? (x.add s) = some (.slice (some y2) 4 c2) ∧ w8.cell? (y2.add d) = some (.int .i64 z) ∧ w8.cell? ⟨Kp, 0, none⟩ = some (.string ⟨#[b]⟩)) := Lib.hid ⟨(HK8.out (x.add s) (by omega) HTX.out).trans HF0.out, (HK8.out (y2.add d) (by omega) HTY.out).trans HF1.out, (HK8.out ⟨Kp, 0, none⟩ hKl hTK.out).trans HKC.out⟩))
            all_goals
              go_wp2_with fail
              go_roundw
              all_goals first | exact ⟨s + 1, by omega, by go_num, HN8.out⟩ | ((repeat apply Exists.intro); exact ⟨⟨s + 1, by omega, by go_num, HN8.out⟩, rfl⟩) | (simp [intOf]; done) | (simp [intOf]; omega) | omega
        · obtain rfl : s = N := by omega
          have HIS := Lib.hid hst
          obtain ⟨A3, c3, hA3⟩ := own_slice hst.2.1
          rw [List.length_take, Nat.min_eq_left (by omega)] at hA3
          subst hA3
          have hws : w.heap.size ≤ wu.heap.size := hst.2.2.1.size
          have hFR : ∀ q ∈ U, q.ownBlock = none ∨ q.ownBlock ≠ (Value.slice A3 s c3).ownBlock := fun q hq => by
            cases e : q.ownBlock with
            | none => exact .inl rfl
            | some g => exact .inr fun e' => by have h1 := HUB.out q hq g e; have h2 := (hst.2.1.lt g e'.symm).1; omega
          have HFR := Lib.hid hFR
          have HOU : Hid (∀ o, (wu.alloc o).ownsRow w.heap.size 22 1 (.slice Ay k cy) k U) := Lib.hid (fun o => by
            have := hst.1.outer
            rw [HLU.out] at this
            exact this.alloc o)
          clear hst hok hok1 hrw hr24 hFR
          go_wp2_with (first | (at_builtin; refine wpList_append_own _ rfl _ _ 23 rfl w.heap.size 22 i0 (.slice none 0 0) 1 24 Try.underlying23 hi hz0 hz1 hz2 rfl (by decide) _ _ _ rfl (HOU.out _) ⟨wu.heap.size, 0, none⟩ 1 1 [.slice A3 s c3] rfl rfl (one_new _ _ _) (one_slice _ _ _) (by unfold maxLen; omega) (by omega) (by simp; omega) ?_))
          intro y' w6 hown hg6 _
          have HST6 : Hid (MSt w (mapsN nx gs s (k + 1)) y' w6) := Lib.hid (by
            rw [HNX.out]
            refine ⟨U ++ [.slice A3 s c3], HIS.out.1.snoc (own_lower HIS.out.2.1 HWB.out) HFR.out (by rw [HLU.out]; exact hown) hg6, ?_⟩
            exact (HIS.out.2.2.1.alloc hws _).grown hg6 (by simp; omega) (fun q hq => (HIS.out.1.outer.lt q hq).1))
          clear hown hg6
          go_wp2_with fail
          go_roundw
          all_goals first | exact ⟨k + 1, by omega, by go_num, HST6.out⟩ | ((repeat apply Exists.intro); exact ⟨⟨k + 1, by omega, by go_num, HST6.out⟩, rfl⟩) | (simp [intOf]; done) | (simp [intOf]; omega) | omega
    · obtain rfl : k = n := by omega
      clear hm hB
      go_wp2_with fail
      go_ret
      refine ⟨_, U, rfl, ?_, HM.out.2⟩
      exact HM.out.1
end Go.Proofs.Ytaffachjopjbgaa
