/-
  Where the first letters lead: spec.l04After, spec.StateAfter; the walk's after, impl.StateAfter.
-/
import Derived.Test.YtddjcgaejjldbaaMapS
import Derived.Test.YtddjcgaejjldbaaMapsS
import Derived.Test.YtddjcgaejjldbaaGramLen
import Derived.Deep.RegionHeld3
import Derived.Test.YtddjcgaejjldbaaRunE
namespace Go.Proofs.Ytddjcgaejjldbaa
open Go.RowKit
open Wd
set_option linter.unusedVariables false
namespace Wd
/-- where the first n letters of a rule's word lead, with so much fuel -/
def aft (nx : List (List Int)) (gs : List Rl) : Nat → Nat → Int → Int → Int
  | 0, _, s, _ => s
  | f + 1, k, s, n =>
    if n ≤ 0 then s
    else if (lens gs).getD k 0 ≤ n then ((mapsK nx gs gs.length).getD k []).getD s.toNat 0
    else aft nx gs f (gs.getD k ⟨ByteArray.empty, 0, 0⟩).r.toNat (aft nx gs f (gs.getD k ⟨ByteArray.empty, 0, 0⟩).l.toNat s n) (n - (lens gs).getD (gs.getD k ⟨ByteArray.empty, 0, 0⟩).l.toNat 0)
def aftS (nx : List (List Int)) (gs : List Rl) (k : Nat) (s n : Int) : Int := aft nx gs (k + 1) k s n
/-- those of the whole grammar -/
def aftW (nx : List (List Int)) (gs : List Rl) (s n : Int) : Int := if gs.length = 0 then s else aftS nx gs (gs.length - 1) s n
/-- the state behind the first letters -/
def stA (x : Au) (gs : List Rl) (q : Int) : Int × Int := if aOk x = true ∧ gOk gs = true then if 0 ≤ q ∧ q ≤ wordLen gs then (aftW x.nx gs x.go q, 0) else (0, 2) else (0, 1)
end Wd
theorem aOk_go' {x : Au} (h : aOk x = true) : 0 ≤ x.go ∧ x.go < x.st := by
  unfold aOk at h
  simp only [Bool.and_eq_true, decide_eq_true_iff] at h
  have := h.1.1.2
  omega
theorem gs_getD {gs : List Rl} {k : Nat} (hk : k < gs.length) : gs.getD k ⟨ByteArray.empty, 0, 0⟩ = gs[k] := by
  rw [List.getD_eq_getElem?_getD, List.getElem?_eq_getElem hk]; rfl
/-- a rule of more than one letter is a pair -/
theorem long_pair {gs : List Rl} {k : Nat} {n : Int} (hfit : fits gs = true) (hk : k < gs.length) (h0 : 0 < n) (h1 : n < (lens gs).getD k 0) :
    gs[k].L.size = 0 ∧ ∃ a b : Nat, gs[k].l = a ∧ gs[k].r = b ∧ a < k ∧ b < k ∧ (lens gs).getD k 0 = (lens gs).getD a 0 + (lens gs).getD b 0 := by
  have hz : gs[k].L.size = 0 := by
    by_cases h : gs[k].L.size = 0
    · exact h
    · have := vals_letter (fun a b => a + b) gs k hk h
      unfold lens at h1; omega
  have hok := fits_at hfit k hk
  obtain ⟨⟨a1, a2⟩, b1, b2⟩ := (ok_pair hz).1 hok
  exact ⟨hz, gs[k].l.toNat, gs[k].r.toNat, by omega, by omega, by omega, by omega, vals_pair _ gs k hk hz hok⟩
theorem aft_pair {nx : List (List Int)} {gs : List Rl} {k f : Nat} {s n : Int} (hk : k < gs.length) (h0 : 0 < n) (h1 : n < (lens gs).getD k 0) {a b : Nat} (ha : gs[k].l = a) (hb : gs[k].r = b) :
    aft nx gs (f + 1) k s n = aft nx gs f b (aft nx gs f a s n) (n - (lens gs).getD a 0) := by
  rw [aft, if_neg (by omega), if_neg (by omega), gs_getD hk, ha, hb, Int.toNat_natCast, Int.toNat_natCast]
theorem aft_stable {nx : List (List Int)} {gs : List Rl} (hfit : fits gs = true) : ∀ f1 f2 k s n, k < gs.length → k < f1 → k < f2 → aft nx gs f1 k s n = aft nx gs f2 k s n
  | 0, f2, k, s, n, hk, h1, h2 => by omega
  | f1 + 1, 0, k, s, n, hk, h1, h2 => by omega
  | f1 + 1, f2 + 1, k, s, n, hk, h1, h2 => by
    by_cases h0 : n ≤ 0
    · rw [aft, aft, if_pos h0, if_pos h0]
    · by_cases hl : (lens gs).getD k 0 ≤ n
      · rw [aft, aft, if_neg h0, if_neg h0, if_pos hl, if_pos hl]
      · obtain ⟨hz, a, b, ha, hb, hak, hbk, _⟩ := long_pair (n := n) hfit hk (by omega) (by omega)
        rw [aft_pair hk (by omega) (by omega) ha hb, aft_pair hk (by omega) (by omega) ha hb, aft_stable hfit f1 f2 a s n (by omega) (by omega) (by omega), aft_stable hfit f1 f2 b _ _ (by omega) (by omega) (by omega)]
theorem aftS_zero {nx : List (List Int)} {gs : List Rl} {k : Nat} {s n : Int} (h : n ≤ 0) : aftS nx gs k s n = s := by
  rw [aftS, aft, if_pos h]
theorem aftS_full {nx : List (List Int)} {gs : List Rl} {k : Nat} {s n : Int} (h0 : 0 < n) (h : (lens gs).getD k 0 ≤ n) : aftS nx gs k s n = ((mapsK nx gs gs.length).getD k []).getD s.toNat 0 := by
  rw [aftS, aft, if_neg (by omega), if_pos h]
theorem aftS_pair {nx : List (List Int)} {gs : List Rl} {k : Nat} {s n : Int} (hfit : fits gs = true) (hk : k < gs.length) (h0 : 0 < n) (h1 : n < (lens gs).getD k 0) {a b : Nat} (ha : gs[k].l = a) (hb : gs[k].r = b) (hak : a < k) (hbk : b < k) :
    aftS nx gs k s n = aftS nx gs b (aftS nx gs a s n) (n - (lens gs).getD a 0) := by
  rw [aftS, aft_pair hk h0 h1 ha hb, aftS, aftS, aft_stable hfit k (a + 1) a s n (by omega) hak (by omega), aft_stable hfit k (b + 1) b _ _ (by omega) hbk (by omega)]
theorem aftS_right {nx : List (List Int)} {gs : List Rl} {k : Nat} {s n : Int} (hfit : fits gs = true) (hk : k < gs.length) (h0 : 0 < n) (h1 : n < (lens gs).getD k 0) {a b : Nat} (ha : gs[k].l = a) (hb : gs[k].r = b) (hak : a < k) (hbk : b < k) (hl : (lens gs).getD a 0 ≤ n) :
    aftS nx gs k s n = aftS nx gs b (((mapsK nx gs gs.length).getD a []).getD s.toNat 0) (n - (lens gs).getD a 0) := by
  rw [aftS_pair hfit hk h0 h1 ha hb hak hbk, aftS_full h0 hl]
theorem aftS_left {nx : List (List Int)} {gs : List Rl} {k : Nat} {s n : Int} (hfit : fits gs = true) (hk : k < gs.length) (h0 : 0 < n) (h1 : n < (lens gs).getD k 0) {a b : Nat} (ha : gs[k].l = a) (hb : gs[k].r = b) (hak : a < k) (hbk : b < k) (hl : n < (lens gs).getD a 0) :
    aftS nx gs k s n = aftS nx gs a s n := by
  rw [aftS_pair hfit hk h0 h1 ha hb hak hbk, aftS_zero (s := aftS nx gs a s n) (by omega)]
theorem maps_bd {nx : List (List Int)} {st : Int} {gs : List Rl} (h : nx.all (rowOk st) = true) (hl : (nx.length : Int) = st) (h1 : 1 ≤ st) (h24 : st ≤ 24) (hfit : fits gs = true) {k : Nat} (hk : k < gs.length) {s : Int} (hs : 0 ≤ s ∧ s < st) :
    0 ≤ ((mapsK nx gs gs.length).getD k []).getD s.toNat 0 ∧ ((mapsK nx gs gs.length).getD k []).getD s.toNat 0 < st := by
  obtain ⟨m1, m2⟩ := mapsK_ok h hl h1 h24 hfit gs.length (Nat.le_refl _) k hk
  have h2 : s.toNat < ((mapsK nx gs gs.length).getD k []).length := by rw [m1]; omega
  rw [List.getD_eq_getElem?_getD (i := s.toNat), List.getElem?_eq_getElem h2, Option.getD_some]
  exact m2 _ (List.getElem_mem h2)
theorem aftS_bd {nx : List (List Int)} {st : Int} {gs : List Rl} (h : nx.all (rowOk st) = true) (hl : (nx.length : Int) = st) (h1 : 1 ≤ st) (h24 : st ≤ 24) (hfit : fits gs = true) : ∀ m k s n, k < m → k < gs.length → (0 ≤ s ∧ s < st) → 0 ≤ aftS nx gs k s n ∧ aftS nx gs k s n < st
  | 0, k, s, n, hm, _, _ => by omega
  | m + 1, k, s, n, hm, hk, hs => by
    by_cases h0 : n ≤ 0
    · rw [aftS_zero h0]; exact hs
    · by_cases hll : (lens gs).getD k 0 ≤ n
      · rw [aftS_full (by omega) hll]; exact maps_bd h hl h1 h24 hfit hk hs
      · obtain ⟨hz, a, b, ha, hb, hak, hbk, _⟩ := long_pair (n := n) hfit hk (by omega) (by omega)
        rw [aftS_pair hfit hk (by omega) (by omega) ha hb hak hbk]
        exact aftS_bd h hl h1 h24 hfit m b _ _ (by omega) (by omega) (aftS_bd h hl h1 h24 hfit m a _ _ (by omega) (by omega) hs)
namespace Wd
/-- what the way down keeps -/
def AftRel (nx : List (List Int)) (gs : List Rl) (st T : Int) (k s n : Int) : Prop :=
  (n ≤ 0 → s = T) ∧ (0 < n → ∃ kk : Nat, k = kk ∧ kk < gs.length ∧ (0 ≤ s ∧ s < st) ∧ n ≤ (lens gs).getD kk 0 ∧ aftS nx gs kk s n = T)
end Wd
theorem aftRel_start {nx : List (List Int)} {gs : List Rl} {st s n : Int} (hs : 0 ≤ s ∧ s < st) (hn : 0 ≤ n ∧ n ≤ wordLen gs) : AftRel nx gs st (aftW nx gs s n) ((gs.length : Int) - 1) s n := by
  unfold aftW
  by_cases h0 : gs.length = 0
  · rw [if_pos h0]
    rw [wordLen_zero h0] at hn
    exact ⟨fun _ => rfl, fun h => by omega⟩
  · rw [if_neg h0]
    exact ⟨fun h => (aftS_zero h).symm, fun _ => ⟨gs.length - 1, by omega, by omega, hs, hn.2, rfl⟩⟩
theorem aftRel_right {nx : List (List Int)} {gs : List Rl} {st T s n : Int} {k a b : Nat} (h : nx.all (rowOk st) = true) (hl : (nx.length : Int) = st) (h1 : 1 ≤ st) (h24 : st ≤ 24) (hfit : fits gs = true) (hk : k < gs.length) (hs : 0 ≤ s ∧ s < st) (h0 : 0 < n) (hlt : n < (lens gs).getD k 0) (hT : aftS nx gs k s n = T)
    (ha : gs[k].l = a) (hb : gs[k].r = b) (hak : a < k) (hbk : b < k) (hsum : (lens gs).getD k 0 = (lens gs).getD a 0 + (lens gs).getD b 0) (hla : (lens gs).getD a 0 ≤ n) :
    AftRel nx gs st T b (((mapsK nx gs gs.length).getD a []).getD s.toNat 0) (n - (lens gs).getD a 0) := by
  rw [aftS_right hfit hk h0 hlt ha hb hak hbk hla] at hT
  refine ⟨fun hz => ?_, fun hp => ⟨b, rfl, by omega, maps_bd h hl h1 h24 hfit (by omega) hs, by omega, hT⟩⟩
  rw [aftS_zero hz] at hT
  exact hT
theorem aftRel_left {nx : List (List Int)} {gs : List Rl} {st T s n : Int} {k a b : Nat} (hfit : fits gs = true) (hk : k < gs.length) (hs : 0 ≤ s ∧ s < st) (h0 : 0 < n) (hlt : n < (lens gs).getD k 0) (hT : aftS nx gs k s n = T)
    (ha : gs[k].l = a) (hb : gs[k].r = b) (hak : a < k) (hbk : b < k) (hla : n < (lens gs).getD a 0) :
    AftRel nx gs st T a s n := by
  rw [aftS_left hfit hk h0 hlt ha hb hak hbk hla] at hT
  exact ⟨fun hz => by omega, fun hp => ⟨a, rfl, by omega, hs, by omega, hT⟩⟩
set_option maxRecDepth 100000 in
set_option maxHeartbeats 6400000 in
theorem l04After_any (pg B B2 : Nat) (lv mv : Value) (U : List Value) (nx : List (List Int)) (gs : List Rl) (st s0 n0 : Int) (w : World) (h1 : 1 ≤ st) (h24 : st ≤ 24) (hrow : nx.all (rowOk st) = true) (hlen : (nx.length : Int) = st) (hok : gOk gs = true) (hg : GP w pg gs) (hl : OwnsI w B lv (lens gs)) (hm : OwnM w B2 mv U (mapsN nx gs nx.length gs.length)) (hs : 0 ≤ s0 ∧ s0 < st) (hn : 0 ≤ n0 ∧ n0 ≤ wordLen gs) :
    Calls Try.prog 99 #[.pointer (some ⟨pg, 0, none⟩), lv, mv, .int .i64 ((gs.length : Int) - 1), .int .i64 s0, .int .i64 n0] w fun e w' => e = .returned (.int .i64 (aftW nx gs s0 n0)) ∧ Below w.heap.size w w' := by
  have hfit := (gOk_iff.1 hok).2.1
  have hmok := mapsK_ok hrow hlen h1 h24 hfit gs.length (Nat.le_refl _)
  have HST := Lib.hid (aftRel_start (nx := nx) (gs := gs) (st := st) hs hn)
  have hn15 : wordLen gs ≤ 1000000000000000 := by
    by_cases h0 : gs.length = 0
    · rw [wordLen_zero h0]; omega
    · exact small_at (gOk_iff.1 hok).2.2 (gs.length - 1) (by omega)
  have HSM := Lib.hid (fun j (hj : j < gs.length) => small_at (gOk_iff.1 hok).2.2 j hj)
  have HPO := Lib.hid (fun j (hj : j < gs.length) => lens_pos (gs := gs) (k := j) hj (fun i hi _ => fits_at hfit i hi))
  generalize aftW nx gs s0 n0 = T at *
  obtain ⟨gv, hgv, A, c, rfl, hr⟩ := hg
  have HR : Hid (∀ j (hj : j < gs.length), ∃ g, A = some ⟨g, 0, none⟩ ∧ w.cell? ⟨g, j * 3, none⟩ = some (.string gs[j].L) ∧ w.cell? ⟨g, j * 3 + 1, none⟩ = some (.int .i64 gs[j].l) ∧ w.cell? ⟨g, j * 3 + 2, none⟩ = some (.int .i64 gs[j].r)) := Lib.hid (fun j hj => by
    rcases hr with hr | ⟨g, rfl, hg, hc⟩
    · rw [hr] at hj; simp at hj
    · exact ⟨g, rfl, rules_cells hc hj⟩)
  have HX : Hid (∃ A2 c2, lv = .slice A2 gs.length c2 ∧ ∀ j (hj : j < gs.length), ∃ gx, A2 = some ⟨gx, 0, none⟩ ∧ w.cell? ⟨gx, j, none⟩ = some (.int .i64 ((lens gs).getD j 0))) := Lib.hid (by
    rcases hl.shape with ⟨rfl, h'⟩ | ⟨gx, cx, rfl, _⟩
    · have := lens_len gs; rw [h'] at this; simp at this
      exact ⟨none, 0, by rw [← this], fun j hj => by omega⟩
    · refine ⟨_, cx, by rw [lens_len], fun j hj => ⟨gx, rfl, ?_⟩⟩
      have := hl.cell j (by rw [lens_len]; exact hj)
      rw [this, List.getD_eq_getElem?_getD, List.getElem?_eq_getElem (by rw [lens_len]; exact hj), Option.getD_some])
  have HM : Hid (∃ A3 c3, mv = .slice A3 gs.length c3 ∧ ∀ j (hj : j < gs.length) t (ht : t < nx.length), ∃ gy ga ca, A3 = some ⟨gy, 0, none⟩ ∧ w.cell? ⟨gy, j, none⟩ = some (.slice (some ⟨ga, 0, none⟩) nx.length ca) ∧ w.cell? ⟨ga, t, none⟩ = some (.int .i64 (((mapsK nx gs gs.length).getD j []).getD t 0))) := Lib.hid (by
    have hUl : U.length = gs.length := by rw [hm.len, mapsN_len]
    rcases hm.shape with ⟨rfl, h0⟩ | ⟨gy, cy, rfl, _⟩
    · rw [h0] at hUl; simp at hUl
      exact ⟨none, 0, by rw [← hUl], fun j hj => by omega⟩
    · refine ⟨_, cy, by rw [hUl], fun j hj t ht => ?_⟩
      have hget := mapsN_get (nx := nx) (gs := gs) (N := nx.length) hj
      have hokj := hmok j hj
      have q1 := hm.outer
      have c1 := q1.cellAt j (by omega)
      rw [List.getElem?_eq_getElem (by omega)] at c1
      have hrw := hm.rows.row j _ _ (List.getElem?_eq_getElem (by omega)) hget
      have hl : (((mapsK nx gs gs.length).getD j []).take nx.length).length = nx.length := by rw [List.length_take, hokj.1]; omega
      generalize U[j]'(by omega) = u at *
      unfold OwnsI at hrw
      rw [hl] at hrw
      obtain ⟨ga, ca, rfl⟩ : ∃ ga ca, u = .slice (some ⟨ga, 0, none⟩) nx.length ca := by
        rcases hrw.2 with ⟨_, h0⟩ | ⟨ga, ca, cur, hv, _⟩
        · omega
        · exact ⟨ga, ca, hv⟩
      refine ⟨gy, ga, ca, rfl, c1, ?_⟩
      rw [hrw.cellAt t (by omega), iv_get _ t (by rw [hl]; exact ht), List.getElem_take, List.getD_eq_getElem?_getD (i := t), List.getElem?_eq_getElem (by rw [hokj.1]; omega)]
      rfl)
  obtain ⟨A2, c2, rfl, hX⟩ := HX.out
  obtain ⟨A3, c3, rfl, hM⟩ := HM.out
  have HX := Lib.hid hX
  have HM := Lib.hid hM
  have HROW := Lib.hid hrow
  have HLEN := Lib.hid hlen
  have HFIT := Lib.hid hfit
  clear hl hm hr hX hM hmok hok hfit hrow
  go_enter Try.func99, Try.ntmps99
  go_wp2_with fail
  go_loopw [3, 4, 5, 13] (fun kv sv nv _ wr => ∃ (k s n : Int), kv = .int .i64 k ∧ sv = .int .i64 s ∧ nv = .int .i64 n ∧ n ≤ 1000000000000000 ∧ AftRel nx gs st T k s n ∧ Below w.heap.size w wr) (fun kv _ _ _ _ => (intOf kv).toNat)
  case atStart => exact ⟨_, _, _, rfl, rfl, rfl, by omega, HST.out, Below.refl _ _⟩
  case round =>
    obtain ⟨k, s, n, rfl, rfl, rfl, hbig, hrl, hB⟩ := hrel
    obtain ⟨wo, rfl⟩ : ∃ wo : World, wo = wr := ⟨_, rfl⟩
    have HB := Lib.hid hB
    by_cases hn0 : 0 < n
    · obtain ⟨kk, rfl, hk, hss, hle, hT⟩ := hrl.2 hn0
      obtain ⟨t, rfl⟩ : ∃ t : Nat, s = t := ⟨s.toNat, by omega⟩
      have ht : t < nx.length := by have := HLEN.out; omega
      obtain ⟨gx, rfl, x0⟩ := HX.out kk hk
      have x1 := (hB.cell (lt_of_cell x0)).trans x0
      have p1 := (hB.cell (lt_of_cell hgv)).trans hgv
      have t0 : (0 : Int) ≤ (t : Int) := by omega
      have t1 : (t : Int) < (nx.length : Int) := by omega
      have k0 : (0 : Int) ≤ (kk : Int) := by omega
      have k1 : (kk : Int) < (gs.length : Int) := by omega
      have hdn : decide (0 < n) = true := decide_eq_true hn0
      by_cases hfull : n = (lens gs).getD kk 0
      · rw [aftS_full hn0 (by omega), Int.toNat_natCast] at hT
        obtain ⟨gy, ga, ca, rfl, y0, y1⟩ := HM.out kk hk t ht
        have z0 := (hB.cell (lt_of_cell y0)).trans y0
        have z1 := (hB.cell (lt_of_cell y1)).trans y1
        rw [hT] at z1
        rw [← hfull] at x1
        clear hrl hfull hT hB hle hss y0 y1 x0
        go_wp2_with fail
        go_ret
        exact ⟨rfl, HB.out⟩
      · obtain ⟨hz, a, b, ha, hb, hak, hbk, hsum⟩ := long_pair (n := n) HFIT.out hk hn0 (by omega)
        obtain ⟨g, rfl, r0, r1, r2⟩ := HR.out kk hk
        obtain ⟨gx', hgx, xa⟩ := HX.out a (by omega)
        injection hgx with hgx
        injection hgx with hgx
        subst hgx
        obtain ⟨gy, ga, ca, rfl, y0, y1⟩ := HM.out a (by omega) t ht
        have z0 := (hB.cell (lt_of_cell y0)).trans y0
        have z1 := (hB.cell (lt_of_cell y1)).trans y1
        have xb := (hB.cell (lt_of_cell xa)).trans xa
        have lx : gx < wo.heap.size := lt_of_cell xb
        have ly : gy < wo.heap.size := lt_of_cell z0
        have la' : ga < wo.heap.size := lt_of_cell z1
        have e0 := (hB.cell (lt_of_cell r0)).trans r0
        have e1 := (hB.cell (lt_of_cell r1)).trans r1
        have e2 := (hB.cell (lt_of_cell r2)).trans r2
        rw [empty_arr hz] at e0
        rw [ha] at e1
        rw [hb] at e2
        have hne : (n == (lens gs).getD kk 0) = false := by simpa using hfull
        have hsa := HSM.out a (by omega)
        have hpa := HPO.out a (by omega)
        have hsub : IntKind.i64.wrap (n - (lens gs).getD a 0) = n - (lens gs).getD a 0 := by rw [IntKind.wrap_i64]; omega
        have a0 : (0 : Int) ≤ (a : Int) := by omega
        have a1 : (a : Int) < (gs.length : Int) := by omega
        by_cases hla : (lens gs).getD a 0 ≤ n
        · have HN := Lib.hid (aftRel_right HROW.out HLEN.out h1 h24 HFIT.out hk hss hn0 (by omega) hT ha hb hak hbk hsum hla)
          rw [Int.toNat_natCast] at HN
          have hda : decide ((lens gs).getD a 0 ≤ n) = true := decide_eq_true hla
          generalize ((mapsK nx gs gs.length).getD a []).getD t 0 = z at *
          generalize (lens gs).getD a 0 = la at *
          generalize (lens gs).getD kk 0 = lk at *
          have HB2 := Lib.hid (hB.alloc hB.size (.cells #[.string ⟨#[]⟩, .int .i64 a, .int .i64 b] 141))
          clear hrl hT hle hss y0 y1 x0 xa r0 r1 r2 ha hb hz hB hsum hfull
          go_wp2_with fail
          go_roundw
          all_goals first | exact ⟨_, _, _, rfl, rfl, rfl, by omega, HN.out, HB2.out⟩ | (simp [intOf]; done) | (simp [intOf]; omega) | omega
        · have HN := Lib.hid (aftRel_left HFIT.out hk hss hn0 (by omega) hT ha hb hak hbk (by omega))
          have hda : decide ((lens gs).getD a 0 ≤ n) = false := decide_eq_false hla
          generalize (lens gs).getD a 0 = la at *
          generalize (lens gs).getD kk 0 = lk at *
          have HB2 := Lib.hid (hB.alloc hB.size (.cells #[.string ⟨#[]⟩, .int .i64 a, .int .i64 b] 141))
          clear hrl hT hle hss y0 y1 x0 xa r0 r1 r2 ha hb hz hB z0 z1 hsum hfull
          go_wp2_with fail
          go_roundw
          all_goals first | exact ⟨_, _, _, rfl, rfl, rfl, by omega, HN.out, HB2.out⟩ | (simp [intOf]; done) | (simp [intOf]; omega) | omega
    · have hsT := hrl.1 (by omega)
      subst hsT
      have hdn : decide (0 < n) = false := decide_eq_false hn0
      clear hrl hB
      go_wp2_with fail
      go_ret
      exact ⟨rfl, HB.out⟩
set_option maxRecDepth 100000 in
set_option maxHeartbeats 6400000 in
theorem specStateAfter (av : Value) (x : Au) (gv : Value) (gs : List Rl) (q : Int) (w : World) (hf : FewA x) (hx : IsAu w av x) (hfr : FewR gs) (hr : Rules w gv gs) :
    Calls Try.prog 38 #[av, .agg #[gv], .int .i64 q] w fun e w' => e = .returned (.tuple #[.int .i64 (stA x gs q).1, .int .i64 (stA x gs q).2]) ∧ Below w.heap.size w w' := by
  obtain ⟨st, go, fin, nx⟩ := x
  obtain ⟨f, n, rfl, hF, hN⟩ := hx
  simp only at hF hN
  have hb : Below w.heap.size w ((w.alloc (.cells #[.int .i64 st, .int .i64 go, f, n] 39)).alloc (.cells #[gv] 58)) := ((Below.refl _ w).alloc (Nat.le_refl _) _).alloc (by simp) _
  have hP : B4 ((w.alloc (.cells #[.int .i64 st, .int .i64 go, f, n] 39)).alloc (.cells #[gv] 58)) w.heap.size (.int .i64 st) (.int .i64 go) f n 39 := (B4.new w _ _ _ _ _).alloc _
  have hG : GP ((w.alloc (.cells #[.int .i64 st, .int .i64 go, f, n] 39)).alloc (.cells #[gv] 58)) (w.heap.size + 1) gs := by
    have := rules_gpT (hr.kept ((Below.refl _ w).alloc (Nat.le_refl _) (.cells #[.int .i64 st, .int .i64 go, f, n] 39))) 58
    rwa [show (w.alloc (.cells #[.int .i64 st, .int .i64 go, f, n] 39)).heap.size = w.heap.size + 1 from by simp] at this
  have HC := Lib.hid (l04Ok_any w.heap.size f n ⟨st, go, fin, nx⟩ _ hP (hF.kept hb) (hN.kept hb) hf)
  have HG := Lib.hid (fun W h => l02Ok_any (w.heap.size + 1) gs W hfr h)
  have HGP := Lib.hid hG
  have hgc0 : ((w.alloc (.cells #[.int .i64 st, .int .i64 go, f, n] 39)).alloc (.cells #[gv] 58)).cell? ⟨w.heap.size + 1, 0, none⟩ = some gv := by
    have := cell_new (w.alloc (.cells #[.int .i64 st, .int .i64 go, f, n] 39)) gv 58
    rwa [show (w.alloc (.cells #[.int .i64 st, .int .i64 go, f, n] 39)).heap.size = w.heap.size + 1 from by simp] at this
  have HGC := Lib.hid hgc0
  clear hgc0
  have HB := Lib.hid hb
  have HP := Lib.hid hP
  have HI := Lib.hid (fun W => inB_any q 0 (wordLen gs) W)
  have HN := Lib.hid (fun W (hW : Below w.heap.size w W) => hN.kept hW)
  obtain ⟨Af, cf, rfl⟩ := hF.shape
  obtain ⟨An, cn, rfl, hNx⟩ := hN
  obtain ⟨Ag, cg, rfl, hRx⟩ := hr
  clear hb hP hG hF hNx hRx
  unfold stA
  cases ha : aOk ⟨st, go, fin, nx⟩
  · rw [ha] at HC
    rw [if_neg (by simp)]
    clear ha
    go_enter Try.func38, Try.ntmps38
    go_wp2_with fail
    refine HC.out.mono ?_
    rintro e w3 ⟨rfl, hD⟩
    have HB3 := Lib.hid (HB.out.trans (hD.below _))
    clear hD
    go_wp2_with fail
    go_ret2
    exact ⟨rfl, HB3.out⟩
  · rw [ha] at HC
    obtain ⟨⟨h1, h24⟩, hrow, hlen⟩ := aOk_parts ha
    have hgo := aOk_go' ha
    simp only at h1 h24 hrow hlen hgo
    cases hok : gOk gs
    · rw [if_neg (by simp)]
      have HG2 : Hid (∀ W, GP W (w.heap.size + 1) gs → Calls Try.prog 89 #[.pointer (some ⟨w.heap.size + 1, 0, none⟩)] W fun e w' => e = .returned (.bool false) ∧ Below W.heap.size W w') := Lib.hid (fun W h => by have := HG.out W h; rwa [hok] at this)
      clear ha hok hrow hlen hgo
      go_enter Try.func38, Try.ntmps38
      go_wp2_with fail
      refine HC.out.mono ?_
      rintro e w3 ⟨rfl, hD⟩
      have HB3 := Lib.hid (HB.out.trans (hD.below _))
      have HG3 := Lib.hid (HGP.out.kept (hD.below _))
      clear hD
      go_wp2_with fail
      refine (HG2.out _ HG3.out).mono ?_
      rintro e w4 ⟨rfl, hB4⟩
      have HB4 := Lib.hid (HB3.out.trans (hB4.mono HB3.out.size))
      clear hB4
      go_wp2_with fail
      go_ret2
      exact ⟨rfl, HB4.out⟩
    · rw [if_pos ⟨rfl, rfl⟩]
      have HG2 : Hid (∀ W, GP W (w.heap.size + 1) gs → Calls Try.prog 89 #[.pointer (some ⟨w.heap.size + 1, 0, none⟩)] W fun e w' => e = .returned (.bool true) ∧ Below W.heap.size W w') := Lib.hid (fun W h => by have := HG.out W h; rwa [hok] at this)
      have hfit := (gOk_iff.1 hok).2.1
      have hn400 := gOk_len hok
      have HLE := Lib.hid (fun W (hg : GP W (w.heap.size + 1) gs) => l02Length_any (w.heap.size + 1) gs W hfr hg (gOk_fs hok))
      by_cases hs : 0 ≤ q ∧ q ≤ wordLen gs
      · rw [if_pos hs]
        rw [decide_eq_true hs] at HI
        have HLS : Hid (∀ W, GP W (w.heap.size + 1) gs → Calls Try.prog 98 #[.pointer (some ⟨w.heap.size + 1, 0, none⟩)] W fun e w' => ∃ x, e = .returned (.tuple #[x, .bool true]) ∧ OwnsI w' W.heap.size x (lens gs) ∧ Below W.heap.size W w') := Lib.hid (fun W hg => by
          refine (lengths_any (w.heap.size + 1) gs W hfr hg).mono ?_
          rintro e w' ⟨x, rfl, ho, hB⟩
          rw [hok]
          exact ⟨x, rfl, ho hok, hB⟩)
        have HM := Lib.hid (fun W (hb : Below w.heap.size w W) hg => l04Maps_any _ nx st (w.heap.size + 1) gs W h1 h24 hrow hlen (HN.out W hb) hfit hn400 hg)
        have HAF := Lib.hid (fun W B B2 lv mv U hg hl hm => l04After_any (w.heap.size + 1) B B2 lv mv U nx gs st go q W h1 h24 hrow hlen hok hg hl hm hgo hs)
        have hsub : IntKind.i64.wrap ((gs.length : Int) - 1) = (gs.length : Int) - 1 := by rw [IntKind.wrap_i64]; omega
        show Calls _ _ _ _ fun e w' => e = .returned (.tuple #[.int .i64 (aftW nx gs go q), .int .i64 0]) ∧ Below w.heap.size w w'
        generalize aftW nx gs go q = z at *
        generalize wordLen gs = L at *
        clear ha hok hrow hlen hs hfit hgo
        go_enter Try.func38, Try.ntmps38
        go_wp2_with fail
        refine HC.out.mono ?_
        rintro e w3 ⟨rfl, hD⟩
        have HB3 := Lib.hid (HB.out.trans (hD.below _))
        have HG3 := Lib.hid (HGP.out.kept (hD.below _))
        have HGC3 := Lib.hid (((hD.below _).cell (lt_of_cell HGC.out)).trans HGC.out)
        have HP3 := Lib.hid (HP.out.kept (hD.below _))
        clear hD
        go_wp2_with fail
        refine (HG2.out _ HG3.out).mono ?_
        rintro e w4 ⟨rfl, hB4⟩
        have HB4 := Lib.hid (HB3.out.trans (hB4.mono HB3.out.size))
        have HP4 := Lib.hid (HP3.out.kept hB4)
        have HG4 := Lib.hid (HG3.out.kept hB4)
        have HGC4 := Lib.hid ((hB4.cell (lt_of_cell HGC3.out)).trans HGC3.out)
        clear hB4
        go_wp2_with fail
        refine (HLE.out _ HG4.out).mono ?_
        rintro e w5 ⟨rfl, hB5⟩
        have HB5 := Lib.hid (HB4.out.trans (hB5.mono HB4.out.size))
        have HP5 := Lib.hid (HP4.out.kept hB5)
        have HG5 := Lib.hid (HG4.out.kept hB5)
        have HGC5 := Lib.hid ((hB5.cell (lt_of_cell HGC4.out)).trans HGC4.out)
        clear hB5
        go_wp2_with fail
        refine (HI.out _).mono ?_
        rintro e w6 ⟨rfl, rfl⟩
        go_wp2_with fail
        refine (HLS.out _ HG5.out).mono ?_
        rintro e w7 ⟨lv, rfl, ho, hB7⟩
        have HB7 := Lib.hid (HB5.out.trans (hB7.mono HB5.out.size))
        have HP7 := Lib.hid (HP5.out.kept hB7)
        have HG7 := Lib.hid (HG5.out.kept hB7)
        have HGC7 := Lib.hid ((hB7.cell (lt_of_cell HGC5.out)).trans HGC5.out)
        have HO7 := Lib.hid ho
        clear hB7 ho
        obtain ⟨⟨p0, p1, p2, p3⟩, _⟩ := blk4_cells HP7.out
        have hgc := HGC7.out
        have HC7 := Lib.hid (And.intro p1 (And.intro p3 hgc))
        go_upto_region 6 with fail
        go_region_held3 (fun w' => w'.cell? ⟨w.heap.size, 1, none⟩ = some (.int .i64 go) ∧ w'.cell? ⟨w.heap.size, 3, none⟩ = some (.slice An nx.length cn) ∧ w'.cell? ⟨w.heap.size + 1, 0, none⟩ = some (.slice Ag gs.length cg))
          (first | exact HC7.out | exact HC9.out | exact HC10.out | go_keep)
          (first
            | (go_at_call 100
               refine (HM.out _ ?_ ?_).mono ?_
               (first | exact HB7.out | exact below_drewN HB7.out 1 | exact below_drewN HB7.out _)
               (first | exact HG7.out | exact HG7.out.kept (below_drewN (Below.refl _ w7) 1))
               rintro e w9 ⟨mv, U, rfl, hm9, hB9⟩
               try have hB9 := below_undrew hB9
               have HM9 := Lib.hid hm9
               have HG9 := Lib.hid (HG7.out.kept hB9)
               have HO9 := Lib.hid (own_below HO7.out hB9 (Nat.le_refl _))
               have HB9 := Lib.hid (HB7.out.trans (hB9.mono HB7.out.size))
               have HC9 := Lib.hid (And.intro ((hB9.cell (lt_of_cell HC7.out.1)).trans HC7.out.1) (And.intro ((hB9.cell (lt_of_cell HC7.out.2.1)).trans HC7.out.2.1) ((hB9.cell (lt_of_cell HC7.out.2.2)).trans HC7.out.2.2)))
               clear hB9 hm9)
            | (go_at_call 99
               refine (HAF.out w9 _ _ _ _ _ HG9.out HO9.out HM9.out).mono ?_
               rintro e w10 ⟨rfl, hB10⟩
               have HC10 := Lib.hid (And.intro ((hB10.cell (lt_of_cell HC9.out.1)).trans HC9.out.1) (And.intro ((hB10.cell (lt_of_cell HC9.out.2.1)).trans HC9.out.2.1) ((hB10.cell (lt_of_cell HC9.out.2.2)).trans HC9.out.2.2)))
               have HB10 := Lib.hid (HB9.out.trans (hB10.mono HB9.out.size))
               clear hB10))
        all_goals
          clear p0 p1 p2 p3 hgc
          go_wp2_with fail
          go_ret2
          exact ⟨rfl, HB10.out⟩
      · rw [if_neg hs]
        rw [decide_eq_false hs] at HI
        generalize wordLen gs = L at *
        clear ha hok hrow hlen hs hfit hgo
        go_enter Try.func38, Try.ntmps38
        go_wp2_with fail
        refine HC.out.mono ?_
        rintro e w3 ⟨rfl, hD⟩
        have HB3 := Lib.hid (HB.out.trans (hD.below _))
        have HG3 := Lib.hid (HGP.out.kept (hD.below _))
        have HGC3 := Lib.hid (((hD.below _).cell (lt_of_cell HGC.out)).trans HGC.out)
        have HP3 := Lib.hid (HP.out.kept (hD.below _))
        clear hD
        go_wp2_with fail
        refine (HG2.out _ HG3.out).mono ?_
        rintro e w4 ⟨rfl, hB4⟩
        have HB4 := Lib.hid (HB3.out.trans (hB4.mono HB3.out.size))
        have HP4 := Lib.hid (HP3.out.kept hB4)
        have HG4 := Lib.hid (HG3.out.kept hB4)
        have HGC4 := Lib.hid ((hB4.cell (lt_of_cell HGC3.out)).trans HGC3.out)
        clear hB4
        go_wp2_with fail
        refine (HLE.out _ HG4.out).mono ?_
        rintro e w5 ⟨rfl, hB5⟩
        have HB5 := Lib.hid (HB4.out.trans (hB5.mono HB4.out.size))
        have HP5 := Lib.hid (HP4.out.kept hB5)
        have HG5 := Lib.hid (HG4.out.kept hB5)
        have HGC5 := Lib.hid ((hB5.cell (lt_of_cell HGC4.out)).trans HGC4.out)
        clear hB5
        go_wp2_with fail
        refine (HI.out _).mono ?_
        rintro e w6 ⟨rfl, rfl⟩
        go_wp2_with fail
        go_ret2
        exact ⟨rfl, HB5.out⟩
namespace Wd
/-- the function that goes down -/
abbrev leadV (Wb Qb : Nat) : Value := .func (.func 136) #[] #[.pointer (some ⟨Wb, 0, none⟩), .pointer (some ⟨Qb, 0, none⟩)]
/-- what it finds around it -/
structure LInv (Wb Qb : Nat) (gv lv mv : Value) (st0 : Int) (lo : Nat) (nx : List (List Int)) (gs : List Rl) (w : World) : Prop where
  b : B4 w Wb gv lv mv (.int .i64 st0) 122
  q : w.cell? ⟨Qb, 0, none⟩ = some (leadV Wb Qb)
  r : Rules w gv gs
  l : IsL w lv (lens gs)
  m : IsMs w lo mv (mapsK nx gs gs.length)
theorem LInv.kept {Wb Qb : Nat} {gv lv mv : Value} {st0 : Int} {lo : Nat} {nx : List (List Int)} {gs : List Rl} {w w' : World} (h : LInv Wb Qb gv lv mv st0 lo nx gs w) (hb : Below w.heap.size w w') : LInv Wb Qb gv lv mv st0 lo nx gs w' :=
  ⟨h.b.kept hb, (hb.cell (lt_of_cell h.q)).trans h.q, h.r.kept hb, h.l.kept hb, h.m.kept hb⟩
end Wd
set_option maxRecDepth 100000 in
set_option maxHeartbeats 6400000 in
theorem lead_pair (Wb Qb : Nat) (gv lv mv : Value) (st0 : Int) (lo : Nat) (nx : List (List Int)) (gs : List Rl) (k a b : Nat) (s n s1 z : Int) (w : World) (hI : LInv Wb Qb gv lv mv st0 lo nx gs w) (hk : k < gs.length) (h0 : gs[k].L.size = 0) (ha : gs[k].l = a) (hb : gs[k].r = b) (hak : a < k) (hbk : b < k)
    (hn0 : 0 < n) (hnl : n < (lens gs).getD k 0) (hbig : n ≤ 1000000000000000) (la0 : 1 ≤ (lens gs).getD a 0) (la1 : (lens gs).getD a 0 ≤ 1000000000000000)
    (hA : ∀ W, LInv Wb Qb gv lv mv st0 lo nx gs W → Calls Try.prog 136 #[.int .i64 a, .int .i64 s, .int .i64 n, .pointer (some ⟨Wb, 0, none⟩), .pointer (some ⟨Qb, 0, none⟩)] W fun e w' => e = .returned (.int .i64 s1) ∧ Below W.heap.size W w')
    (hB : ∀ W, LInv Wb Qb gv lv mv st0 lo nx gs W → Calls Try.prog 136 #[.int .i64 b, .int .i64 s1, .int .i64 (n - (lens gs).getD a 0), .pointer (some ⟨Wb, 0, none⟩), .pointer (some ⟨Qb, 0, none⟩)] W fun e w' => e = .returned (.int .i64 z) ∧ Below W.heap.size W w') :
    Calls Try.prog 136 #[.int .i64 k, .int .i64 s, .int .i64 n, .pointer (some ⟨Wb, 0, none⟩), .pointer (some ⟨Qb, 0, none⟩)] w fun e w' => e = .returned (.int .i64 z) ∧ Below w.heap.size w w' := by
  have HI := Lib.hid hI
  obtain ⟨hB4, hq, hr, hl, hm⟩ := hI
  obtain ⟨⟨p0, p1, p2, p3⟩, _⟩ := blk4_cells hB4
  obtain ⟨A1, c1, rfl, hr⟩ := hr
  rcases hr with hr | ⟨g, rfl, hg, hcc⟩
  · rw [hr] at hk; simp at hk
  obtain ⟨a0, a1, a2⟩ := rules_cells hcc hk
  have hlen := lens_len gs
  obtain ⟨A2, c2, rfl, h2⟩ := hl
  rcases h2 with h2 | ⟨g2, rfl, h2⟩
  · rw [h2] at hlen; simp at hlen; omega
  have ck := h2 k (by omega)
  have ca := h2 a (by omega)
  rw [show (lens gs)[k]'(by omega) = (lens gs).getD k 0 from by rw [List.getD_eq_getElem?_getD, List.getElem?_eq_getElem (by omega)]; rfl] at ck
  rw [show (lens gs)[a]'(by omega) = (lens gs).getD a 0 from by rw [List.getD_eq_getElem?_getD, List.getElem?_eq_getElem (by omega)]; rfl] at ca
  rw [empty_arr h0] at a0
  rw [ha] at a1
  rw [hb] at a2
  have hd : decide (n ≤ 0) = false := decide_eq_false (by omega)
  have hd2 : decide ((lens gs).getD k 0 ≤ n) = false := decide_eq_false (by omega)
  have hsub : IntKind.i64.wrap (n - (lens gs).getD a 0) = n - (lens gs).getD a 0 := by rw [IntKind.wrap_i64]; omega
  have HA := Lib.hid hA
  have HBc := Lib.hid hB
  have lb := hB4.lt
  have lq := lt_of_cell hq
  have lca := lt_of_cell ca
  obtain ⟨M, hM⟩ : ∃ M, M = (lens gs).length := ⟨_, rfl⟩
  have hkM : k < M := by omega
  have haM : a < M := by omega
  clear hm p2 p3 h2 hcc hA hB h0 ha hb hnl hbig la0 la1 hB4
  have HXL : ∀ W, LInv Wb Qb (.slice (some ⟨g, 0, none⟩) gs.length c1) (.slice (some g2) (lens gs).length c2) mv st0 lo nx gs W → LInv Wb Qb (.slice (some ⟨g, 0, none⟩) gs.length c1) (.slice (some g2) M c2) mv st0 lo nx gs W := fun W h => by rw [hM]; exact h
  rw [← hM] at p1 HI HA HBc
  clear HXL hM hlen
  generalize (lens gs).getD k 0 = lk at *
  generalize (lens gs).getD a 0 = la at *
  go_enter Try.func136, Try.ntmps136
  go_upto_region 2 with fail
  have hb2 := (Below.refl _ w).alloc (Nat.le_refl _) (.cells #[.string ⟨#[]⟩, .int .i64 a, .int .i64 b] 141)
  have HI2 := Lib.hid (HI.out.kept hb2)
  have c1' : (w.alloc (.cells #[.string ⟨#[]⟩, .int .i64 a, .int .i64 b] 141)).cell? ⟨w.heap.size, 1, none⟩ = some (.int .i64 a) := by rw [cell_of_row _ _ _ _ _ _ (heap_alloc_new w _)]; rfl
  have c2' : (w.alloc (.cells #[.string ⟨#[]⟩, .int .i64 a, .int .i64 b] 141)).cell? ⟨w.heap.size, 2, none⟩ = some (.int .i64 b) := by rw [cell_of_row _ _ _ _ _ _ (heap_alloc_new w _)]; rfl
  have q2 := (hb2.cell lq).trans hq
  have l2 := (hb2.cell (p := ⟨Wb, 1, none⟩) lb).trans p1
  have a2' := (hb2.cell lca).trans ca
  have hlt : w.heap.size < (w.alloc (.cells #[.string ⟨#[]⟩, .int .i64 a, .int .i64 b] 141)).heap.size := by simp
  generalize w.alloc (.cells #[.string ⟨#[]⟩, .int .i64 a, .int .i64 b] 141) = w2 at *
  have HH := Lib.hid (fun W (h : Below w2.heap.size w2 W) => And.intro ((h.cell (lt_of_cell q2)).trans q2) (And.intro ((h.cell (p := ⟨w.heap.size, 1, none⟩) hlt).trans c1') (And.intro ((h.cell (p := ⟨w.heap.size, 2, none⟩) hlt).trans c2') (And.intro ((h.cell (p := ⟨Wb, 1, none⟩) (lt_of_cell l2)).trans l2) ((h.cell (lt_of_cell a2')).trans a2')))))
  have HB2 := Lib.hid hb2
  have HA2 := Lib.hid (fun m => HA.out (w2.drewN m) (HI2.out.kept (below_drewN (Below.refl _ w2) m)))
  clear hb2 p0 p1 a0 a1 a2 ck ca hq lb lq lca hg
  go_region_held3 (fun w' => w'.cell? ⟨Qb, 0, none⟩ = some (leadV Wb Qb) ∧ w'.cell? ⟨w.heap.size, 1, none⟩ = some (.int .i64 a) ∧ w'.cell? ⟨w.heap.size, 2, none⟩ = some (.int .i64 b) ∧ w'.cell? ⟨Wb, 1, none⟩ = some (.slice (some g2) M c2) ∧ w'.cell? (g2.add a) = some (.int .i64 la))
    (first | go_keep | exact hSA | exact hSB)
    (first
      | (go_at_call_of 136 (Value.int .i64 a)
         refine (HA2.out _).mono ?_
         rintro e wA ⟨rfl, hBA⟩
         have hBA : Below w2.heap.size w2 wA := below_undrew hBA
         have hSA := HH.out _ hBA)
      | (go_at_call_of 136 (Value.int .i64 b)
         refine (HBc.out wA (HI2.out.kept hBA)).mono ?_
         rintro e wB ⟨rfl, hBB⟩
         have hBB := hBA.trans (hBB.mono hBA.size)
         have hSB := HH.out _ hBB))
  all_goals
    have HF := Lib.hid (HB2.out.trans (hBB.mono HB2.out.size))
    clear hSA hSB hBA hBB
    go_wp2_with fail
    go_ret
    exact ⟨rfl, HF.out⟩
theorem lead_any (Wb Qb : Nat) (gv lv mv : Value) (st0 : Int) (lo : Nat) (nx : List (List Int)) (gs : List Rl) (st : Int) (h1 : 1 ≤ st) (h24 : st ≤ 24) (hrow : nx.all (rowOk st) = true) (hlen : (nx.length : Int) = st) (hok : gOk gs = true) : ∀ m k s n, k < m → k < gs.length → (0 ≤ s ∧ s < st) → n ≤ 1000000000000000 → ∀ W, LInv Wb Qb gv lv mv st0 lo nx gs W →
    Calls Try.prog 136 #[.int .i64 k, .int .i64 s, .int .i64 n, .pointer (some ⟨Wb, 0, none⟩), .pointer (some ⟨Qb, 0, none⟩)] W fun e w' => e = .returned (.int .i64 (aftS nx gs k s n)) ∧ Below W.heap.size W w'
  | 0, k, s, n, hm, _, _, _, _, _ => by omega
  | m + 1, k, s, n, hm, hk, hs, hbig, W, hI => by
    have hfit := (gOk_iff.1 hok).2.1
    by_cases h0 : n ≤ 0
    · rw [aftS_zero h0]
      refine (lead_zero k s n _ _ h0 W).mono ?_
      rintro e w' ⟨rfl, rfl⟩
      exact ⟨rfl, Below.refl _ _⟩
    · by_cases hl : (lens gs).getD k 0 ≤ n
      · rw [aftS_full (by omega) hl]
        refine (lead_full k s n Wb _ gv lv mv st0 (lens gs) (mapsK nx gs gs.length) lo W hI.b hI.l hI.m (by rw [lens_len]; exact hk) (by rw [mapsK_len]; exact hk) (by omega) hl (by omega)).mono ?_
        rintro e w' ⟨rfl, rfl⟩
        exact ⟨rfl, Below.refl _ _⟩
      · obtain ⟨hz, a, b, ha, hb, hak, hbk, hsum⟩ := long_pair (n := n) hfit hk (by omega) (by omega)
        have pa := lens_pos (gs := gs) (k := a) (by omega) (fun j hj _ => fits_at hfit j hj)
        have sa := small_at (gOk_iff.1 hok).2.2 a (by omega)
        rw [aftS_pair hfit hk (by omega) (by omega) ha hb hak hbk]
        exact lead_pair Wb Qb gv lv mv st0 lo nx gs k a b s n _ _ W hI hk hz ha hb hak hbk (by omega) (by omega) hbig pa sa (fun W' hI' => lead_any Wb Qb gv lv mv st0 lo nx gs st h1 h24 hrow hlen hok m a s n (by omega) (by omega) hs hbig W' hI') (fun W' hI' => lead_any Wb Qb gv lv mv st0 lo nx gs st h1 h24 hrow hlen hok m b _ _ (by omega) (by omega) (aftS_bd hrow hlen h1 h24 hfit (a + 1) a s n (by omega) (by omega) hs) (by omega) W' hI')
set_option maxRecDepth 100000 in
set_option maxHeartbeats 3200000 in
theorem after_any (wv gv : Value) (gs : List Rl) (nx : List (List Int)) (st s n : Int) (lo : Nat) (w : World) (h1 : 1 ≤ st) (h24 : st ≤ 24) (hrow : nx.all (rowOk st) = true) (hlen : (nx.length : Int) = st) (hok : gOk gs = true) (hr : Rules w gv gs) (hW : IsW w lo wv gv gs nx s) (hs : 0 ≤ s ∧ s < st) (hn : 0 ≤ n ∧ n ≤ wordLen gs) :
    Calls Try.prog 102 #[wv, .int .i64 n] w fun e w' => e = .returned (.int .i64 (aftW nx gs s n)) ∧ Below w.heap.size w w' := by
  have hmf : ∀ (fn : Fn) (first cap : Array Value) (w : World), (Instr.makeFunc fn first cap).run Try.prog w = .ok (.func fn first cap) w := fun _ _ _ _ => rfl
  obtain ⟨lv, mv, rfl, h2, h3⟩ := hW
  have hn400 := gOk_len hok
  have hfit := (gOk_iff.1 hok).2.1
  have hb : Below w.heap.size w ((w.alloc (.cells #[gv, lv, mv, .int .i64 s] 122)).alloc (.cells #[.func (.func 136) #[] #[.pointer (some ⟨w.heap.size, 0, none⟩), .pointer (some ⟨w.heap.size + 1, 0, none⟩)]] 172)) := ((Below.refl _ w).alloc (Nat.le_refl _) _).alloc (by simp) _
  have hP : B4 ((w.alloc (.cells #[gv, lv, mv, .int .i64 s] 122)).alloc (.cells #[.func (.func 136) #[] #[.pointer (some ⟨w.heap.size, 0, none⟩), .pointer (some ⟨w.heap.size + 1, 0, none⟩)]] 172)) w.heap.size gv lv mv (.int .i64 s) 122 := (B4.new w _ _ _ _ _).alloc _
  have hQ := heap_alloc_new (w.alloc (.cells #[gv, lv, mv, .int .i64 s] 122)) (.cells #[.func (.func 136) #[] #[.pointer (some ⟨w.heap.size, 0, none⟩), .pointer (some ⟨w.heap.size + 1, 0, none⟩)]] 172)
  rw [show (w.alloc (.cells #[gv, lv, mv, .int .i64 s] 122)).heap.size = w.heap.size + 1 from by simp] at hQ
  have hq := cell_of_row _ _ 0 _ _ _ hQ
  have HLD : Hid (∀ W, Below ((w.alloc (.cells #[gv, lv, mv, .int .i64 s] 122)).alloc (.cells #[.func (.func 136) #[] #[.pointer (some ⟨w.heap.size, 0, none⟩), .pointer (some ⟨w.heap.size + 1, 0, none⟩)]] 172)).heap.size ((w.alloc (.cells #[gv, lv, mv, .int .i64 s] 122)).alloc (.cells #[.func (.func 136) #[] #[.pointer (some ⟨w.heap.size, 0, none⟩), .pointer (some ⟨w.heap.size + 1, 0, none⟩)]] 172)) W → Calls Try.prog 136 #[.int .i64 ((gs.length : Int) - 1), .int .i64 s, .int .i64 n, .pointer (some ⟨w.heap.size, 0, none⟩), .pointer (some ⟨w.heap.size + 1, 0, none⟩)] W fun e w' => e = .returned (.int .i64 (aftW nx gs s n)) ∧ Below W.heap.size W w') := Lib.hid (fun W hW => by
    unfold aftW
    by_cases h0 : gs.length = 0
    · rw [if_pos h0]
      refine (lead_zero _ s n _ _ (by rw [wordLen_zero h0] at hn; omega) W).mono ?_
      rintro e w' ⟨rfl, rfl⟩
      exact ⟨rfl, Below.refl _ _⟩
    · rw [if_neg h0]
      have hk : ((gs.length : Int) - 1) = ((gs.length - 1 : Nat) : Int) := by omega
      rw [hk]
      have hbd : wordLen gs ≤ 1000000000000000 := small_at (gOk_iff.1 hok).2.2 (gs.length - 1) (by omega)
      exact lead_any w.heap.size (w.heap.size + 1) gv lv mv s lo nx gs st h1 h24 hrow hlen hok gs.length (gs.length - 1) s n (by omega) (by omega) hs (by omega) W ⟨hP.kept hW, (hW.cell (lt_of_cell hq)).trans hq, (hr.kept hb).kept hW, ((IsL.of_own h2).kept hb).kept hW, (h3.kept hb).kept hW⟩)
  have HB := Lib.hid hb
  obtain ⟨⟨p0, p1, p2, p3⟩, _⟩ := blk4_cells hP
  obtain ⟨Ag, cg, rfl, hRx⟩ := hr
  obtain ⟨A2, c2, rfl⟩ := own_slice h2
  obtain ⟨A3, c3, rfl, h3x⟩ := h3
  have HLO := Lib.hid (fun W => lastOf_any Ag gs.length cg hn400 W)
  generalize aftW nx gs s n = z at *
  clear hok hs hn hrow hlen hn400 hfit hRx h3x h2 hP hQ
  go_enter Try.func102, Try.ntmps102
  go_upto_region 3 with fail
  generalize (w.alloc (.cells #[.slice Ag gs.length cg, .slice A2 (lens gs).length c2, .slice A3 (mapsK nx gs gs.length).length c3, .int .i64 s] 122)).alloc (.cells #[.func (.func 136) #[] #[.pointer (some ⟨w.heap.size, 0, none⟩), .pointer (some ⟨w.heap.size + 1, 0, none⟩)]] 172) = w2 at *
  have hq : w2.cell? ⟨w.heap.size + 1, 0, none⟩ = some (.func (.func 136) #[] #[.pointer (some ⟨w.heap.size, 0, none⟩), .pointer (some ⟨w.heap.size + 1, 0, none⟩)]) := hq
  have HLE := Lib.hid (fun m => HLD.out (w2.drewN m) (below_drewN (Below.refl _ w2) m))
  have HLE0 := Lib.hid (HLD.out w2 (Below.refl _ w2))
  clear hb HLD
  have lq := lt_of_cell hq
  have HQ := Lib.hid hq
  go_region_held3 (fun w' => w'.cell? ⟨w.heap.size + 1, 0, none⟩ = some (leadV w.heap.size (w.heap.size + 1)) ∧ w'.cell? ⟨w.heap.size, 0, none⟩ = some (.slice Ag gs.length cg) ∧ w'.cell? ⟨w.heap.size, 3, none⟩ = some (.int .i64 s))
    (first | exact HS.out | exact HS9.out | go_keep)
    (first
      | (go_at_call 137
         refine (HLO.out _).mono ?_
         rintro e w8 ⟨rfl, rfl⟩)
      | (go_at_call 136
         refine (HLE.out _).mono ?_
         rintro e w9 ⟨rfl, hB9⟩
         have hB9 : Below w2.heap.size w2 w9 := below_undrew hB9
         have HS9 := Lib.hid (And.intro ((hB9.cell lq).trans HQ.out) (And.intro ((hB9.cell (lt_of_cell p0)).trans p0) ((hB9.cell (lt_of_cell p3)).trans p3)))
         have HB9 := Lib.hid (HB.out.trans (hB9.mono HB.out.size))
         clear hB9))
  all_goals
    go_wp2_with fail
    go_ret
    exact ⟨rfl, HB9.out⟩
set_option maxRecDepth 100000 in
set_option maxHeartbeats 6400000 in
theorem implStateAfter (av : Value) (x : Au) (gv : Value) (gs : List Rl) (q : Int) (w : World) (hf : FewA x) (hx : IsAu w av x) (hfr : FewR gs) (hr : Rules w gv gs) :
    Calls Try.prog 39 #[av, .agg #[gv], .int .i64 q] w fun e w' => e = .returned (.tuple #[.int .i64 (stA x gs q).1, .int .i64 (stA x gs q).2]) ∧ Below w.heap.size w w' := by
  have HIS := Lib.hid (fun W (hb : Below w.heap.size w W) => hx.kept hb)
  have HRU := Lib.hid (fun W (hb : Below w.heap.size w W) => hr.kept hb)
  obtain ⟨st, go, fin, nx⟩ := x
  obtain ⟨f, n, rfl, hF, hN⟩ := hx
  simp only at hF hN
  have hb : Below w.heap.size w ((w.alloc (.cells #[.int .i64 st, .int .i64 go, f, n] 39)).alloc (.cells #[gv] 58)) := ((Below.refl _ w).alloc (Nat.le_refl _) _).alloc (by simp) _
  have hP : B4 ((w.alloc (.cells #[.int .i64 st, .int .i64 go, f, n] 39)).alloc (.cells #[gv] 58)) w.heap.size (.int .i64 st) (.int .i64 go) f n 39 := (B4.new w _ _ _ _ _).alloc _
  have hg : ((w.alloc (.cells #[.int .i64 st, .int .i64 go, f, n] 39)).alloc (.cells #[gv] 58)).cell? ⟨w.heap.size + 1, 0, none⟩ = some gv := by
    have := cell_new (w.alloc (.cells #[.int .i64 st, .int .i64 go, f, n] 39)) gv 58
    rwa [show (w.alloc (.cells #[.int .i64 st, .int .i64 go, f, n] 39)).heap.size = w.heap.size + 1 from by simp] at this
  have HWO := Lib.hid (walkOfAuto_any _ ⟨st, go, fin, nx⟩ gv gs _ hf (HIS.out _ hb) hfr (HRU.out _ hb))
  have HB := Lib.hid hb
  have HP := Lib.hid hP
  obtain ⟨Af, cf, rfl⟩ := hF.shape
  obtain ⟨An, cn, rfl, hNx⟩ := hN
  obtain ⟨Ag, cg, rfl, hRx⟩ := hr
  obtain ⟨⟨p0, p1, p2, p3⟩, _⟩ := blk4_cells hP
  clear hb hP hF hNx hRx
  unfold stA
  cases hall : (aOk ⟨st, go, fin, nx⟩ && gOk gs)
  · rw [hall] at HWO
    rw [if_neg (by intro h; rw [h.1, h.2] at hall; cases hall)]
    clear hall
    go_enter Try.func39, Try.ntmps39
    go_wp2_with fail
    refine HWO.out.mono ?_
    rintro e w3 ⟨wv, rfl, _, hz, hB3⟩
    have hz := hz trivial
    subst hz
    have HB3 := Lib.hid (HB.out.trans (hB3.mono HB.out.size))
    unfold zeroW
    clear hB3
    go_wp2_with fail
    go_ret2
    exact ⟨rfl, HB3.out.alloc HB3.out.size _⟩
  · rw [hall] at HWO
    rw [Bool.and_eq_true] at hall
    rw [if_pos hall]
    obtain ⟨⟨h1, h24⟩, hrow, hlen⟩ := aOk_parts hall.1
    have hgo := aOk_go' hall.1
    simp only at h1 h24 hrow hlen hgo
    have hwl : (lens gs).getD ((lens gs).length - 1) 0 = wordLen gs := by rw [lens_len]; rfl
    have HWL := Lib.hid (fun v W h => wordLen_any v (lens gs) (by rw [lens_len]; exact gOk_len hall.2) W h)
    rw [hwl] at HWL
    clear hwl
    by_cases hs : 0 ≤ q ∧ q ≤ wordLen gs
    · rw [if_pos hs]
      have HE := Lib.hid (fun W wv lo (hb : Below w.heap.size w W) hW => after_any wv (.slice Ag gs.length cg) gs nx st go q lo W h1 h24 hrow hlen hall.2 (HRU.out W hb) hW hgo hs)
      have hd1 : decide (q < 0) = false := decide_eq_false (by omega)
      have hd2 : decide (wordLen gs < q) = false := decide_eq_false (by omega)
      show Calls _ _ _ _ fun e w' => e = .returned (.tuple #[.int .i64 (aftW nx gs go q), .int .i64 0]) ∧ Below w.heap.size w w'
      generalize aftW nx gs go q = z at *
      generalize wordLen gs = L at *
      clear hall hrow hlen hs hgo
      go_enter Try.func39, Try.ntmps39
      go_wp2_with fail
      refine HWO.out.mono ?_
      rintro e w3 ⟨wv, rfl, hyes, _, hB3⟩
      have hw3 := hyes trivial
      have HB3 := Lib.hid (HB.out.trans (hB3.mono HB.out.size))
      have HW3 := Lib.hid hw3
      obtain ⟨A2, c2, A3, c3, rfl⟩ := hw3.shape
      clear hyes hw3 hB3 p0 p1 p2 p3 hg
      have hb4 := (Below.refl _ w3).alloc (Nat.le_refl _) (.cells #[.slice Ag gs.length cg, .slice A2 (lens gs).length c2, .slice A3 gs.length c3, .int .i64 go] 122)
      have HW4 := Lib.hid (HW3.out.kept hb4)
      have HB4 := Lib.hid (HB3.out.trans (hb4.mono HB3.out.size))
      have HL4 : Hid (IsL (w3.alloc (.cells #[.slice Ag gs.length cg, .slice A2 (lens gs).length c2, .slice A3 gs.length c3, .int .i64 go] 122)) (.slice A2 (lens gs).length c2) (lens gs)) := Lib.hid (by
        obtain ⟨lv, mv, hv, h2, h3⟩ := HW4.out
        injection hv with hv
        injection hv with hv
        injection hv with _ hv
        injection hv with hl hv
        subst hl
        exact IsL.of_own h2)
      clear hb4
      go_wp2_with fail
      refine (HWL.out _ _ HL4.out).mono ?_
      rintro e w5 ⟨rfl, rfl⟩
      go_wp2_with fail
      refine (HE.out _ _ _ HB4.out HW4.out).mono ?_
      rintro e w6 ⟨rfl, hB6⟩
      have HB6 := Lib.hid (HB4.out.trans (hB6.mono HB4.out.size))
      clear hB6
      go_wp2_with fail
      go_ret2
      exact ⟨rfl, HB6.out⟩
    · rw [if_neg hs]
      by_cases hq0 : q < 0
      · have hd1 : decide (q < 0) = true := decide_eq_true hq0
        generalize wordLen gs = L at *
        clear hall hrow hlen hs hgo hq0
        go_enter Try.func39, Try.ntmps39
        go_wp2_with fail
        refine HWO.out.mono ?_
        rintro e w3 ⟨wv, rfl, hyes, _, hB3⟩
        have hw3 := hyes trivial
        have HB3 := Lib.hid (HB.out.trans (hB3.mono HB.out.size))
        have HW3 := Lib.hid hw3
        obtain ⟨A2, c2, A3, c3, rfl⟩ := hw3.shape
        clear hyes hw3 hB3 p0 p1 p2 p3 hg
        have hb4 := (Below.refl _ w3).alloc (Nat.le_refl _) (.cells #[.slice Ag gs.length cg, .slice A2 (lens gs).length c2, .slice A3 gs.length c3, .int .i64 go] 122)
        have HW4 := Lib.hid (HW3.out.kept hb4)
        have HB4 := Lib.hid (HB3.out.trans (hb4.mono HB3.out.size))
        have HL4 : Hid (IsL (w3.alloc (.cells #[.slice Ag gs.length cg, .slice A2 (lens gs).length c2, .slice A3 gs.length c3, .int .i64 go] 122)) (.slice A2 (lens gs).length c2) (lens gs)) := Lib.hid (by
          obtain ⟨lv, mv, hv, h2, h3⟩ := HW4.out
          injection hv with hv
          injection hv with hv
          injection hv with _ hv
          injection hv with hl hv
          subst hl
          exact IsL.of_own h2)
        clear hb4
        go_wp2_with fail
        go_ret2
        exact ⟨rfl, HB4.out⟩
      · have hd1 : decide (q < 0) = false := decide_eq_false hq0
        have hd2 : decide (wordLen gs < q) = true := decide_eq_true (by omega)
        generalize wordLen gs = L at *
        clear hall hrow hlen hs hgo hq0
        go_enter Try.func39, Try.ntmps39
        go_wp2_with fail
        refine HWO.out.mono ?_
        rintro e w3 ⟨wv, rfl, hyes, _, hB3⟩
        have hw3 := hyes trivial
        have HB3 := Lib.hid (HB.out.trans (hB3.mono HB.out.size))
        have HW3 := Lib.hid hw3
        obtain ⟨A2, c2, A3, c3, rfl⟩ := hw3.shape
        clear hyes hw3 hB3 p0 p1 p2 p3 hg
        have hb4 := (Below.refl _ w3).alloc (Nat.le_refl _) (.cells #[.slice Ag gs.length cg, .slice A2 (lens gs).length c2, .slice A3 gs.length c3, .int .i64 go] 122)
        have HW4 := Lib.hid (HW3.out.kept hb4)
        have HB4 := Lib.hid (HB3.out.trans (hb4.mono HB3.out.size))
        have HL4 : Hid (IsL (w3.alloc (.cells #[.slice Ag gs.length cg, .slice A2 (lens gs).length c2, .slice A3 gs.length c3, .int .i64 go] 122)) (.slice A2 (lens gs).length c2) (lens gs)) := Lib.hid (by
          obtain ⟨lv, mv, hv, h2, h3⟩ := HW4.out
          injection hv with hv
          injection hv with hv
          injection hv with _ hv
          injection hv with hl hv
          subst hl
          exact IsL.of_own h2)
        clear hb4
        go_wp2_with fail
        refine (HWL.out _ _ HL4.out).mono ?_
        rintro e w5 ⟨rfl, rfl⟩
        go_wp2_with fail
        go_ret2
        exact ⟨rfl, HB4.out⟩
end Go.Proofs.Ytddjcgaejjldbaa
