/-
  Contracts and numbers of the functions that the laws of this place call, one text behind the other. No condition beyond those that each theorem names.
-/
import Derived.Test.YtaffachjopjbgaaZ1
import Derived.Test.YtaffachjopjbgaaZ5
import Derived.Test.YtaffachjopjbgaaZ6
import Derived.Test.YtaffachjopjbgaaZ7
import Derived.Test.YtaffachjopjbgaaZ9
import Derived.Deep.RegionHeld3
import Derived.Deep.QuietTactic
import Derived.BigQuiet
namespace Go.Proofs.Ytaffachjopjbgaa
open Go.RowKit
open Wd
set_option linter.unusedVariables false
namespace Wd
/-- how many visits lie within the first letters -/
def winF (wa : Int → Bool) (nx : List (List Int)) (gs : List Rl) : Nat → Nat → Nat → Int → Int
  | 0, _, _, _ => 0
  | f + 1, k, s, n =>
    if n ≤ 0 then 0 else if (lens gs).getD k 0 ≤ n then at2 (visK wa nx gs gs.length) k s
    else winF wa nx gs f (gs.getD k ⟨ByteArray.empty, 0, 0⟩).l.toNat s n + winF wa nx gs f (gs.getD k ⟨ByteArray.empty, 0, 0⟩).r.toNat (at2 (mapsK nx gs gs.length) (gs.getD k ⟨ByteArray.empty, 0, 0⟩).l.toNat s).toNat (n - (lens gs).getD (gs.getD k ⟨ByteArray.empty, 0, 0⟩).l.toNat 0)
/-- behind how many letters the next visit is, -1 if there is none -/
def nxtF (wa : Int → Bool) (nx : List (List Int)) (gs : List Rl) : Nat → Nat → Nat → Int → Int
  | 0, _, _, _ => -1
  | f + 1, k, s, n =>
    if n ≤ 0 then at2 (firK wa nx gs gs.length) k s else if (lens gs).getD k 0 ≤ n then -1
    else if (lens gs).getD (gs.getD k ⟨ByteArray.empty, 0, 0⟩).l.toNat 0 ≤ n then
      (if 0 ≤ nxtF wa nx gs f (gs.getD k ⟨ByteArray.empty, 0, 0⟩).r.toNat (at2 (mapsK nx gs gs.length) (gs.getD k ⟨ByteArray.empty, 0, 0⟩).l.toNat s).toNat (n - (lens gs).getD (gs.getD k ⟨ByteArray.empty, 0, 0⟩).l.toNat 0) then (lens gs).getD (gs.getD k ⟨ByteArray.empty, 0, 0⟩).l.toNat 0 + nxtF wa nx gs f (gs.getD k ⟨ByteArray.empty, 0, 0⟩).r.toNat (at2 (mapsK nx gs gs.length) (gs.getD k ⟨ByteArray.empty, 0, 0⟩).l.toNat s).toNat (n - (lens gs).getD (gs.getD k ⟨ByteArray.empty, 0, 0⟩).l.toNat 0) else -1)
    else if 0 ≤ nxtF wa nx gs f (gs.getD k ⟨ByteArray.empty, 0, 0⟩).l.toNat s n then nxtF wa nx gs f (gs.getD k ⟨ByteArray.empty, 0, 0⟩).l.toNat s n
    else if 0 ≤ at2 (firK wa nx gs gs.length) (gs.getD k ⟨ByteArray.empty, 0, 0⟩).r.toNat (at2 (mapsK nx gs gs.length) (gs.getD k ⟨ByteArray.empty, 0, 0⟩).l.toNat s).toNat then (lens gs).getD (gs.getD k ⟨ByteArray.empty, 0, 0⟩).l.toNat 0 + at2 (firK wa nx gs gs.length) (gs.getD k ⟨ByteArray.empty, 0, 0⟩).r.toNat (at2 (mapsK nx gs gs.length) (gs.getD k ⟨ByteArray.empty, 0, 0⟩).l.toNat s).toNat else -1
end Wd
theorem win_zeroF (wa : Int → Bool) (nx : List (List Int)) (gs : List Rl) (f k s : Nat) {n : Int} (h : n ≤ 0) : winF wa nx gs f k s n = 0 := by
  cases f with
  | zero => rfl
  | succ f => rw [winF, if_pos h]
theorem win_fullF (wa : Int → Bool) (nx : List (List Int)) (gs : List Rl) {f k s : Nat} {n : Int} (h0 : 0 < n) (h : (lens gs).getD k 0 ≤ n) : winF wa nx gs (f + 1) k s n = at2 (visK wa nx gs gs.length) k s := by
  rw [winF, if_neg (by omega), if_pos h]
theorem win_pairF (wa : Int → Bool) (nx : List (List Int)) {gs : List Rl} {f k a b s : Nat} {n : Int} (hk : k < gs.length) (ha : gs[k].l = a) (hb : gs[k].r = b) (h0 : 0 < n) (h : n < (lens gs).getD k 0) :
    winF wa nx gs (f + 1) k s n = winF wa nx gs f a s n + winF wa nx gs f b (at2 (mapsK nx gs gs.length) a s).toNat (n - (lens gs).getD a 0) := by
  have hg : gs.getD k ⟨ByteArray.empty, 0, 0⟩ = gs[k] := by rw [List.getD_eq_getElem?_getD, List.getElem?_eq_getElem hk]; rfl
  rw [winF, hg, if_neg (by omega), if_neg (by omega), ha, hb, Int.toNat_natCast, Int.toNat_natCast]
theorem nxt_zeroF (wa : Int → Bool) (nx : List (List Int)) (gs : List Rl) {f k s : Nat} {n : Int} (h : n ≤ 0) : nxtF wa nx gs (f + 1) k s n = at2 (firK wa nx gs gs.length) k s := by
  rw [nxtF, if_pos h]
theorem nxt_fullF (wa : Int → Bool) (nx : List (List Int)) (gs : List Rl) {f k s : Nat} {n : Int} (h0 : 0 < n) (h : (lens gs).getD k 0 ≤ n) : nxtF wa nx gs (f + 1) k s n = -1 := by
  rw [nxtF, if_neg (by omega), if_pos h]
theorem nxt_rightF (wa : Int → Bool) (nx : List (List Int)) {gs : List Rl} {f k a b s : Nat} {n : Int} (hk : k < gs.length) (ha : gs[k].l = a) (hb : gs[k].r = b) (h0 : 0 < n) (h : n < (lens gs).getD k 0) (hl : (lens gs).getD a 0 ≤ n) :
    nxtF wa nx gs (f + 1) k s n = if 0 ≤ nxtF wa nx gs f b (at2 (mapsK nx gs gs.length) a s).toNat (n - (lens gs).getD a 0) then (lens gs).getD a 0 + nxtF wa nx gs f b (at2 (mapsK nx gs gs.length) a s).toNat (n - (lens gs).getD a 0) else -1 := by
  have hg : gs.getD k ⟨ByteArray.empty, 0, 0⟩ = gs[k] := by rw [List.getD_eq_getElem?_getD, List.getElem?_eq_getElem hk]; rfl
  rw [nxtF, hg, if_neg (by omega), if_neg (by omega), ha, hb, Int.toNat_natCast, Int.toNat_natCast, if_pos hl]
theorem nxt_leftF (wa : Int → Bool) (nx : List (List Int)) {gs : List Rl} {f k a b s : Nat} {n : Int} (hk : k < gs.length) (ha : gs[k].l = a) (hb : gs[k].r = b) (h0 : 0 < n) (h : n < (lens gs).getD k 0) (hl : n < (lens gs).getD a 0) :
    nxtF wa nx gs (f + 1) k s n = if 0 ≤ nxtF wa nx gs f a s n then nxtF wa nx gs f a s n else if 0 ≤ at2 (firK wa nx gs gs.length) b (at2 (mapsK nx gs gs.length) a s).toNat then (lens gs).getD a 0 + at2 (firK wa nx gs gs.length) b (at2 (mapsK nx gs gs.length) a s).toNat else -1 := by
  have hg : gs.getD k ⟨ByteArray.empty, 0, 0⟩ = gs[k] := by rw [List.getD_eq_getElem?_getD, List.getElem?_eq_getElem hk]; rfl
  rw [nxtF, hg, if_neg (by omega), if_neg (by omega), ha, hb, Int.toNat_natCast, Int.toNat_natCast, if_neg (by omega)]
/-- visits within some letters are as many as 0 at least and as all at most; the next visit is the one with that number -/
theorem nxt_win {nx : List (List Int)} {st : Int} {gs : List Rl} (wa : Int → Bool) (h : nx.all (rowOk st) = true) (hl : (nx.length : Int) = st) (h1 : 1 ≤ st) (h24 : st ≤ 24) (hfit : fits gs = true) : ∀ f k s n, k < f → k < gs.length → s < 24 →
    0 ≤ winF wa nx gs f k s n ∧ winF wa nx gs f k s n ≤ at2 (visK wa nx gs gs.length) k s ∧
    (winF wa nx gs f k s n = at2 (visK wa nx gs gs.length) k s → nxtF wa nx gs f k s n = -1) ∧
    (winF wa nx gs f k s n < at2 (visK wa nx gs gs.length) k s → nxtF wa nx gs f k s n = fndF wa nx gs f k s (winF wa nx gs f k s n) ∧ 1 ≤ nxtF wa nx gs f k s n)
  | 0, k, s, n, hm, _, _ => by omega
  | f + 1, k, s, n, hm, hk, hs => by
    have hvf := vis_fir wa h hl h1 h24 hfit (k + 1) k s (by omega) hk hs
    by_cases h0 : n ≤ 0
    · rw [win_zeroF _ _ _ _ _ _ h0, nxt_zeroF _ _ _ h0]
      refine ⟨Int.le_refl _, hvf.1, fun e => by omega, fun e => ?_⟩
      rw [fnd_fir wa h hl h1 h24 hfit (f + 1) k s hm hk hs e]
      exact ⟨rfl, by omega⟩
    · by_cases hn : (lens gs).getD k 0 ≤ n
      · rw [win_fullF _ _ _ (by omega) hn, nxt_fullF _ _ _ (by omega) hn]
        exact ⟨hvf.1, Int.le_refl _, fun _ => rfl, fun e => by omega⟩
      · rcases rule_cases hfit hk with hz | ⟨hz, a, b, ha, hb, hak, hbk⟩
        · have := vals_letter (fun a b => a + b) gs k hk hz
          have e : (lens gs).getD k 0 = 1 := this
          omega
        · have hmb := map_lt h hl h1 h24 hfit (show a < gs.length by omega) hs
          obtain ⟨q, hq⟩ : ∃ q, (at2 (mapsK nx gs gs.length) a s).toNat = q := ⟨_, rfl⟩
          rw [hq] at hmb
          have va := vis_fir wa h hl h1 h24 hfit (a + 1) a s (by omega) (by omega) hs
          have vb := vis_fir wa h hl h1 h24 hfit (b + 1) b q (by omega) (by omega) hmb
          have la := lens_pos (gs := gs) (k := a) (by omega) (fun j hj _ => fits_at hfit j hj)
          have ia := nxt_win wa h hl h1 h24 hfit f a s n (by omega) (by omega) hs
          have ib := nxt_win wa h hl h1 h24 hfit f b q (n - (lens gs).getD a 0) (by omega) (by omega) hmb
          rw [win_pairF wa nx hk ha hb (by omega) (by omega), vis_pair wa nx hk hz ha hb hak hbk hs, hq]
          by_cases hla : (lens gs).getD a 0 ≤ n
          · rw [nxt_rightF wa nx hk ha hb (by omega) (by omega) hla, hq]
            obtain ⟨f', rfl⟩ : ∃ f', f = f' + 1 := ⟨f - 1, by omega⟩
            have ea := win_fullF wa nx gs (f := f') (k := a) (s := s) (n := n) (by omega) hla
            rw [ea] at ia ⊢
            refine ⟨by omega, by omega, fun e => ?_, fun e => ?_⟩
            · have := ib.2.2.1 (by omega)
              rw [this, if_neg (by omega)]
            · obtain ⟨e1, e2⟩ := ib.2.2.2 (by omega)
              rw [if_pos (by omega), fnd_pair wa nx hk hz ha hb, hq, if_neg (by omega), e1]
              refine ⟨?_, by omega⟩
              congr 2
              omega
          · rw [nxt_leftF wa nx hk ha hb (by omega) (by omega) (by omega), hq]
            have eb := win_zeroF wa nx gs f b q (n := n - (lens gs).getD a 0) (by omega)
            rw [eb, Int.add_zero]
            refine ⟨by omega, by omega, fun e => ?_, fun e => ?_⟩
            · have e1 := ia.2.2.1 (by omega)
              rw [e1, if_neg (by omega), if_neg (by omega)]
            · rw [fnd_pair wa nx hk hz ha hb, hq]
              by_cases hlt : winF wa nx gs f a s n < at2 (visK wa nx gs gs.length) a s
              · obtain ⟨e1, e2⟩ := ia.2.2.2 hlt
                rw [if_pos (by omega), if_pos hlt]
                exact ⟨e1, e2⟩
              · have e1 := ia.2.2.1 (by omega)
                rw [e1, if_neg (by omega), if_neg hlt, if_pos (by omega)]
                have e2 : winF wa nx gs f a s n - at2 (visK wa nx gs gs.length) a s = 0 := by omega
                rw [e2, fnd_fir wa h hl h1 h24 hfit f b q (by omega) (by omega) hmb (by omega)]
                exact ⟨rfl, by omega⟩
theorem win_stable {gs : List Rl} (wa : Int → Bool) (nx : List (List Int)) (hfit : fits gs = true) : ∀ f1 f2 k s n, k < gs.length → k < f1 → k < f2 → winF wa nx gs f1 k s n = winF wa nx gs f2 k s n
  | 0, f2, k, s, c, hk, h1, h2 => by omega
  | f1 + 1, 0, k, s, c, hk, h1, h2 => by omega
  | f1 + 1, f2 + 1, k, s, n, hk, h1, h2 => by
    by_cases h0 : n ≤ 0
    · rw [win_zeroF _ _ _ _ _ _ h0, win_zeroF _ _ _ _ _ _ h0]
    · by_cases hn : (lens gs).getD k 0 ≤ n
      · rw [win_fullF _ _ _ (by omega) hn, win_fullF _ _ _ (by omega) hn]
      · rcases rule_cases hfit hk with hz | ⟨hz, a, b, ha, hb, hak, hbk⟩
        · have := vals_letter (fun a b => a + b) gs k hk hz
          have e : (lens gs).getD k 0 = 1 := this
          omega
        · rw [win_pairF wa nx hk ha hb (by omega) (by omega), win_pairF wa nx hk ha hb (by omega) (by omega), win_stable wa nx hfit f1 f2 a s n (by omega) (by omega) (by omega), win_stable wa nx hfit f1 f2 b _ _ (by omega) (by omega) (by omega)]
theorem nxt_stable {gs : List Rl} (wa : Int → Bool) (nx : List (List Int)) (hfit : fits gs = true) : ∀ f1 f2 k s n, k < gs.length → k < f1 → k < f2 → nxtF wa nx gs f1 k s n = nxtF wa nx gs f2 k s n
  | 0, f2, k, s, c, hk, h1, h2 => by omega
  | f1 + 1, 0, k, s, c, hk, h1, h2 => by omega
  | f1 + 1, f2 + 1, k, s, n, hk, h1, h2 => by
    by_cases h0 : n ≤ 0
    · rw [nxt_zeroF _ _ _ h0, nxt_zeroF _ _ _ h0]
    · by_cases hn : (lens gs).getD k 0 ≤ n
      · rw [nxt_fullF _ _ _ (by omega) hn, nxt_fullF _ _ _ (by omega) hn]
      · rcases rule_cases hfit hk with hz | ⟨hz, a, b, ha, hb, hak, hbk⟩
        · have := vals_letter (fun a b => a + b) gs k hk hz
          have e : (lens gs).getD k 0 = 1 := this
          omega
        · by_cases hla : (lens gs).getD a 0 ≤ n
          · rw [nxt_rightF wa nx hk ha hb (by omega) (by omega) hla, nxt_rightF wa nx hk ha hb (by omega) (by omega) hla, nxt_stable wa nx hfit f1 f2 b _ _ (by omega) (by omega) (by omega)]
          · rw [nxt_leftF wa nx hk ha hb (by omega) (by omega) (by omega), nxt_leftF wa nx hk ha hb (by omega) (by omega) (by omega), nxt_stable wa nx hfit f1 f2 a s n (by omega) (by omega) (by omega)]
end Go.Proofs.Ytaffachjopjbgaa
namespace Go.Proofs.Ytaffachjopjbgaa
open Go.RowKit
open Wd
set_option linter.unusedVariables false
abbrev winV (Wb Qb : Nat) : Value := .func (.func 163) #[] #[.pointer (some ⟨Wb, 0, none⟩), .pointer (some ⟨Qb, 0, none⟩)]
structure WInv (Wb Qb : Nat) (gv lv mv vv : Value) (st0 : Int) (lo : Nat) (nx vs : List (List Int)) (gs : List Rl) (w : World) : Prop where
  b : B5 w Wb gv lv mv (.int .i64 st0) vv 116
  q : w.cell? ⟨Qb, 0, none⟩ = some (winV Wb Qb)
  r : Rules w gv gs
  l : IsL w lv (lens gs)
  m : IsMs w lo mv (mapsK nx gs gs.length)
  v : IsMs w lo vv vs
theorem WInv.kept {Wb Qb : Nat} {gv lv mv vv : Value} {st0 : Int} {lo : Nat} {nx vs : List (List Int)} {gs : List Rl} {w w' : World} (h : WInv Wb Qb gv lv mv vv st0 lo nx vs gs w) (hb : Below w.heap.size w w') : WInv Wb Qb gv lv mv vv st0 lo nx vs gs w' :=
  ⟨h.b.kept hb, (hb.cell (lt_of_cell h.q)).trans h.q, h.r.kept hb, h.l.kept hb, h.m.kept hb, h.v.kept hb⟩
/-- the contract of the closure -/
def WinC (Wb Qb : Nat) (gv lv mv vv : Value) (st0 : Int) (lo : Nat) (nx vs : List (List Int)) (gs : List Rl) (k : Nat) (s n z : Int) : Prop :=
  ∀ W, WInv Wb Qb gv lv mv vv st0 lo nx vs gs W → Calls Try.prog 163 #[.int .i64 k, .int .i64 s, .int .i64 n, .pointer (some ⟨Wb, 0, none⟩), .pointer (some ⟨Qb, 0, none⟩)] W fun e w' => e = .returned (.int .i64 z) ∧ Below W.heap.size W w'
set_option maxRecDepth 100000 in
set_option maxHeartbeats 6400000 in
theorem win_pair (Wb Qb : Nat) (gv lv mv vv : Value) (st0 : Int) (lo : Nat) (nx vs : List (List Int)) (gs : List Rl) (k a b t q : Nat) (n z1 z2 : Int) (hk : k < gs.length) (h0 : gs[k].L.size = 0) (ha : gs[k].l = a) (hb : gs[k].r = b) (hak : a < k) (hbk : b < k) (ht : t < 24) (hq24 : at2 (mapsK nx gs gs.length) a t = (q : Int))
    (hn0 : 0 < n) (hn1 : n < (lens gs).getD k 0) (hlk : (lens gs).getD k 0 ≤ 1000000000000000) (la1 : (lens gs).getD a 0 ≤ 1000000000000000) (la0 : 0 ≤ (lens gs).getD a 0) (hz1 : 0 ≤ z1 ∧ z1 ≤ 1000000000000000) (hz2 : 0 ≤ z2 ∧ z2 ≤ 1000000000000000)
    (hA : WinC Wb Qb gv lv mv vv st0 lo nx vs gs a t n z1) (hB : WinC Wb Qb gv lv mv vv st0 lo nx vs gs b q (n - (lens gs).getD a 0) z2) :
    WinC Wb Qb gv lv mv vv st0 lo nx vs gs k t n (z1 + z2) := by
  intro w hI
  have HI := Lib.hid hI
  obtain ⟨hB5, hqq, hr, hl, hm, hv⟩ := hI
  have HB5 := Lib.hid hB5
  obtain ⟨p0, p1, p2, p3, p4⟩ := b5_cells hB5
  obtain ⟨A1, c1, rfl, hr⟩ := hr
  rcases hr with hr | ⟨g, rfl, hg, hcc⟩
  · rw [hr] at hk; simp at hk
  obtain ⟨a0, a1, a2⟩ := rules_cells hcc hk
  have hlen := lens_len gs
  have hml := mapsK_len nx gs gs.length
  obtain ⟨A2, c2, rfl, h2⟩ := hl
  rcases h2 with h2 | ⟨g2, rfl, h2⟩
  · rw [h2] at hlen; simp at hlen; omega
  obtain ⟨A3, c3, rfl, h3⟩ := hm
  rcases h3 with h3 | ⟨g3, rfl, _, h3⟩
  · rw [h3] at hml; simp at hml; omega
  have ck := h2 k (by omega)
  rw [show (lens gs)[k]'(by omega) = (lens gs).getD k 0 from by rw [List.getD_eq_getElem?_getD, List.getElem?_eq_getElem (by omega)]; rfl] at ck
  have ca := h2 a (by omega)
  rw [show (lens gs)[a]'(by omega) = (lens gs).getD a 0 from by rw [List.getD_eq_getElem?_getD, List.getElem?_eq_getElem (by omega)]; rfl] at ca
  have cm := h3 a t (by omega) ht
  rw [show ((mapsK nx gs gs.length).getD a []).getD t 0 = at2 (mapsK nx gs gs.length) a t from rfl, hq24] at cm
  rw [empty_arr h0] at a0
  rw [ha] at a1
  rw [hb] at a2
  have HA := Lib.hid hA
  have HBc := Lib.hid hB
  have k0 : (0 : Int) ≤ (k : Int) := by omega
  have k1 : (k : Int) < (gs.length : Int) := by omega
  have k2 : (k : Int) < ((lens gs).length : Int) := by omega
  have k3 : ((k : Int) == -1) = false := by first | (simp; done) | (simp; omega)
  have a0' : (0 : Int) ≤ (a : Int) := by omega
  have t0 : (0 : Int) ≤ (t : Int) := by omega
  have t1 : (t : Int) < 24 := by omega
  have hsub : IntKind.i64.wrap (n - (lens gs).getD a 0) = n - (lens gs).getD a 0 := IntWalk.i64_in _ (by omega)
  have hsum : IntKind.i64.wrap (z1 + z2) = z1 + z2 := IntWalk.i64_in _ (by omega)
  have a2' : (a : Int) < ((lens gs).length : Int) := by omega
  have a3' : (a : Int) < ((mapsK nx gs gs.length).length : Int) := by omega
  have hd1 : decide (n ≤ 0) = false := decide_eq_false (by omega)
  have hd2 : decide ((lens gs).getD k 0 ≤ n) = false := decide_eq_false (by omega)
  have lqq := lt_of_cell hqq
  have lb := hB5.lt
  have lca := lt_of_cell ca
  have lcm := lt_of_cell cm
  have hbk' := (Below.refl _ w).alloc (Nat.le_refl _) (.cells #[.string ⟨#[]⟩, .int .i64 (a : Int), .int .i64 (b : Int)] 127)
  have kcs := heap_alloc_new w (.cells #[.string ⟨#[]⟩, .int .i64 (a : Int), .int .i64 (b : Int)] 127)
  have hKl : w.heap.size < (w.alloc (.cells #[.string ⟨#[]⟩, .int .i64 (a : Int), .int .i64 (b : Int)] 127)).heap.size := by simp
  generalize gs[k] = x at *
  obtain ⟨RL, rl, rr⟩ := x
  clear h0 ha hb hcc h2 h3 hA hB hz1 hz2 la1 la0 hn0 hn1 hlk hB5 hlen hml hv
  generalize (lens gs).getD k 0 = lk at *
  generalize (lens gs).getD a 0 = la at *
  go_enter Try.func163, Try.ntmps163
  go_upto_region 2 with fail
  obtain ⟨Kp, hKp⟩ : ∃ Kp, Kp = w.heap.size := ⟨_, rfl⟩
  rw [← hKp] at kcs hKl ⊢
  generalize w.alloc (.cells #[.string ⟨#[]⟩, .int .i64 (a : Int), .int .i64 (b : Int)] 127) = wk at *
  have HBK := Lib.hid hbk'
  have HIK := Lib.hid (HI.out.kept hbk')
  have HH := Lib.hid (fun W (h : Below wk.heap.size wk W) => And.intro (b5_cells ((HB5.out.kept hbk').kept h)).2.1 (And.intro (b5_cells ((HB5.out.kept hbk').kept h)).2.2.1 (And.intro (rule3_cellsV ((h.block Kp hKl).trans kcs)).2.1 (And.intro (rule3_cellsV ((h.block Kp hKl).trans kcs)).2.2 (And.intro ((h.cell (lt_of_cell ((hbk'.cell lqq).trans hqq))).trans ((hbk'.cell lqq).trans hqq)) (And.intro ((h.cell (lt_of_cell ((hbk'.cell lca).trans ca))).trans ((hbk'.cell lca).trans ca)) ((h.cell (lt_of_cell ((hbk'.cell lcm).trans cm))).trans ((hbk'.cell lcm).trans cm))))))))
  have HAW := Lib.hid (fun W (h : Below wk.heap.size wk W) => HA.out W (HIK.out.kept h))
  have HBW := Lib.hid (fun W (h : Below wk.heap.size wk W) => HBc.out W (HIK.out.kept h))
  clear hKp kcs hbk' hqq ca cm lqq lb lca lcm hg a0 a1 a2 p0 p1 p2 p3 p4 ck HA HBc
  obtain ⟨p1, p2, r1, r2, qv, cl, cm⟩ := HH.out wk (Below.refl _ _)
  have HC := Lib.hid (HH.out wk (Below.refl _ _))
  have HB := Lib.hid (Below.refl wk.heap.size wk)
  go_region_held3 (fun w' => w'.cell? ⟨Wb, 1, none⟩ = some (.slice (some g2) (lens gs).length c2) ∧ w'.cell? ⟨Wb, 2, none⟩ = some (.slice (some ⟨g3, 0, none⟩) (mapsK nx gs gs.length).length c3) ∧ w'.cell? ⟨Kp, 1, none⟩ = some (.int .i64 (a : Int)) ∧ w'.cell? ⟨Kp, 2, none⟩ = some (.int .i64 (b : Int)) ∧ w'.cell? ⟨Qb, 0, none⟩ = some (winV Wb Qb) ∧ w'.cell? (g2.add a) = some (.int .i64 la) ∧ w'.cell? ⟨g3, a * 24 + t, none⟩ = some (.int .i64 (q : Int)))
    (first | (with_reducible exact HC.out) | exact HC.out | go_keep)
    (first
      | (go_at_call_of 163 (Value.int .i64 (a : Int))
         refine (HAW.out _ ?_).mono ?_
         (first | exact HB.out | exact below_drewN HB.out 1 | exact below_drewN HB.out _)
         rintro e w9 ⟨rfl, hB9⟩
         try have hB9 := below_undrew hB9
         have HB := Lib.hid (HB.out.trans (hB9.mono HB.out.size))
         have HC := Lib.hid (HH.out w9 HB.out)
         clear hB9)
      | (go_at_call_of 163 (Value.int .i64 (b : Int))
         refine (HBW.out _ ?_).mono ?_
         (first | exact HB.out | exact below_drewN HB.out 1 | exact below_drewN HB.out _)
         rintro e w10 ⟨rfl, hB10⟩
         try have hB10 := below_undrew hB10
         have HB := Lib.hid (HB.out.trans (hB10.mono HB.out.size))
         have HC := Lib.hid (HH.out w10 HB.out)
         clear hB10))
  all_goals
    go_wp2_with fail
    go_ret
    exact ⟨rfl, HBK.out.trans (HB.out.mono HBK.out.size)⟩
theorem win_any (Wb Qb : Nat) (gv lv mv vv : Value) (st0 : Int) (lo : Nat) (wa : Int → Bool) (nx : List (List Int)) (gs : List Rl) (st : Int) (h1 : 1 ≤ st) (h24 : st ≤ 24) (hrow : nx.all (rowOk st) = true) (hlen : (nx.length : Int) = st) (hok : gOk gs = true) : ∀ m k s (n : Int), k < m → k < gs.length → s < 24 →
    WinC Wb Qb gv lv mv vv st0 lo nx (visK wa nx gs gs.length) gs k (s : Nat) n (winF wa nx gs gs.length k s n)
  | 0, k, s, n, hm, _, _ => by omega
  | m + 1, k, s, n, hm, hk, hs => by
    have hfit := (gOk_iff.1 hok).2.1
    obtain ⟨f, hf⟩ : ∃ f, gs.length = f + 1 := ⟨gs.length - 1, by omega⟩
    by_cases h0 : n ≤ 0
    · rw [win_zeroF _ _ _ _ _ _ h0]
      intro W hI
      exact (win_zero k s n _ _ h0 W).mono (fun e w' ⟨he, hw⟩ => ⟨he, by rw [hw]; exact Below.refl _ _⟩)
    · by_cases hn : (lens gs).getD k 0 ≤ n
      · have e := win_fullF wa nx gs (f := f) (k := k) (s := s) (n := n) (by omega) hn
        rw [← hf] at e
        rw [e]
        intro W hI
        refine (win_full k (s : Int) n Wb _ gv lv mv vv st0 (lens gs) (visK wa nx gs gs.length) lo W hI.b hI.l hI.v (by rw [lens_len]; exact hk) (by rw [visK_len]; exact hk) (by omega) hn (by omega)).mono (fun e w' ⟨he, hw⟩ => ⟨?_, by rw [hw]; exact Below.refl _ _⟩)
        rw [he, Int.toNat_natCast]
      · rcases rule_cases hfit hk with hz | ⟨hz, a, b, ha, hb, hak, hbk⟩
        · have := vals_letter (fun a b => a + b) gs k hk hz
          have e : (lens gs).getD k 0 = 1 := this
          omega
        · have hmb := map_lt hrow hlen h1 h24 hfit (show a < gs.length by omega) hs
          have hma := mapsK_ok hrow hlen h1 h24 hfit gs.length (Nat.le_refl _) a (by omega)
          have hq0 : 0 ≤ at2 (mapsK nx gs gs.length) a s := by
            unfold at2
            rw [List.getD_eq_getElem?_getD (i := s), List.getElem?_eq_getElem (by rw [hma.1]; omega), Option.getD_some]
            exact (hma.2 _ (List.getElem_mem (show s < ((mapsK nx gs gs.length).getD a []).length by rw [hma.1]; omega))).1
          obtain ⟨q, hq⟩ : ∃ q : Nat, at2 (mapsK nx gs gs.length) a s = q := ⟨(at2 (mapsK nx gs gs.length) a s).toNat, by omega⟩
          rw [hq, Int.toNat_natCast] at hmb
          have e := win_pairF wa nx (f := f) (s := s) (n := n) hk ha hb (by omega) (by omega)
          rw [win_stable wa nx hfit f gs.length a s n (by omega) (by omega) (by omega), win_stable wa nx hfit f gs.length b _ _ (by omega) (by omega) (by omega), ← hf, hq, Int.toNat_natCast] at e
          rw [e]
          have ba := nxt_win wa hrow hlen h1 h24 hfit gs.length a s n (by omega) (by omega) hs
          have bb := nxt_win wa hrow hlen h1 h24 hfit gs.length b q (n - (lens gs).getD a 0) (by omega) (by omega) hmb
          have va := (fnd_bd wa hrow hlen h1 h24 hfit gs.length a s 0 (by omega) (by omega) hs).1
          have vb := (fnd_bd wa hrow hlen h1 h24 hfit gs.length b q 0 (by omega) (by omega) hmb).1
          have la := small_at (gOk_iff.1 hok).2.2 a (by omega)
          have lb := small_at (gOk_iff.1 hok).2.2 b (by omega)
          have lk := small_at (gOk_iff.1 hok).2.2 k hk
          have lp := lens_pos (gs := gs) (k := a) (by omega) (fun j hj _ => fits_at hfit j hj)
          exact win_pair Wb Qb gv lv mv vv st0 lo nx _ gs k a b s q n _ _ hk hz ha hb hak hbk hs hq (by omega) (by omega) lk la (by omega) ⟨ba.1, by omega⟩ ⟨bb.1, by omega⟩ (win_any Wb Qb gv lv mv vv st0 lo wa nx gs st h1 h24 hrow hlen hok m a s n (by omega) (by omega) hs) (win_any Wb Qb gv lv mv vv st0 lo wa nx gs st h1 h24 hrow hlen hok m b q _ (by omega) (by omega) hmb)
/-- how many visits lie within so many letters -/
def winW (wa : Int → Bool) (nx : List (List Int)) (gs : List Rl) (s n : Int) : Int := if gs.length = 0 then 0 else winF wa nx gs gs.length (gs.length - 1) s.toNat n
theorem win_none (s n : Int) (p q : Value) (h : 0 < n) (w : World) :
    Calls Try.prog 163 #[.int .i64 (-1), .int .i64 s, .int .i64 n, p, q] w fun e w' => e = .returned (.int .i64 0) ∧ w' = w := by
  have hd : decide (n ≤ 0) = false := decide_eq_false (by omega)
  clear h
  go_enter Try.func163, Try.ntmps163
  go_wp2_with fail
  go_ret
  exact ⟨rfl, rfl⟩
set_option maxRecDepth 100000 in
set_option maxHeartbeats 3200000 in
theorem within_gen (sv gv : Value) (gs : List Rl) (wa : Int → Bool) (nx : List (List Int)) (st s n : Int) (lo : Nat) (w : World) (h1 : 1 ≤ st) (h24 : st ≤ 24) (hrow : nx.all (rowOk st) = true) (hlen : (nx.length : Int) = st) (hok : gOk gs = true) (hr : Rules w gv gs) (hW : IsS w lo sv gv gs nx (visK wa nx gs gs.length) s) (hs : 0 ≤ s ∧ s < 24) :
    Calls Try.prog 103 #[sv, .int .i64 n] w fun e w' => e = .returned (.int .i64 (winW wa nx gs s n)) ∧ Below w.heap.size w w' := by
  have hmf : ∀ (fn : Fn) (first cap : Array Value) (w : World), (Instr.makeFunc fn first cap).run Try.prog w = .ok (.func fn first cap) w := fun _ _ _ _ => rfl
  obtain ⟨lv, mv, vv, rfl, h2, h3, h4⟩ := hW
  have hn400 := gOk_len hok
  have hfit := (gOk_iff.1 hok).2.1
  have hb : Below w.heap.size w ((w.alloc (.cells #[gv, lv, mv, .int .i64 s, vv] 116)).alloc (.cells #[.func (.func 163) #[] #[.pointer (some ⟨w.heap.size, 0, none⟩), .pointer (some ⟨w.heap.size + 1, 0, none⟩)]] 202)) := ((Below.refl _ w).alloc (Nat.le_refl _) _).alloc (by simp) _
  have hP : B5 ((w.alloc (.cells #[gv, lv, mv, .int .i64 s, vv] 116)).alloc (.cells #[.func (.func 163) #[] #[.pointer (some ⟨w.heap.size, 0, none⟩), .pointer (some ⟨w.heap.size + 1, 0, none⟩)]] 202)) w.heap.size gv lv mv (.int .i64 s) vv 116 := B5.kept (heap_alloc_new w _) ((Below.refl _ _).alloc (Nat.le_refl _) _)
  have hQ := heap_alloc_new (w.alloc (.cells #[gv, lv, mv, .int .i64 s, vv] 116)) (.cells #[.func (.func 163) #[] #[.pointer (some ⟨w.heap.size, 0, none⟩), .pointer (some ⟨w.heap.size + 1, 0, none⟩)]] 202)
  rw [show (w.alloc (.cells #[gv, lv, mv, .int .i64 s, vv] 116)).heap.size = w.heap.size + 1 from by simp] at hQ
  have hq := cell_of_row _ _ 0 _ _ _ hQ
  have HRK := Lib.hid (fun W (hb : Below w.heap.size w W) => hr.kept hb)
  have HLD : Hid (∀ W, Below ((w.alloc (.cells #[gv, lv, mv, .int .i64 s, vv] 116)).alloc (.cells #[.func (.func 163) #[] #[.pointer (some ⟨w.heap.size, 0, none⟩), .pointer (some ⟨w.heap.size + 1, 0, none⟩)]] 202)).heap.size ((w.alloc (.cells #[gv, lv, mv, .int .i64 s, vv] 116)).alloc (.cells #[.func (.func 163) #[] #[.pointer (some ⟨w.heap.size, 0, none⟩), .pointer (some ⟨w.heap.size + 1, 0, none⟩)]] 202)) W → Calls Try.prog 163 #[.int .i64 ((gs.length : Int) - 1), .int .i64 s, .int .i64 n, .pointer (some ⟨w.heap.size, 0, none⟩), .pointer (some ⟨w.heap.size + 1, 0, none⟩)] W fun e w' => e = .returned (.int .i64 (winW wa nx gs s n)) ∧ Below W.heap.size W w') := Lib.hid (fun W hW => by
    unfold winW
    by_cases h0 : gs.length = 0
    · rw [if_pos h0]
      by_cases hn : n ≤ 0
      · exact (win_zero _ s n _ _ hn W).mono (fun e w' ⟨he, hw⟩ => ⟨he, by rw [hw]; exact Below.refl _ _⟩)
      · rw [show ((gs.length : Int) - 1) = -1 from by omega]
        exact (win_none s n _ _ (by omega) W).mono (fun e w' ⟨he, hw⟩ => ⟨he, by rw [hw]; exact Below.refl _ _⟩)
    · rw [if_neg h0]
      have hk : ((gs.length : Int) - 1) = ((gs.length - 1 : Nat) : Int) := by omega
      rw [hk]
      have h9 := win_any w.heap.size (w.heap.size + 1) gv lv mv vv s lo wa nx gs st h1 h24 hrow hlen hok gs.length (gs.length - 1) s.toNat n (by omega) (by omega) (by omega) W ⟨hP.kept hW, (hW.cell (lt_of_cell hq)).trans hq, (HRK.out _ (hb.trans (hW.mono hb.size))), ((IsL.of_own h2).kept hb).kept hW, (h3.kept hb).kept hW, (h4.kept hb).kept hW⟩
      rw [show ((s.toNat : Nat) : Int) = s from by omega] at h9
      exact h9)
  have HB := Lib.hid hb
  have HPB := Lib.hid hP
  obtain ⟨Ag, cg, rfl, hRx⟩ := hr
  obtain ⟨A2, c2, rfl⟩ := own_slice h2
  obtain ⟨A3, c3, rfl, h3x⟩ := h3
  obtain ⟨A4, c4, rfl, h4x⟩ := h4
  have HLO := Lib.hid (fun W => lastOf_any Ag gs.length cg hn400 W)
  generalize winW wa nx gs s n = z at *
  clear hok hs hn400 hfit hRx h3x h4x h2 hP hQ h1 h24 hrow hlen
  go_enter Try.func103, Try.ntmps103
  go_upto_region 3 with fail
  generalize (w.alloc (.cells #[.slice Ag gs.length cg, .slice A2 (lens gs).length c2, .slice A3 (mapsK nx gs gs.length).length c3, .int .i64 s, .slice A4 (visK wa nx gs gs.length).length c4] 116)).alloc (.cells #[.func (.func 163) #[] #[.pointer (some ⟨w.heap.size, 0, none⟩), .pointer (some ⟨w.heap.size + 1, 0, none⟩)]] 202) = w2 at *
  have hq : w2.cell? ⟨w.heap.size + 1, 0, none⟩ = some (.func (.func 163) #[] #[.pointer (some ⟨w.heap.size, 0, none⟩), .pointer (some ⟨w.heap.size + 1, 0, none⟩)]) := hq
  have HK2 := Lib.hid (fun W (h : Below w2.heap.size w2 W) => And.intro (b5_cells (HPB.out.kept h)) ((h.cell (lt_of_cell hq)).trans hq))
  obtain ⟨⟨p0, p1, p2, p3, p4⟩, q0⟩ := HK2.out w2 (Below.refl _ _)
  have HC := Lib.hid (HK2.out w2 (Below.refl _ _))
  have HB2 := Lib.hid (Below.refl w2.heap.size w2)
  clear hb hq
  go_region_held3 (fun w' => (w'.cell? ⟨w.heap.size, 0, none⟩ = some (.slice Ag gs.length cg) ∧ w'.cell? ⟨w.heap.size, 1, none⟩ = some (.slice A2 (lens gs).length c2) ∧ w'.cell? ⟨w.heap.size, 2, none⟩ = some (.slice A3 (mapsK nx gs gs.length).length c3) ∧ w'.cell? ⟨w.heap.size, 3, none⟩ = some (.int .i64 s) ∧ w'.cell? ⟨w.heap.size, 4, none⟩ = some (.slice A4 (visK wa nx gs gs.length).length c4)) ∧ w'.cell? ⟨w.heap.size + 1, 0, none⟩ = some (winV w.heap.size (w.heap.size + 1)))
    (first | (with_reducible exact HC.out) | exact HC.out | go_keep)
    (first
      | (go_at_call 135
         refine (HLO.out _).mono ?_
         rintro e w8 ⟨rfl, rfl⟩)
      | (go_at_call 163
         refine (HLD.out _ ?_).mono ?_
         (first | exact HB2.out | exact below_drewN HB2.out 1 | exact below_drewN HB2.out _)
         rintro e w9 ⟨rfl, hB9⟩
         try have hB9 := below_undrew hB9
         have HB9 := Lib.hid hB9
         have HC := Lib.hid (HK2.out w9 hB9)
         clear hB9))
  all_goals
    clear p0 p1 p2 p3 p4 q0
    go_wp2_with fail
    go_ret
    exact ⟨rfl, HB.out.trans (HB9.out.mono HB.out.size)⟩
end Go.Proofs.Ytaffachjopjbgaa
namespace Go.Proofs.Ytaffachjopjbgaa
open Go.RowKit
open Wd
set_option linter.unusedVariables false
namespace Wd
/-- how many ends of a pattern lie within so many letters -/
def patW (p : ByteArray) (gs : List Rl) (n : Int) : Int := winW (fun q => decide (q = (p.size : Int))) (patNx p.data.toList) gs 0 n
def npA (gs : List Rl) (p : ByteArray) (i : Int) : Int × Int :=
  if askN (gOk gs) (okL p.data.toList) p.size = 0 then (if i < 0 ∨ wordLen gs < i then (0, 2) else if patW p gs (i + p.size - 1) = allV (patV p gs) gs 0 then (0, 6) else (patF p gs (patW p gs (i + p.size - 1)) - p.size, 0)) else (0, askN (gOk gs) (okL p.data.toList) p.size)
end Wd
theorem patW_bd {gs : List Rl} {p : ByteArray} (n : Int) (h20 : p.size ≤ 20) (hok : gOk gs = true) : 0 ≤ patW p gs n ∧ patW p gs n ≤ allV (patV p gs) gs 0 := by
  have hl : p.data.toList.length = p.size := by simp
  obtain ⟨⟨h1, h24⟩, hrow, hlen⟩ := aOk_parts (patA_ok (p := p.data.toList) (by omega))
  have hfit := (gOk_iff.1 hok).2.1
  unfold patW winW allV
  by_cases hg0 : gs.length = 0
  · rw [if_pos hg0, if_pos hg0]; omega
  · rw [if_neg hg0, if_neg hg0]
    have h3 := nxt_win (fun q => decide (q = (p.size : Int))) hrow hlen h1 h24 hfit gs.length (gs.length - 1) 0 n (by omega) (by omega) (by omega)
    exact ⟨h3.1, h3.2.1⟩
set_option maxRecDepth 100000 in
set_option maxHeartbeats 3200000 in
theorem implNextPattern (gv : Value) (gs : List Rl) (p : ByteArray) (k : Int) (w : World) (hfr : FewR gs) (hr : Rules w gv gs) (hpm : p.size ≤ maxLen) (hkb : -9223372036854775808 ≤ k ∧ k ≤ 9223372036854775807) :
    Calls Try.prog 32 #[.agg #[gv], .string p, .int .i64 k] w fun e w' => e = .returned (.tuple #[.int .i64 (npA gs p k).1, .int .i64 (npA gs p k).2]) ∧ Below w.heap.size w w' := by
  have HRU := Lib.hid (fun W (hb : Below w.heap.size w W) => hr.kept hb)
  have hb := (Below.refl _ w).alloc (Nat.le_refl _) (.cells #[gv] 37)
  have hg := cell_new w gv 37
  have HPS := Lib.hid (patternSearch_any gv gs p _ hfr hpm (HRU.out _ hb))
  have HB := Lib.hid hb
  obtain ⟨Ag, cg, rfl, hRx⟩ := hr
  clear hb hRx
  unfold npA
  obtain ⟨c, hc⟩ : ∃ c, c = askN (gOk gs) (okL p.data.toList) p.size := ⟨_, rfl⟩
  rw [← hc] at HPS ⊢
  have HCE := Lib.hid hc
  clear hc
  by_cases h0 : c = 0
  · rw [if_pos h0]
    obtain ⟨hok, ho, hp0, h20⟩ := ask_size (HCE.out.symm.trans h0)
    have hl : p.data.toList.length = p.size := by simp
    obtain ⟨⟨h1, h24⟩, hrow, hlen⟩ := aOk_parts (patA_ok (p := p.data.toList) (by omega))
    have HAL := Lib.hid (fun W sv (hb : Below w.heap.size w W) hW => all_any sv (.slice Ag gs.length cg) gs (patNx p.data.toList) (patV p gs) 0 0 W hok (HRU.out W hb) (visK_len _ _ _ _) hW (by omega))
    have HVI := Lib.hid (fun c W sv (hb : Below w.heap.size w W) hW hg0 hk0 hk => visit_any sv (.slice Ag gs.length cg) gs (fun q => decide (q = (p.size : Int))) (patNx p.data.toList) ((p.data.toList.length : Int) + 1) 0 c 0 W h1 h24 hrow hlen hok (HRU.out W hb) hW (by omega) hg0 hk0 hk)
    have HWI := Lib.hid (fun n W sv (hb : Below w.heap.size w W) hW => within_gen sv (.slice Ag gs.length cg) gs (fun q => decide (q = (p.size : Int))) (patNx p.data.toList) ((p.data.toList.length : Int) + 1) 0 n 0 W h1 h24 hrow hlen hok (HRU.out W hb) hW (by omega))
    have HPB := Lib.hid (fun c a b => patF_bd (k := c) h20 hok a b)
    have HWB := Lib.hid (fun n => patW_bd n h20 hok)
    have hwl : (lens gs).getD ((lens gs).length - 1) 0 = wordLen gs := by rw [lens_len]; rfl
    have HWL := Lib.hid (fun v W h => wordLen_any v (lens gs) (by rw [lens_len]; exact gOk_len hok) W h)
    rw [hwl] at HWL
    have hwb : 0 ≤ wordLen gs ∧ wordLen gs ≤ 1000000000000000 := by
      by_cases hg0 : gs.length = 0
      · rw [wordLen_zero hg0]; omega
      · have h4 := small_at (gOk_iff.1 hok).2.2 (gs.length - 1) (by omega)
        have h5 := lens_pos (gs := gs) (k := gs.length - 1) (by omega) (fun j hj _ => fits_at (gOk_iff.1 hok).2.1 j hj)
        unfold wordLen
        omega
    have HWB2 := Lib.hid hwb
    have HC0 := Lib.hid h0
    obtain ⟨ans, hans⟩ : ∃ ans : Int × Int, ans = (if k < 0 ∨ wordLen gs < k then (0, 2) else if patW p gs (k + p.size - 1) = allV (patV p gs) gs 0 then (0, 6) else (patF p gs (patW p gs (k + p.size - 1)) - p.size, 0)) := ⟨_, rfl⟩
    rw [← hans]
    have HA := Lib.hid hans
    clear hans hok ho hrow hlen h1 h24 hl hwl hwb
    go_enter Try.func32, Try.ntmps32
    go_wp2_with fail
    refine HPS.out.mono ?_
    rintro e w3 ⟨sv, rfl, hyes, hno, hB3⟩
    have HS3 := Lib.hid (hyes h0)
    have HB3 := Lib.hid (HB.out.trans (hB3.mono HB.out.size))
    obtain ⟨D2, d2, D3, d3, D4, d4, hsv⟩ := HS3.out.shapeP
    subst hsv
    subst h0
    clear hyes hno hB3 hg
    have hb4 := (Below.refl _ w3).alloc (Nat.le_refl _) (.cells #[.slice Ag gs.length cg, .slice D2 (lens gs).length d2, .slice D3 (mapsK (patNx p.data.toList) gs gs.length).length d3, .int .i64 0, .slice D4 (patV p gs).length d4] 116)
    have HS4 := Lib.hid (HS3.out.kept hb4)
    have HB4 := Lib.hid (HB3.out.trans (hb4.mono HB3.out.size))
    have HC4 : Hid (B5 _ w3.heap.size _ _ _ _ _ 116) := Lib.hid (heap_alloc_new w3 (.cells #[.slice Ag gs.length cg, .slice D2 (lens gs).length d2, .slice D3 (mapsK (patNx p.data.toList) gs gs.length).length d3, .int .i64 0, .slice D4 (patV p gs).length d4] 116))
    clear hb4
    go_upto_region 2 with fail
    obtain ⟨Sb, hSb⟩ : ∃ Sb, Sb = w3.heap.size := ⟨_, rfl⟩
    rw [← hSb] at HC4 ⊢
    generalize w3.alloc (.cells #[.slice Ag gs.length cg, .slice D2 (lens gs).length d2, .slice D3 (mapsK (patNx p.data.toList) gs gs.length).length d3, .int .i64 0, .slice D4 (patV p gs).length d4] 116) = w4 at *
    clear hSb
    obtain ⟨s0, s1, s2, s3, s4⟩ := b5_cells HC4.out
    have HL4 : Hid (IsL w4 (.slice D2 (lens gs).length d2) (lens gs)) := Lib.hid (by
      obtain ⟨lv, mv, vv, hv, h2, h3, h4⟩ := HS4.out
      injection hv with hv
      injection hv with hv
      injection hv with _ hv
      injection hv with hl hv
      subst hl
      exact IsL.of_own h2)
    by_cases hk0 : k < 0
    · have HE : Hid (ans = (0, 2)) := Lib.hid (by rw [HA.out, if_pos (.inl hk0)])
      have hd : decide (k < 0) = true := decide_eq_true hk0
      clear hk0
      go_wp2_with fail
      go_ret2
      exact ⟨by rw [HE.out]; rfl, HB4.out⟩
    · have hd : decide (k < 0) = false := decide_eq_false hk0
      have HK0 : Hid (0 ≤ k) := Lib.hid (by omega)
      by_cases hk1 : wordLen gs < k
      · have HE : Hid (ans = (0, 2)) := Lib.hid (by rw [HA.out, if_pos (.inr hk1)])
        have hd2 : decide (wordLen gs < k) = true := decide_eq_true hk1
        generalize wordLen gs = WL at *
        clear hk0 hk1
        go_wp2_with fail
        refine (HWL.out _ _ HL4.out).mono ?_
        rintro e w5 ⟨rfl, hw5⟩
        obtain rfl := hw5.symm
        go_wp2_with fail
        go_ret2
        exact ⟨by rw [HE.out]; rfl, HB4.out⟩
      · have hd2 : decide (wordLen gs < k) = false := decide_eq_false hk1
        have hwb := HWB2.out
        have hw1 : IntKind.i64.wrap (k + (p.size : Int)) = k + (p.size : Int) := by rw [IntKind.wrap_i64]; omega
        obtain ⟨nn, hnn⟩ : ∃ nn, nn = k + (p.size : Int) - 1 := ⟨_, rfl⟩
        rw [← hnn] at HA
        have hw2 : IntKind.i64.wrap (k + (p.size : Int) - 1) = nn := by rw [IntKind.wrap_i64]; omega
        obtain ⟨B, hB⟩ : ∃ B, B = patW p gs nn := ⟨_, rfl⟩
        rw [← hB] at HA
        have hbb := HWB.out nn
        rw [← hB] at hbb
        have HWN : Hid (∀ W sv, Below w.heap.size w W → IsS W 0 sv (.slice Ag gs.length cg) gs (patNx p.data.toList) (patV p gs) 0 → Calls Try.prog 103 #[sv, .int .i64 nn] W fun e w' => e = .returned (.int .i64 B) ∧ Below W.heap.size W w') := Lib.hid (fun W sv hb hW => by rw [hB]; exact HWI.out nn W sv hb hW)
        have hne : ¬ (k < 0 ∨ wordLen gs < k) := by omega
        by_cases hka : B = allV (patV p gs) gs 0
        · have HE : Hid (ans = (0, 6)) := Lib.hid (by rw [HA.out, if_neg hne, if_pos hka])
          have hd3 : (B == allV (patV p gs) gs 0) = true := by simp [hka]
          generalize allV (patV p gs) gs 0 = V at *
          generalize wordLen gs = WL at *
          have HNN := Lib.hid hnn
          clear hk0 hk1 hka hbb hB hnn hne hwb HVI HPB HWI HWB
          go_wp2_with fail
          refine (HWL.out _ _ HL4.out).mono ?_
          rintro e w5 ⟨rfl, hw5⟩
          obtain rfl := hw5.symm
          go_wp2_with fail
          refine (HWN.out _ _ HB4.out HS4.out).mono ?_
          rintro e w6 ⟨rfl, hB6⟩
          have HB6 := Lib.hid (HB4.out.trans (hB6.mono HB4.out.size))
          have HS6 := Lib.hid (HS4.out.kept hB6)
          obtain ⟨t0, t1, t2, t3, t4⟩ := b5_cells (HC4.out.kept hB6)
          clear hB6 s0 s1 s2 s3 s4
          go_wp2_with fail
          refine (HAL.out _ _ HB6.out HS6.out).mono ?_
          rintro e w7 ⟨rfl, hB7⟩
          have HB7 := Lib.hid (HB6.out.trans (hB7.mono HB6.out.size))
          clear hB7 t0 t1 t2 t3 t4
          go_wp2_with fail
          go_ret2
          exact ⟨by rw [HE.out]; rfl, HB7.out⟩
        · have hlt : B < allV (patV p gs) gs 0 := by omega
          obtain ⟨hg0, hf1, hf2⟩ := HPB.out B hbb.1 hlt
          have HE : Hid (ans = (patF p gs B - p.size, 0)) := Lib.hid (by rw [HA.out, if_neg hne, if_neg hka])
          have hd3 : (B == allV (patV p gs) gs 0) = false := by simp [hka]
          have HVJ : Hid (∀ W sv, Below w.heap.size w W → IsS W 0 sv (.slice Ag gs.length cg) gs (patNx p.data.toList) (patV p gs) 0 → Calls Try.prog 91 #[sv, .int .i64 B] W fun e w' => e = .returned (.int .i64 (patF p gs B)) ∧ Below W.heap.size W w') := Lib.hid (fun W sv hb hW => HVI.out B W sv hb hW hg0 hbb.1 (by show B < allV (patV p gs) gs 0; omega))
          have hw3 : IntKind.i64.wrap (patF p gs B - (p.size : Int)) = patF p gs B - (p.size : Int) := by rw [IntKind.wrap_i64]; omega
          generalize allV (patV p gs) gs 0 = V at *
          generalize patF p gs B = fz at *
          generalize wordLen gs = WL at *
          clear hk0 hk1 hka hbb hB hnn hne hwb hlt hf1 hf2 HVI HPB HWI HWB hg0
          go_wp2_with fail
          refine (HWL.out _ _ HL4.out).mono ?_
          rintro e w5 ⟨rfl, hw5⟩
          obtain rfl := hw5.symm
          go_wp2_with fail
          refine (HWN.out _ _ HB4.out HS4.out).mono ?_
          rintro e w6 ⟨rfl, hB6⟩
          have HB6 := Lib.hid (HB4.out.trans (hB6.mono HB4.out.size))
          have HS6 := Lib.hid (HS4.out.kept hB6)
          have HC6 := Lib.hid (HC4.out.kept hB6)
          obtain ⟨t0, t1, t2, t3, t4⟩ := b5_cells HC6.out
          clear hB6 s0 s1 s2 s3 s4
          go_wp2_with fail
          refine (HAL.out _ _ HB6.out HS6.out).mono ?_
          rintro e w7 ⟨rfl, hB7⟩
          have HB7 := Lib.hid (HB6.out.trans (hB7.mono HB6.out.size))
          have HS7 := Lib.hid (HS6.out.kept hB7)
          clear t0 t1 t2 t3 t4
          obtain ⟨t0, t1, t2, t3, t4⟩ := b5_cells (HC6.out.kept hB7)
          clear hB7
          go_wp2_with fail
          refine (HVJ.out _ _ HB7.out HS7.out).mono ?_
          rintro e w8 ⟨rfl, hB8⟩
          have HB8 := Lib.hid (HB7.out.trans (hB8.mono HB7.out.size))
          clear hB8 t0 t1 t2 t3 t4
          go_wp2_with fail
          go_ret2
          exact ⟨by rw [HE.out]; rfl, HB8.out⟩
  · rw [if_neg h0]
    have hd : (c == 0) = false := by simp [h0]
    have hd2 : (c != 0) = true := by simp [h0]
    go_enter Try.func32, Try.ntmps32
    go_wp2_with fail
    refine HPS.out.mono ?_
    rintro e w3 ⟨sv, rfl, hyes, hno, hB3⟩
    have hsv := hno h0
    subst hsv
    have HB3 := Lib.hid (HB.out.trans (hB3.mono HB.out.size))
    unfold zeroS
    clear hyes hno hB3 hg
    have HB4 := Lib.hid (HB3.out.alloc HB3.out.size (.cells #[.slice none 0 0, .slice none 0 0, .slice none 0 0, .int .i64 0, .slice none 0 0] 116))
    go_wp2_with fail
    go_ret2
    exact ⟨rfl, HB4.out⟩
end Go.Proofs.Ytaffachjopjbgaa
namespace Go.Proofs.Ytaffachjopjbgaa
open Go.RowKit
open Wd
set_option linter.unusedVariables false
theorem nxt_right_at (wa : Int → Bool) (nx : List (List Int)) {gs : List Rl} {k a b s : Nat} {n : Int} (hfit : fits gs = true) (hk : k < gs.length) (ha : gs[k].l = a) (hb : gs[k].r = b) (hak : a < k) (hbk : b < k) (h0 : 0 < n) (h : n < (lens gs).getD k 0) (hl : (lens gs).getD a 0 ≤ n) :
    nxtF wa nx gs gs.length k s n = if 0 ≤ nxtF wa nx gs gs.length b (at2 (mapsK nx gs gs.length) a s).toNat (n - (lens gs).getD a 0) then (lens gs).getD a 0 + nxtF wa nx gs gs.length b (at2 (mapsK nx gs gs.length) a s).toNat (n - (lens gs).getD a 0) else -1 := by
  obtain ⟨f, hf⟩ : ∃ f, gs.length = f + 1 := ⟨gs.length - 1, by omega⟩
  have h9 := nxt_rightF wa nx (f := f) (s := s) hk ha hb h0 h hl
  rw [nxt_stable wa nx hfit f gs.length b _ _ (by omega) (by omega) (by omega), ← hf] at h9
  exact h9
theorem nxt_left_at (wa : Int → Bool) (nx : List (List Int)) {gs : List Rl} {k a b s : Nat} {n : Int} (hfit : fits gs = true) (hk : k < gs.length) (ha : gs[k].l = a) (hb : gs[k].r = b) (hak : a < k) (hbk : b < k) (h0 : 0 < n) (h : n < (lens gs).getD k 0) (hl : n < (lens gs).getD a 0) :
    nxtF wa nx gs gs.length k s n = if 0 ≤ nxtF wa nx gs gs.length a s n then nxtF wa nx gs gs.length a s n else if 0 ≤ at2 (firK wa nx gs gs.length) b (at2 (mapsK nx gs gs.length) a s).toNat then (lens gs).getD a 0 + at2 (firK wa nx gs gs.length) b (at2 (mapsK nx gs gs.length) a s).toNat else -1 := by
  obtain ⟨f, hf⟩ : ∃ f, gs.length = f + 1 := ⟨gs.length - 1, by omega⟩
  have h9 := nxt_leftF wa nx (f := f) (s := s) hk ha hb h0 h hl
  rw [nxt_stable wa nx hfit f gs.length a s n (by omega) (by omega) (by omega), ← hf] at h9
  exact h9
theorem nxt_zero_at (wa : Int → Bool) (nx : List (List Int)) {gs : List Rl} {k s : Nat} {n : Int} (hk : k < gs.length) (h : n ≤ 0) : nxtF wa nx gs gs.length k s n = at2 (firK wa nx gs gs.length) k s := by
  obtain ⟨f, hf⟩ : ∃ f, gs.length = f + 1 := ⟨gs.length - 1, by omega⟩
  have h9 := nxt_zeroF wa nx gs (f := f) (k := k) (s := s) h
  rw [← hf] at h9
  exact h9
theorem nxt_full_at (wa : Int → Bool) (nx : List (List Int)) {gs : List Rl} {k s : Nat} {n : Int} (hk : k < gs.length) (h0 : 0 < n) (h : (lens gs).getD k 0 ≤ n) : nxtF wa nx gs gs.length k s n = -1 := by
  obtain ⟨f, hf⟩ : ∃ f, gs.length = f + 1 := ⟨gs.length - 1, by omega⟩
  have h9 := nxt_fullF wa nx gs (f := f) (k := k) (s := s) h0 h
  rw [← hf] at h9
  exact h9
/-- between two rules on the way down -/
def NfRel (wa : Int → Bool) (nx : List (List Int)) (gs : List Rl) (N : Nat) (T : Int) (w9 : World) (rv sv nv bv ev : Value) (wr : World) : Prop :=
  ∃ (r s : Nat) (n base best : Int), rv = .int .i64 (r : Int) ∧ sv = .int .i64 (s : Int) ∧ nv = .int .i64 n ∧ bv = .int .i64 base ∧ ev = .int .i64 best ∧ r < gs.length ∧ s < N ∧ n ≤ 4000000000000000 ∧ 0 ≤ base ∧ base + (lens gs).getD r 0 ≤ 1000000000000000 ∧ (if 0 ≤ nxtF wa nx gs gs.length r s n then base + nxtF wa nx gs gs.length r s n else best) = T ∧ Below w9.heap.size w9 wr
set_option maxRecDepth 100000 in
set_option maxHeartbeats 6400000 in
theorem find_spec (X G : Nat) (lv mv fv : Value) (wa : Int → Bool) (nx : List (List Int)) (st : Int) (gs : List Rl) (r0 s0 : Nat) (n0 : Int) (w : World) (h1 : 1 ≤ st) (h24 : st ≤ 24) (hrow : nx.all (rowOk st) = true) (hlen : (nx.length : Int) = st) (hok : gOk gs = true)
    (hX : B4 w X (.pointer (some ⟨G, 0, none⟩)) lv mv fv 135) (hg : GP w G gs) (hl : IsL w lv (lens gs)) (hm : IsLL w mv (mapsN nx gs nx.length gs.length)) (hf : IsLL w fv (firN wa nx gs nx.length gs.length)) (hr : r0 < gs.length) (hs : s0 < nx.length) (hn : n0 ≤ 4000000000000000) :
    Calls Try.prog 101 #[.pointer (some ⟨X, 0, none⟩), .int .i64 (r0 : Int), .int .i64 (s0 : Int), .int .i64 n0] w fun e w' => e = .returned (.int .i64 (nxtF wa nx gs gs.length r0 s0 n0)) ∧ Below w.heap.size w w' := by
  have hfit := (gOk_iff.1 hok).2.1
  obtain ⟨T, hT⟩ : ∃ T, T = nxtF wa nx gs gs.length r0 s0 n0 := ⟨_, rfl⟩
  have hsm := fun j (hj : j < gs.length) => small_at (gOk_iff.1 hok).2.2 j hj
  have hnw := nxt_win wa hrow hlen h1 h24 hfit gs.length r0 s0 n0 (by omega) hr (by omega)
  have HST : Hid (NfRel wa nx gs nx.length T w (.int .i64 (r0 : Int)) (.int .i64 (s0 : Int)) (.int .i64 n0) (.int .i64 0) (.int .i64 (-1)) w) := Lib.hid ⟨r0, s0, n0, 0, -1, rfl, rfl, rfl, rfl, rfl, hr, hs, hn, Int.le_refl _, by have := hsm r0 hr; omega, by
    rw [hT]
    split
    · omega
    · by_cases h : winF wa nx gs gs.length r0 s0 n0 < at2 (visK wa nx gs gs.length) r0 s0
      · have := (hnw.2.2.2 h).2; omega
      · have := hnw.2.2.1 (by omega); omega, Below.refl _ _⟩
  rw [← hT]
  have HXB := Lib.hid hX
  have HL := Lib.hid hl
  have HM := Lib.hid hm
  have HF := Lib.hid hf
  obtain ⟨gv, hgv, hR⟩ := hg
  have HGV := Lib.hid hgv
  have HR := Lib.hid hR
  obtain ⟨Ag, cg, rfl, _⟩ := hR
  have HFIT := Lib.hid hfit
  have HSM := Lib.hid hsm
  have HMP := Lib.hid (fun k t (hk : k < gs.length) (ht : t < 24) => (show 0 ≤ at2 (mapsK nx gs gs.length) k t ∧ at2 (mapsK nx gs gs.length) k t < st from by
    have hma := mapsK_ok hrow hlen h1 h24 hfit gs.length (Nat.le_refl _) k hk
    unfold at2
    rw [List.getD_eq_getElem?_getD (i := t), List.getElem?_eq_getElem (by rw [hma.1]; omega), Option.getD_some]
    exact hma.2 _ (List.getElem_mem (show t < ((mapsK nx gs gs.length).getD k []).length by rw [hma.1]; omega))))
  have HMR := Lib.hid (fun k (hk : k < gs.length) => (mapsK_ok hrow hlen h1 h24 hfit gs.length (Nat.le_refl _) k hk).1)
  have HFB := Lib.hid (fun k s (hk : k < gs.length) (hs : s < 24) => fir_bd wa hrow hlen h1 h24 hfit (k + 1) k s (by omega) hk hs)
  have HRCS := Lib.hid (fun k (hk : k < gs.length) => rule_cases hfit hk)
  have HNL : Hid ((nx.length : Int) = st) := Lib.hid hlen
  have HH24 := Lib.hid (And.intro h1 h24)
  obtain ⟨N, hN⟩ : ∃ N, N = nx.length := ⟨_, rfl⟩
  rw [← hN] at HST HM HF HNL
  have hlv := hl.shape
  obtain ⟨Al, cl, hlv⟩ := hlv
  obtain ⟨Am, cm, hmv, _⟩ := hm
  obtain ⟨Af, cf, hfv, _⟩ := hf
  rw [mapsN_len] at hmv
  rw [firN_len] at hfv
  rw [lens_len] at hlv
  subst hlv hmv hfv
  clear hX hl hgv hfit hsm hnw hr hs hn hT h1 h24 hrow hlen hok hN
  go_enter Try.func101, Try.ntmps101
  go_wp2_with fail
  go_loopw [1, 2, 3, 9, 10] (fun rv sv nv bv ev wr => NfRel wa nx gs N T w rv sv nv bv ev wr) (fun rv _ _ _ _ _ => (intOf rv).toNat)
  case atStart => exact HST.out
  case round =>
    obtain ⟨r, s, n, base, best, rfl, rfl, rfl, rfl, rfl, hrg, hsN, hnb, hb0, hbl, hT, hB⟩ := hrel
    obtain ⟨wu, rfl⟩ : ∃ wu : World, wu = wr := ⟨_, rfl⟩
    have hN24 : N ≤ 24 := by have := HNL.out; have := HH24.out; omega
    have hs24 : s < 24 := by omega
    have HBU := Lib.hid hB
    have r0' : (0 : Int) ≤ (r : Int) := by omega
    have r1' : (r : Int) < (gs.length : Int) := by omega
    have s0' : (0 : Int) ≤ (s : Int) := by omega
    have s1' : (s : Int) < (N : Int) := by omega
    obtain ⟨⟨x0, x1, x2, x3⟩, _⟩ := blk4_cells (HXB.out.kept hB)
    have hfb := HFB.out r s hrg hs24
    have hlp := lens_pos (gs := gs) (k := r) hrg (fun j hj _ => fits_at HFIT.out j hj)
    by_cases hn0 : n ≤ 0
    · rw [nxt_zero_at wa nx hrg hn0] at hT
      have hd : decide (n ≤ 0) = true := decide_eq_true hn0
      obtain ⟨o1, o2, o3, o4⟩ := firN_get (wa := wa) (nx := nx) (gs := gs) (N := N) (k := gs.length) (j := r) (s := s) hrg hsN hN24
      obtain ⟨ay, xa, cy1, cy2, hvy, e0, e1⟩ := ll_get (HF.out.kept hB) o1 o2
      rw [o3] at e0
      rw [o4] at e1
      injection hvy with hvy hx1 hx2
      subst hvy
      clear hx1 hx2 o1 o2 o3 o4
      by_cases hF : 0 ≤ at2 (firK wa nx gs gs.length) r s
      · rw [if_pos hF] at hT
        have HTE := Lib.hid hT
        have hd2 : decide (0 ≤ at2 (firK wa nx gs gs.length) r s) = true := decide_eq_true hF
        have hw : IntKind.i64.wrap (base + at2 (firK wa nx gs gs.length) r s) = base + at2 (firK wa nx gs gs.length) r s := by rw [IntKind.wrap_i64]; omega
        generalize at2 (firK wa nx gs gs.length) r s = F at *
        clear hfb hT hF hn0 hbl hB hlp hnb hb0
        go_wp2_with fail
        go_ret
        exact ⟨by rw [← HTE.out]; rfl, HBU.out⟩
      · rw [if_neg hF] at hT
        have HTE := Lib.hid hT
        have hd2 : decide (0 ≤ at2 (firK wa nx gs gs.length) r s) = false := decide_eq_false hF
        generalize at2 (firK wa nx gs gs.length) r s = F at *
        clear hfb hT hF hn0 hbl hB hlp hnb hb0
        go_wp2_with fail
        go_ret
        exact ⟨by rw [← HTE.out]; rfl, HBU.out⟩
    · have hd : decide (n ≤ 0) = false := decide_eq_false hn0
      obtain ⟨Al2, cl2, hvl, hl0 | ⟨xl, hAl, hlc⟩⟩ := (HL.out.kept hB)
      · have := lens_len gs; rw [hl0] at this; simp at this; omega
      rw [lens_len] at hvl
      injection hvl with hvl hx1 hx2
      clear hx1 hx2
      rw [hAl] at hvl
      subst hvl
      have l0 := hlc r (by rw [lens_len]; exact hrg)
      rw [show (lens gs)[r]'(by rw [lens_len]; exact hrg) = (lens gs).getD r 0 from by rw [List.getD_eq_getElem?_getD, List.getElem?_eq_getElem (by rw [lens_len]; exact hrg)]; rfl] at l0
      by_cases hnl : (lens gs).getD r 0 ≤ n
      · rw [nxt_full_at wa nx hrg (by omega) hnl, if_neg (by omega)] at hT
        have HTE := Lib.hid hT
        have hd2 : decide ((lens gs).getD r 0 ≤ n) = true := decide_eq_true hnl
        generalize (lens gs).getD r 0 = lr at *
        clear hfb hT hn0 hnl hbl hB hlp hnb hb0 hlc
        go_wp2_with fail
        go_ret
        exact ⟨by rw [← HTE.out]; rfl, HBU.out⟩
      · have hd2 : decide ((lens gs).getD r 0 ≤ n) = false := decide_eq_false hnl
        rcases HRCS.out r hrg with hz | ⟨hz, a, b, ha, hb, hak, hbk⟩
        · have := vals_letter (fun a b => a + b) gs r hrg hz
          have e : (lens gs).getD r 0 = 1 := this
          omega
        have hsumr : (lens gs).getD r 0 = (lens gs).getD a 0 + (lens gs).getD b 0 := by
          have := vals_pair (fun a b => a + b) gs r hrg hz (fits_at HFIT.out r hrg)
          rw [ha, hb, Int.toNat_natCast, Int.toNat_natCast] at this
          exact this
        have hqm := HMP.out a s (by omega) hs24
        obtain ⟨q, hq⟩ : ∃ q : Nat, at2 (mapsK nx gs gs.length) a s = q := ⟨(at2 (mapsK nx gs gs.length) a s).toNat, by omega⟩
        have hqN : q < N := by have := HNL.out; omega
        have lpa := lens_pos (gs := gs) (k := a) (by omega) (fun j hj _ => fits_at HFIT.out j hj)
        have lpb := lens_pos (gs := gs) (k := b) (by omega) (fun j hj _ => fits_at HFIT.out j hj)
        have hfbb := HFB.out b q (by omega) (by omega)
        obtain ⟨Ag2, cg2, hvg, hg0 | ⟨g, hgA, hgl, hgc⟩⟩ := (HR.out.kept hB)
        · rw [hg0] at hrg; simp at hrg
        injection hvg with hvg hx1 hx2
        clear hx1 hx2
        rw [hgA] at hvg
        subst hvg
        have gcu := (hB.cell (lt_of_cell HGV.out)).trans HGV.out
        obtain ⟨a0, a1, a2⟩ := rules_cells hgc hrg
        have hemp := empty_arr hz
        rw [hemp] at a0
        rw [ha] at a1
        rw [hb] at a2
        have hbk7 := (Below.refl _ wu).alloc (Nat.le_refl _) (.cells #[.string ⟨#[]⟩, .int .i64 (a : Int), .int .i64 (b : Int)] 127)
        have hK7 := heap_alloc_new wu (.cells #[.string ⟨#[]⟩, .int .i64 (a : Int), .int .i64 (b : Int)] 127)
        have hKl : wu.heap.size < (wu.alloc (.cells #[.string ⟨#[]⟩, .int .i64 (a : Int), .int .i64 (b : Int)] 127)).heap.size := by simp
        have hB' : Below w.heap.size w (wu.alloc (.cells #[.string ⟨#[]⟩, .int .i64 (a : Int), .int .i64 (b : Int)] 127)) := hB.trans (hbk7.mono hB.size)
        -- the tables' entries, in any world from here on
        obtain ⟨m1, m2, m3, m4⟩ := mapsN_at (nx := nx) (gs := gs) (N := N) (k := gs.length) (j := a) (s := s) (by omega) hsN (HMR.out a (by omega)) hN24
        obtain ⟨am, xm, cm1, cm2, hvm, g0, g1⟩ := ll_get HM.out m1 m2
        rw [m3] at g0
        rw [m4, hq] at g1
        injection hvm with hvm hx1 hx2
        subst hvm
        clear hx1 hx2 m1 m2 m3 m4
        obtain ⟨o1, o2, o3, o4⟩ := firN_get (wa := wa) (nx := nx) (gs := gs) (N := N) (k := gs.length) (j := b) (s := q) (by omega) hqN hN24
        obtain ⟨ay, xa, cy1, cy2, hvy, e0, e1⟩ := ll_get HF.out o1 o2
        rw [o3] at e0
        rw [o4] at e1
        injection hvy with hvy hx1 hx2
        subst hvy
        clear hx1 hx2 o1 o2 o3 o4
        have la0 := hlc a (by rw [lens_len]; omega)
        rw [show (lens gs)[a]'(by rw [lens_len]; omega) = (lens gs).getD a 0 from by rw [List.getD_eq_getElem?_getD, List.getElem?_eq_getElem (by rw [lens_len]; omega)]; rfl] at la0
        obtain ⟨wk, hwk⟩ : ∃ wk, wk = wu.alloc (.cells #[.string ⟨#[]⟩, .int .i64 (a : Int), .int .i64 (b : Int)] 127) := ⟨_, rfl⟩
        rw [← hwk] at hbk7 hK7 hKl hB'
        obtain ⟨Kp, hKp⟩ : ∃ Kp, Kp = wu.heap.size := ⟨_, rfl⟩
        rw [← hKp] at hK7 hKl
        have HCF := Lib.hid (fun W (h : Below wk.heap.size wk W) => And.intro (blk4_cells (HXB.out.kept (hB'.trans (h.mono hB'.size)))).1 (And.intro (rule3_cells ((h.block Kp hKl).trans hK7)) (And.intro (((hB'.trans (h.mono hB'.size)).cell (lt_of_cell g0)).trans g0) (And.intro (((hB'.trans (h.mono hB'.size)).cell (lt_of_cell g1)).trans g1) (And.intro (((hB'.trans (h.mono hB'.size)).cell (lt_of_cell e0)).trans e0) (And.intro (((hB'.trans (h.mono hB'.size)).cell (lt_of_cell e1)).trans e1) (((hbk7.trans (h.mono hbk7.size)).cell (lt_of_cell la0)).trans la0)))))))
        have HBW := Lib.hid (fun W (h : Below wk.heap.size wk W) => hB'.trans (h.mono hB'.size))
        have HWK := Lib.hid hwk
        have HKE := Lib.hid hKp
        have a0' : (0 : Int) ≤ (a : Int) := by omega
        have a1' : (a : Int) < (gs.length : Int) := by omega
        have b0' : (0 : Int) ≤ (b : Int) := by omega
        have b1' : (b : Int) < (gs.length : Int) := by omega
        have q0' : (0 : Int) ≤ (q : Int) := by omega
        have q1' : (q : Int) < (N : Int) := by omega
        by_cases hla : (lens gs).getD a 0 ≤ n
        · rw [nxt_right_at wa nx HFIT.out hrg ha hb hak hbk (by omega) (by omega) hla, hq, Int.toNat_natCast] at hT
          have hd3 : decide ((lens gs).getD a 0 ≤ n) = true := decide_eq_true hla
          have hw1 : IntKind.i64.wrap (base + (lens gs).getD a 0) = base + (lens gs).getD a 0 := by rw [IntKind.wrap_i64]; omega
          have hw2 : IntKind.i64.wrap (n - (lens gs).getD a 0) = n - (lens gs).getD a 0 := by rw [IntKind.wrap_i64]; omega
          have HNX : Hid (∀ W, Below wk.heap.size wk W → NfRel wa nx gs N T w (.int .i64 (b : Int)) (.int .i64 (q : Int)) (.int .i64 (n - (lens gs).getD a 0)) (.int .i64 (base + (lens gs).getD a 0)) (.int .i64 best) W) := Lib.hid (fun W h => ⟨b, q, _, _, _, rfl, rfl, rfl, rfl, rfl, by omega, hqN, by omega, by omega, by omega, by
            rw [← hT]
            generalize nxtF wa nx gs gs.length b q (n - (lens gs).getD a 0) = z
            by_cases hz0 : 0 ≤ z
            · rw [if_pos hz0, if_pos hz0, if_pos (by omega)]; omega
            · rw [if_neg hz0, if_neg hz0, if_neg (by omega)], HBW.out W h⟩)
          have HKB : Hid (b < r) := Lib.hid hbk
          generalize gs[r] = x at *
          obtain ⟨RL, rl, rr⟩ := x
          clear hfb hT hn0 hnl hbl hB hB' hbk7 hK7 hKl hlp hnb hb0 hlc hgc hz hsumr hqm hq lpa lpb hfbb hemp ha hb hAl hgA g0 g1 e0 e1 la0 hla hwk hKp
          generalize (lens gs).getD r 0 = lr at *
          generalize (lens gs).getD a 0 = la at *
          go_upto_region 10 with fail
          rw [← HWK.out, ← HKE.out]
          clear x0 x1 x2 x3 a0 a1 a2 gcu l0 hd hd2
          obtain ⟨⟨x0, x1, x2, x3⟩, ⟨kc0, kc1, kc2⟩, g0, g1, e0, e1, la0⟩ := HCF.out wk (Below.refl _ _)
          go_quiet (fail)
          have hbq := below_drewN (Below.refl wk.heap.size wk) nq
          generalize wk.drewN nq = w7 at *
          clear x0 x1 x2 x3 kc0 kc1 kc2 g0 g1 e0 e1 la0
          obtain ⟨⟨x0, x1, x2, x3⟩, ⟨kc0, kc1, kc2⟩, g0, g1, e0, e1, la0⟩ := HCF.out w7 hbq
          have HQ7 := Lib.hid hbq
          clear hbq
          go_upto_region 11 with fail
          go_quiet (fail)
          have hbq := HQ7.out.trans (below_drewN (Below.refl w7.heap.size w7) nq |>.mono HQ7.out.size)
          generalize w7.drewN nq = w8 at *
          clear x0 x1 x2 x3 kc0 kc1 kc2 g0 g1 e0 e1 la0
          obtain ⟨⟨x0, x1, x2, x3⟩, ⟨kc0, kc1, kc2⟩, g0, g1, e0, e1, la0⟩ := HCF.out w8 hbq
          have HN8 := Lib.hid (HNX.out w8 hbq)
          clear hbq
          go_wp2_with fail
          go_roundw
          case rel => first | exact HN8.out | ((repeat apply Exists.intro); exact ⟨HN8.out, rfl⟩)
          case measure => (have := HKB.out; first | (simp [intOf]; done) | (simp [intOf]; omega))
        · rw [nxt_left_at wa nx HFIT.out hrg ha hb hak hbk (by omega) (by omega) (by omega), hq, Int.toNat_natCast] at hT
          have hd3 : decide ((lens gs).getD a 0 ≤ n) = false := decide_eq_false hla
          have HKB : Hid (a < r) := Lib.hid hak
          by_cases hF : 0 ≤ at2 (firK wa nx gs gs.length) b q
          · have hd4 : decide (0 ≤ at2 (firK wa nx gs gs.length) b q) = true := decide_eq_true hF
            have hw1 : IntKind.i64.wrap (base + (lens gs).getD a 0) = base + (lens gs).getD a 0 := by rw [IntKind.wrap_i64]; omega
            have hw2 : IntKind.i64.wrap (base + (lens gs).getD a 0 + at2 (firK wa nx gs gs.length) b q) = base + (lens gs).getD a 0 + at2 (firK wa nx gs gs.length) b q := by rw [IntKind.wrap_i64]; omega
            have HNX : Hid (∀ W, Below wk.heap.size wk W → NfRel wa nx gs N T w (.int .i64 (a : Int)) (.int .i64 (s : Int)) (.int .i64 n) (.int .i64 base) (.int .i64 (base + (lens gs).getD a 0 + at2 (firK wa nx gs gs.length) b q)) W) := Lib.hid (fun W h => ⟨a, s, _, _, _, rfl, rfl, rfl, rfl, rfl, by omega, hsN, by omega, by omega, by omega, by
              rw [← hT, if_pos hF]
              generalize nxtF wa nx gs gs.length a s n = z
              by_cases hz0 : 0 ≤ z
              · rw [if_pos hz0, if_pos hz0, if_pos (by omega)]
              · rw [if_neg hz0, if_neg hz0, if_pos (by omega)]; omega, HBW.out W h⟩)
            generalize gs[r] = x at *
            obtain ⟨RL, rl, rr⟩ := x
            clear hfb hT hn0 hnl hbl hB hB' hbk7 hK7 hKl hlp hnb hb0 hlc hgc hz hsumr hqm hq lpa lpb hfbb hemp ha hb hAl hgA g0 g1 e0 e1 la0 hla hwk hKp hF
            generalize (lens gs).getD r 0 = lr at *
            generalize (lens gs).getD a 0 = la at *
            generalize at2 (firK wa nx gs gs.length) b q = F at *
            go_upto_region 10 with fail
            rw [← HWK.out, ← HKE.out]
            clear x0 x1 x2 x3 a0 a1 a2 gcu l0 hd hd2
            obtain ⟨⟨x0, x1, x2, x3⟩, ⟨kc0, kc1, kc2⟩, g0, g1, e0, e1, la0⟩ := HCF.out wk (Below.refl _ _)
            go_quiet (fail)
            have hbq := below_drewN (Below.refl wk.heap.size wk) nq
            generalize wk.drewN nq = w7 at *
            clear x0 x1 x2 x3 kc0 kc1 kc2 g0 g1 e0 e1 la0
            obtain ⟨⟨x0, x1, x2, x3⟩, ⟨kc0, kc1, kc2⟩, g0, g1, e0, e1, la0⟩ := HCF.out w7 hbq
            have HQ7 := Lib.hid hbq
            clear hbq
            go_upto_region 11 with fail
            go_quiet (fail)
            have hbq := HQ7.out.trans (below_drewN (Below.refl w7.heap.size w7) nq |>.mono HQ7.out.size)
            generalize w7.drewN nq = w8 at *
            clear x0 x1 x2 x3 kc0 kc1 kc2 g0 g1 e0 e1 la0
            obtain ⟨⟨x0, x1, x2, x3⟩, ⟨kc0, kc1, kc2⟩, g0, g1, e0, e1, la0⟩ := HCF.out w8 hbq
            have HQ8 := Lib.hid hbq
            clear hbq
            go_upto_region 17 with fail
            go_quiet (fail)
            have hbq := HQ8.out.trans (below_drewN (Below.refl w8.heap.size w8) nq |>.mono HQ8.out.size)
            generalize w8.drewN nq = w9 at *
            clear x0 x1 x2 x3 kc0 kc1 kc2 g0 g1 e0 e1 la0
            obtain ⟨⟨x0, x1, x2, x3⟩, ⟨kc0, kc1, kc2⟩, g0, g1, e0, e1, la0⟩ := HCF.out w9 hbq
            have HQ9 := Lib.hid hbq
            clear hbq
            go_upto_region 18 with fail
            go_quiet (fail)
            have hbq := HQ9.out.trans (below_drewN (Below.refl w9.heap.size w9) nq |>.mono HQ9.out.size)
            generalize w9.drewN nq = w10 at *
            clear x0 x1 x2 x3 kc0 kc1 kc2 g0 g1 e0 e1 la0
            obtain ⟨⟨x0, x1, x2, x3⟩, ⟨kc0, kc1, kc2⟩, g0, g1, e0, e1, la0⟩ := HCF.out w10 hbq
            have HN8 := Lib.hid (HNX.out w10 hbq)
            clear hbq
            go_wp2_with fail
            go_roundw
            case rel => first | exact HN8.out | ((repeat apply Exists.intro); exact ⟨HN8.out, rfl⟩)
            case measure => (have := HKB.out; first | (simp [intOf]; done) | (simp [intOf]; omega))
          · have hd4 : decide (0 ≤ at2 (firK wa nx gs gs.length) b q) = false := decide_eq_false hF
            have HNX : Hid (∀ W, Below wk.heap.size wk W → NfRel wa nx gs N T w (.int .i64 (a : Int)) (.int .i64 (s : Int)) (.int .i64 n) (.int .i64 base) (.int .i64 best) W) := Lib.hid (fun W h => ⟨a, s, _, _, _, rfl, rfl, rfl, rfl, rfl, by omega, hsN, by omega, by omega, by omega, by
              rw [← hT, if_neg hF]
              generalize nxtF wa nx gs gs.length a s n = z
              by_cases hz0 : 0 ≤ z
              · rw [if_pos hz0, if_pos hz0, if_pos (by omega)]
              · rw [if_neg hz0, if_neg hz0, if_neg (by omega)], HBW.out W h⟩)
            generalize gs[r] = x at *
            obtain ⟨RL, rl, rr⟩ := x
            clear hfb hT hn0 hnl hbl hB hB' hbk7 hK7 hKl hlp hnb hb0 hlc hgc hz hsumr hqm hq lpa lpb hfbb hemp ha hb hAl hgA g0 g1 e0 e1 la0 hla hwk hKp hF
            generalize (lens gs).getD r 0 = lr at *
            generalize (lens gs).getD a 0 = la at *
            generalize at2 (firK wa nx gs gs.length) b q = F at *
            go_upto_region 10 with fail
            rw [← HWK.out, ← HKE.out]
            clear x0 x1 x2 x3 a0 a1 a2 gcu l0 hd hd2
            obtain ⟨⟨x0, x1, x2, x3⟩, ⟨kc0, kc1, kc2⟩, g0, g1, e0, e1, la0⟩ := HCF.out wk (Below.refl _ _)
            go_quiet (fail)
            have hbq := below_drewN (Below.refl wk.heap.size wk) nq
            generalize wk.drewN nq = w7 at *
            clear x0 x1 x2 x3 kc0 kc1 kc2 g0 g1 e0 e1 la0
            obtain ⟨⟨x0, x1, x2, x3⟩, ⟨kc0, kc1, kc2⟩, g0, g1, e0, e1, la0⟩ := HCF.out w7 hbq
            have HQ7 := Lib.hid hbq
            clear hbq
            go_upto_region 11 with fail
            go_quiet (fail)
            have hbq := HQ7.out.trans (below_drewN (Below.refl w7.heap.size w7) nq |>.mono HQ7.out.size)
            generalize w7.drewN nq = w8 at *
            clear x0 x1 x2 x3 kc0 kc1 kc2 g0 g1 e0 e1 la0
            obtain ⟨⟨x0, x1, x2, x3⟩, ⟨kc0, kc1, kc2⟩, g0, g1, e0, e1, la0⟩ := HCF.out w8 hbq
            have HQ8 := Lib.hid hbq
            clear hbq
            go_upto_region 17 with fail
            go_quiet (fail)
            have hbq := HQ8.out.trans (below_drewN (Below.refl w8.heap.size w8) nq |>.mono HQ8.out.size)
            generalize w8.drewN nq = w9 at *
            clear x0 x1 x2 x3 kc0 kc1 kc2 g0 g1 e0 e1 la0
            obtain ⟨⟨x0, x1, x2, x3⟩, ⟨kc0, kc1, kc2⟩, g0, g1, e0, e1, la0⟩ := HCF.out w9 hbq
            have HN8 := Lib.hid (HNX.out w9 hbq)
            clear hbq
            go_wp2_with fail
            go_roundw
            case rel => first | exact HN8.out | ((repeat apply Exists.intro); exact ⟨HN8.out, rfl⟩)
            case measure => (have := HKB.out; first | (simp [intOf]; done) | (simp [intOf]; omega))
end Go.Proofs.Ytaffachjopjbgaa
namespace Go.Proofs.Ytaffachjopjbgaa
open Go.RowKit
open Wd
set_option linter.unusedVariables false
set_option maxRecDepth 100000 in
set_option maxHeartbeats 3200000 in
theorem specNextPattern (gv : Value) (gs : List Rl) (p : ByteArray) (k : Int) (w : World) (hfr : FewR gs) (hr : Rules w gv gs) (hpm : p.size ≤ maxLen) (hkb : -9223372036854775808 ≤ k ∧ k ≤ 9223372036854775807) :
    Calls Try.prog 31 #[.agg #[gv], .string p, .int .i64 k] w fun e w' => e = .returned (.tuple #[.int .i64 (npA gs p k).1, .int .i64 (npA gs p k).2]) ∧ Below w.heap.size w w' := by
  have HRU := Lib.hid (fun W (hb : Below w.heap.size w W) => hr.kept hb)
  have hb := (Below.refl _ w).alloc (Nat.le_refl _) (.cells #[gv] 37)
  have hG : GP (w.alloc (.cells #[gv] 37)) w.heap.size gs := rules_gpT hr 37
  have hg := cell_new w gv 37
  have HA := Lib.hid (l04Asked_any w.heap.size gs p _ hfr hpm hG)
  have HB := Lib.hid hb
  have HG := Lib.hid hG
  have HGC := Lib.hid hg
  obtain ⟨Ag, cg, rfl, hRx⟩ := hr
  clear hb hRx hG hg
  unfold npA
  obtain ⟨c, hc⟩ : ∃ c, c = askN (gOk gs) (okL p.data.toList) p.size := ⟨_, rfl⟩
  rw [← hc] at HA ⊢
  by_cases h0 : c = 0
  · rw [if_pos h0]
    obtain ⟨hok, ho, hp0, h20⟩ := ask_size (hc.symm.trans h0)
    have hl : p.data.toList.length = p.size := by simp
    have haok := patA_ok (p := p.data.toList) (by omega)
    obtain ⟨⟨h1, h24⟩, hrow, hlen⟩ := aOk_parts haok
    have hrow : (patNx p.data.toList).all (rowOk ((p.data.toList.length : Int) + 1)) = true := hrow
    have hlen : ((patNx p.data.toList).length : Int) = (p.data.toList.length : Int) + 1 := hlen
    have h1 : 1 ≤ (p.data.toList.length : Int) + 1 := h1
    have h24 : (p.data.toList.length : Int) + 1 ≤ 24 := h24
    have hnl := patNx_len p.data.toList
    have hfit := (gOk_iff.1 hok).2.1
    have hn400 := gOk_len hok
    have HP := Lib.hid (fun W => l04Pattern_any p W h20)
    have HMA := Lib.hid (fun nv W (hN : IsLL W nv (patNx p.data.toList)) hg => l04Maps_any nv (patNx p.data.toList) ((p.data.toList.length : Int) + 1) w.heap.size gs W h1 h24 hrow hlen hN hfit hn400 hg)
    have HFA := Lib.hid (fun nv lv lo W (hN : IsLL W nv (patNx p.data.toList)) hg hl => l04First_any nv (patNx p.data.toList) ((p.data.toList.length : Int) + 1) (p.size : Int) w.heap.size lo lv gs W h1 h24 hrow hlen hN hok hg hl)
    have HFD := Lib.hid (fun X lv mv fv (r0 s0 : Nat) n0 W hX hg hl hm hf hr hs hn => find_spec X w.heap.size lv mv fv (fun q => decide (q = (p.size : Int))) (patNx p.data.toList) ((p.data.toList.length : Int) + 1) gs r0 s0 n0 W h1 h24 hrow hlen hok hX hg hl hm hf hr hs hn)
    have HLE := Lib.hid (fun W hg => l02Length_any w.heap.size gs W hfr hg (by rw [(gOk_iff.1 hok).2.1, (gOk_iff.1 hok).2.2]; rfl))
    have HLS : Hid (∀ W, GP W w.heap.size gs → Calls Try.prog 81 #[.pointer (some ⟨w.heap.size, 0, none⟩)] W fun e w' => ∃ x, e = .returned (.tuple #[x, .bool true]) ∧ OwnsI w' W.heap.size x (lens gs) ∧ Below W.heap.size W w') := Lib.hid (fun W hg => by
      refine (lengths_any w.heap.size gs W hfr hg).mono ?_
      rintro e w' ⟨x, rfl, ho, hB⟩
      rw [hok]
      exact ⟨x, rfl, ho hok, hB⟩)
    have hwb : 0 ≤ wordLen gs ∧ wordLen gs ≤ 1000000000000000 := by
      by_cases hg0 : gs.length = 0
      · rw [wordLen_zero hg0]; omega
      · have h4 := small_at (gOk_iff.1 hok).2.2 (gs.length - 1) (by omega)
        have h5 := lens_pos (gs := gs) (k := gs.length - 1) (by omega) (fun j hj _ => fits_at (gOk_iff.1 hok).2.1 j hj)
        unfold wordLen
        omega
    have HWB := Lib.hid hwb
    have HNUM : Hid (∀ nn : Int, 0 < gs.length → (patW p gs nn = allV (patV p gs) gs 0 ∧ nxtF (fun q => decide (q = (p.size : Int))) (patNx p.data.toList) gs gs.length (gs.length - 1) 0 nn = -1) ∨ (patW p gs nn ≠ allV (patV p gs) gs 0 ∧ nxtF (fun q => decide (q = (p.size : Int))) (patNx p.data.toList) gs gs.length (gs.length - 1) 0 nn = patF p gs (patW p gs nn) ∧ 1 ≤ patF p gs (patW p gs nn) ∧ patF p gs (patW p gs nn) ≤ 1000000000000000)) := Lib.hid (fun nn hg0 => by
      have hw := nxt_win (fun q => decide (q = (p.size : Int))) hrow hlen h1 h24 hfit gs.length (gs.length - 1) 0 nn (by omega) (by omega) (by omega)
      have hpw : patW p gs nn = winF (fun q => decide (q = (p.size : Int))) (patNx p.data.toList) gs gs.length (gs.length - 1) 0 nn := by
        unfold patW winW
        rw [if_neg (by omega)]
        rfl
      have hal : allV (patV p gs) gs 0 = at2 (visK (fun q => decide (q = (p.size : Int))) (patNx p.data.toList) gs gs.length) (gs.length - 1) 0 := by
        unfold allV patV
        rw [if_neg (by omega)]
        rfl
      by_cases he : patW p gs nn = allV (patV p gs) gs 0
      · exact .inl ⟨he, hw.2.2.1 (by rw [← hpw, ← hal]; exact he)⟩
      · have hlt : patW p gs nn < allV (patV p gs) gs 0 := by rw [hpw, hal] at he ⊢; have := hw.2.1; omega
        have h9 := hw.2.2.2 (by rw [← hpw, ← hal]; exact hlt)
        have h8 := patF_bd (k := patW p gs nn) h20 hok (by rw [hpw]; exact hw.1) hlt
        refine .inr ⟨he, ?_, h8.2.1, h8.2.2⟩
        rw [h9.1, ← hpw]
        rfl)
    have HZ0 : Hid (gs.length = 0 → ∀ nn, patW p gs nn = allV (patV p gs) gs 0) := Lib.hid (fun h nn => by unfold patW winW allV; rw [if_pos h, if_pos h])
    have HUN : Hid ((patNx p.data.toList).length = p.size + 1) := Lib.hid (by omega)
    have HPL : Hid (p.data.toList.length = p.size) := Lib.hid hl
    have HH20 := Lib.hid h20
    obtain ⟨ans, hans⟩ : ∃ ans : Int × Int, ans = (if k < 0 ∨ wordLen gs < k then (0, 2) else if patW p gs (k + p.size - 1) = allV (patV p gs) gs 0 then (0, 6) else (patF p gs (patW p gs (k + p.size - 1)) - p.size, 0)) := ⟨_, rfl⟩
    rw [← hans]
    have HAN := Lib.hid hans
    obtain ⟨NX, hNX⟩ : ∃ NX, NX = patNx p.data.toList := ⟨_, rfl⟩
    rw [← hNX] at HMA HFA HFD HUN HNUM
    have HNX := Lib.hid hNX
    obtain ⟨wa, hwa⟩ : ∃ wa : Int → Bool, wa = fun q => decide (q = (p.size : Int)) := ⟨_, rfl⟩
    rw [← hwa] at HFA HFD HNUM
    clear hans hok ho haok h1 h24 hrow hlen hnl hc hl hp0 hfit hNX hwa hwb
    subst h0
    go_enter Try.func31, Try.ntmps31
    go_wp2_with fail
    refine HA.out.mono ?_
    rintro e w3 ⟨rfl, hB3⟩
    have HB3 := Lib.hid (HB.out.trans (hB3.mono HB.out.size))
    have HG3 := Lib.hid (HG.out.kept hB3)
    have hg3 := (hB3.cell (lt_of_cell HGC.out)).trans HGC.out
    have HGC3 := Lib.hid hg3
    clear hB3
    go_wp2_with fail
    refine (HLE.out _ HG3.out).mono ?_
    rintro e w4 ⟨rfl, hB4⟩
    have HB4 := Lib.hid (HB3.out.trans (hB4.mono HB3.out.size))
    have HG4 := Lib.hid (HG3.out.kept hB4)
    have HGC4 := Lib.hid ((hB4.cell (lt_of_cell HGC3.out)).trans HGC3.out)
    have hg4 := HGC4.out
    have HIN := Lib.hid (fun W => inB_any k 0 (wordLen gs) W)
    clear hB4 hg3
    by_cases hk0 : 0 ≤ k ∧ k ≤ wordLen gs
    case neg =>
      have HE : Hid (ans = (0, 2)) := Lib.hid (by rw [HAN.out, if_pos (by omega)])
      rw [decide_eq_false hk0] at HIN
      generalize wordLen gs = WL at *
      clear hk0
      go_wp2_with fail
      refine (HIN.out _).mono ?_
      rintro e w5 ⟨rfl, hw5⟩
      obtain rfl := hw5.symm
      go_wp2_with fail
      go_ret2
      exact ⟨by rw [HE.out]; rfl, HB4.out⟩
    case pos =>
      rw [decide_eq_true hk0] at HIN
      have hne : ¬ (k < 0 ∨ wordLen gs < k) := by omega
      have hwb := HWB.out
      obtain ⟨nn, hnn⟩ : ∃ nn, nn = k + (p.size : Int) - 1 := ⟨_, rfl⟩
      have HAN2 : Hid (ans = (if patW p gs nn = allV (patV p gs) gs 0 then (0, 6) else (patF p gs (patW p gs nn) - p.size, 0))) := Lib.hid (by rw [HAN.out, if_neg hne, hnn])
      have hw1 : IntKind.i64.wrap (k + (p.size : Int)) = k + (p.size : Int) := by have := HH20.out; rw [IntKind.wrap_i64]; omega
      have hw2 : IntKind.i64.wrap (k + (p.size : Int) - 1) = nn := by have := HH20.out; rw [IntKind.wrap_i64]; omega
      have HNB : Hid (nn ≤ 4000000000000000) := Lib.hid (by have := HH20.out; omega)
      clear hne hnn HAN
      by_cases hg0 : gs.length = 0
      · have HE : Hid (ans = (0, 6)) := Lib.hid (by rw [HAN2.out, if_pos (HZ0.out hg0 nn)])
        rw [hg0] at hg4
        generalize wordLen gs = WL at *
        clear hk0 hwb
        go_wp2_with fail
        refine (HIN.out _).mono ?_
        rintro e w5 ⟨rfl, hw5⟩
        obtain rfl := hw5.symm
        go_wp2_with fail
        go_ret2
        exact ⟨by rw [HE.out]; rfl, HB4.out⟩
      · obtain ⟨m, hm⟩ : ∃ m, gs.length = m + 1 := ⟨gs.length - 1, by omega⟩
        have hz0 : ((gs.length : Int) == 0) = false := beq_eq_false_iff_ne.2 (by omega)
        have hmlt : m < gs.length := by omega
        have hsub : IntKind.i64.wrap ((gs.length : Int) - 1) = (m : Int) := by rw [IntKind.wrap_i64]; omega
        have hnum := HNUM.out nn (by omega)
        rw [show gs.length - 1 = m from by omega] at hnum
        have HNM := Lib.hid hnum
        have HML := Lib.hid hmlt
        generalize wordLen gs = WL at *
        clear hg0 hm hk0 hwb hnum hmlt HNUM
        go_wp2_with fail
        refine (HIN.out _).mono ?_
        rintro e w4' ⟨rfl, hw5⟩
        obtain rfl := hw5.symm
        go_wp2_with fail
        refine (HP.out _).mono ?_
        rintro e w5 ⟨f, n, U, rfl, hA, hB5⟩
        have HB5 := Lib.hid (HB4.out.trans (hB5.mono HB4.out.size))
        have HG5 := Lib.hid (HG4.out.kept hB5)
        have HGC5 := Lib.hid ((hB5.cell (lt_of_cell HGC4.out)).trans HGC4.out)
        have hLL := hA.nx.isLL
        have hul := hA.nx.len
        rw [show (patA p.data.toList).nx = NX from HNX.out.symm] at hLL hul
        obtain ⟨Af, cf, rfl⟩ := own_slice hA.fin
        obtain ⟨An, cn, rfl⟩ := own_slice hA.nx.outer
        rw [HUN.out] at hul
        rw [hul] at hLL
        rw [hul]
        have HLL := Lib.hid hLL
        obtain ⟨ST, hST⟩ : ∃ ST, ST = (patA p.data.toList).st := ⟨_, rfl⟩
        obtain ⟨GO, hGO⟩ : ∃ GO, GO = (patA p.data.toList).go := ⟨_, rfl⟩
        obtain ⟨FL, hFL⟩ : ∃ FL, FL = (patA p.data.toList).fin.length := ⟨_, rfl⟩
        rw [← hST, ← hGO, ← hFL]
        have hb6 := (Below.refl _ w5).alloc (Nat.le_refl _) (.cells #[.int .i64 ST, .int .i64 GO, .slice Af FL cf, .slice An (p.size + 1) cn] 33)
        have HB6 := Lib.hid (HB5.out.trans (hb6.mono HB5.out.size))
        have HG6 := Lib.hid (HG5.out.kept hb6)
        have HGC6 := Lib.hid ((hb6.cell (lt_of_cell HGC5.out)).trans HGC5.out)
        have HL6 := Lib.hid (HLL.out.kept hb6)
        have HAB : Hid (B4 (w5.alloc (.cells #[.int .i64 ST, .int .i64 GO, .slice Af FL cf, .slice An (p.size + 1) cn] 33)) w5.heap.size _ _ _ _ _) := Lib.hid (B4.new w5 (.int .i64 ST) (.int .i64 GO) (.slice Af FL cf) (.slice An (p.size + 1) cn) 33)
        clear hA hB5 hb6 hST hGO hFL hul hLL hg4
        go_upto_region 9 with fail
        obtain ⟨Ab, hAb⟩ : ∃ Ab, Ab = w5.heap.size := ⟨_, rfl⟩
        rw [← hAb] at HAB ⊢
        generalize w5.alloc (.cells #[.int .i64 ST, .int .i64 GO, .slice Af FL cf, .slice An (p.size + 1) cn] 33) = w6 at *
        clear hAb
        go_wp2_with fail
        refine (HLS.out _ HG6.out).mono ?_
        rintro e w7 ⟨lv, rfl, hlv, hB7⟩
        have HB7 := Lib.hid (HB6.out.trans (hB7.mono HB6.out.size))
        have HG7 := Lib.hid (HG6.out.kept hB7)
        have HL7 := Lib.hid (HL6.out.kept hB7)
        have HAB7 := Lib.hid (HAB.out.kept hB7)
        have HGC7 := Lib.hid ((hB7.cell (lt_of_cell HGC6.out)).trans HGC6.out)
        have HLV7 := Lib.hid hlv
        obtain ⟨Al, cl, hlveq⟩ := own_slice hlv
        rw [lens_len] at hlveq
        subst hlveq
        clear hB7 hlv
        go_upto_region 10 with fail
        obtain ⟨⟨p0, p1, p2, p3⟩, _⟩ := blk4_cells HAB7.out
        have HLK := Lib.hid (fun W (hb : Below w7.heap.size w7 W) => own_below HLV7.out hb (Nat.le_refl _))
        have HGK := Lib.hid (fun W (hb : Below w7.heap.size w7 W) => HG7.out.kept hb)
        have HNK := Lib.hid (fun W (hb : Below w7.heap.size w7 W) => HL7.out.kept hb)
        have HCK := Lib.hid (fun W (hb : Below w7.heap.size w7 W) => (blk4_cells (HAB7.out.kept hb)).1.2.2.2)
        have HMK := Lib.hid (fun W (hb : Below w7.heap.size w7 W) => HMA.out _ W (HNK.out W hb) (HGK.out W hb))
        have HFK := Lib.hid (fun W (hb : Below w7.heap.size w7 W) => HFA.out _ _ _ W (HNK.out W hb) (HGK.out W hb) (HLK.out W hb))
        have HC := Lib.hid p3
        have HB := Lib.hid (Below.refl w7.heap.size w7)
        go_region_held3 (fun w' => w'.cell? ⟨Ab, 3, none⟩ = some (.slice An (p.size + 1) cn))
          (first | (with_reducible exact HC.out) | exact HC.out | exact HCX.out _ | go_keep)
          (first
            | (go_at_call 95
               refine (HMK.out _ ?_).mono ?_
               (first | exact HB.out | exact below_drewN HB.out 1 | exact below_drewN HB.out _)
               rintro e w8 ⟨ym, Um, rfl, hmm, hB8⟩
               try have hB8 := below_undrew hB8
               have HB := Lib.hid (HB.out.trans (hB8.mono HB.out.size))
               have HC := Lib.hid (HCK.out w8 HB.out)
               have HM8 := Lib.hid hmm.isLL
               try have HF9 := Lib.hid (HF9.out.kept hB8)
               obtain ⟨Am, cm, hym⟩ := own_slice hmm.outer
               rw [hmm.len, mapsN_len] at hym
               subst hym
               have HCX : Hid (∀ o, (w8.alloc o).cell? ⟨Ab, 3, none⟩ = some (.slice An (p.size + 1) cn)) := Lib.hid (fun o => HCK.out _ (HB.out.alloc HB.out.size o))
               clear hmm hB8)
            | (go_at_call 82
               refine (HFK.out _ ?_).mono ?_
               (first | exact HB.out | exact below_drewN HB.out 1 | exact below_drewN HB.out _)
               rintro e w9 ⟨yf, rfl, hyf, hB9⟩
               try have hB9 := below_undrew hB9
               have HB := Lib.hid (HB.out.trans (hB9.mono HB.out.size))
               have HC := Lib.hid (HCK.out w9 HB.out)
               have HF9 := Lib.hid hyf
               try have HM8 := Lib.hid (HM8.out.kept hB9)
               obtain ⟨Af2, cf2, hyfe, _⟩ := hyf
               rw [firN_len] at hyfe
               subst hyfe
               have HCX : Hid (∀ o, (w9.alloc o).cell? ⟨Ab, 3, none⟩ = some (.slice An (p.size + 1) cn)) := Lib.hid (fun o => HCK.out _ (HB.out.alloc HB.out.size o))
               clear hB9))
        all_goals
          clear p0 p1 p2 p3
          first
          | (have HBL : Hid (Below w7.heap.size w7 w9) := HB
             have hbx : Below w9.heap.size w9 ((w9.alloc (.cells #[.pointer (some ⟨w.heap.size, 0, none⟩), .slice Al gs.length cl, .slice Am gs.length cm, .slice Af2 gs.length cf2] 135)).drew) := below_drewN ((Below.refl _ w9).alloc (Nat.le_refl _) (.cells #[.pointer (some ⟨w.heap.size, 0, none⟩), .slice Al gs.length cl, .slice Am gs.length cm, .slice Af2 gs.length cf2] 135)) 1
             have HXB : Hid (B4 ((w9.alloc (.cells #[.pointer (some ⟨w.heap.size, 0, none⟩), .slice Al gs.length cl, .slice Am gs.length cm, .slice Af2 gs.length cf2] 135)).drew) w9.heap.size (.pointer (some ⟨w.heap.size, 0, none⟩)) (.slice Al gs.length cl) (.slice Am gs.length cm) (.slice Af2 gs.length cf2) 135) := Lib.hid (B4.new w9 _ _ _ _ _)
             have HBX := Lib.hid (HBL.out.trans (hbx.mono HBL.out.size))
             have HMX := Lib.hid (HM8.out.kept hbx)
             have HFX := Lib.hid (HF9.out.kept hbx)
             have HGX := Lib.hid (HG7.out.kept HBX.out)
             have HLX := Lib.hid (IsL.of_own (own_below HLV7.out HBX.out (Nat.le_refl _)))
             have HCG := Lib.hid ((HBX.out.cell (lt_of_cell HGC7.out)).trans HGC7.out)
             clear hbx
             go_upto_region 11 with fail
             obtain ⟨X, hX⟩ : ∃ X, X = w9.heap.size := ⟨_, rfl⟩
             rw [← hX] at HXB ⊢
             generalize (w9.alloc (.cells #[.pointer (some ⟨w.heap.size, 0, none⟩), .slice Al gs.length cl, .slice Am gs.length cm, .slice Af2 gs.length cf2] 135)).drew = wz at *
             clear hX
             have gz := HCG.out
             rcases HNM.out with ⟨e1, e2⟩ | ⟨e1, e2, e3, e4⟩
             · have HFD2 : Hid (Calls Try.prog 101 #[.pointer (some ⟨X, 0, none⟩), .int .i64 (m : Int), .int .i64 0, .int .i64 nn] wz fun e w' => e = .returned (.int .i64 (-1)) ∧ Below wz.heap.size wz w') := Lib.hid (by
                 have := HFD.out X _ _ _ m 0 nn wz HXB.out HGX.out HLX.out HMX.out HFX.out HML.out (by have := HUN.out; omega) HNB.out
                 rw [e2] at this
                 exact this)
               have HE : Hid (ans = (0, 6)) := Lib.hid (by rw [HAN2.out, if_pos e1])
               clear e1 e2
               go_wp2_with fail
               refine HFD2.out.mono ?_
               rintro e w10 ⟨rfl, hB10⟩
               have HB10 := Lib.hid (HBX.out.trans (hB10.mono HBX.out.size))
               clear hB10 gz
               go_wp2_with fail
               go_ret2
               exact ⟨by rw [HE.out]; rfl, HB7.out.trans (HB10.out.mono HB7.out.size)⟩
             · have HE : Hid (ans = (patF p gs (patW p gs nn) - p.size, 0)) := Lib.hid (by rw [HAN2.out, if_neg e1])
               obtain ⟨fz, hfz⟩ : ∃ fz, fz = patF p gs (patW p gs nn) := ⟨_, rfl⟩
               rw [← hfz] at e2 e3 e4 HE
               have HFD2 : Hid (Calls Try.prog 101 #[.pointer (some ⟨X, 0, none⟩), .int .i64 (m : Int), .int .i64 0, .int .i64 nn] wz fun e w' => e = .returned (.int .i64 fz) ∧ Below wz.heap.size wz w') := Lib.hid (by
                 have := HFD.out X _ _ _ m 0 nn wz HXB.out HGX.out HLX.out HMX.out HFX.out HML.out (by have := HUN.out; omega) HNB.out
                 rw [e2] at this
                 exact this)
               have hd5 : decide (fz < 0) = false := decide_eq_false (by omega)
               have hw5 : IntKind.i64.wrap (fz - (p.size : Int)) = fz - (p.size : Int) := by have := HH20.out; rw [IntKind.wrap_i64]; omega
               clear e1 e2 e3 e4 hfz
               go_wp2_with fail
               refine HFD2.out.mono ?_
               rintro e w10 ⟨rfl, hB10⟩
               have HB10 := Lib.hid (HBX.out.trans (hB10.mono HBX.out.size))
               clear hB10 gz
               go_wp2_with fail
               go_ret2
               exact ⟨by rw [HE.out]; rfl, HB7.out.trans (HB10.out.mono HB7.out.size)⟩)
          | (have HBL : Hid (Below w7.heap.size w7 w9) := HB
             have hbx : Below w9.heap.size w9 ((w9.alloc (.cells #[.pointer (some ⟨w.heap.size, 0, none⟩), .slice Al gs.length cl, .slice Am gs.length cm, .slice Af2 gs.length cf2] 135))) := (Below.refl _ w9).alloc (Nat.le_refl _) (.cells #[.pointer (some ⟨w.heap.size, 0, none⟩), .slice Al gs.length cl, .slice Am gs.length cm, .slice Af2 gs.length cf2] 135)
             have HXB : Hid (B4 ((w9.alloc (.cells #[.pointer (some ⟨w.heap.size, 0, none⟩), .slice Al gs.length cl, .slice Am gs.length cm, .slice Af2 gs.length cf2] 135))) w9.heap.size (.pointer (some ⟨w.heap.size, 0, none⟩)) (.slice Al gs.length cl) (.slice Am gs.length cm) (.slice Af2 gs.length cf2) 135) := Lib.hid (B4.new w9 _ _ _ _ _)
             have HBX := Lib.hid (HBL.out.trans (hbx.mono HBL.out.size))
             have HMX := Lib.hid (HM8.out.kept hbx)
             have HFX := Lib.hid (HF9.out.kept hbx)
             have HGX := Lib.hid (HG7.out.kept HBX.out)
             have HLX := Lib.hid (IsL.of_own (own_below HLV7.out HBX.out (Nat.le_refl _)))
             have HCG := Lib.hid ((HBX.out.cell (lt_of_cell HGC7.out)).trans HGC7.out)
             clear hbx
             go_upto_region 11 with fail
             obtain ⟨X, hX⟩ : ∃ X, X = w9.heap.size := ⟨_, rfl⟩
             rw [← hX] at HXB ⊢
             generalize (w9.alloc (.cells #[.pointer (some ⟨w.heap.size, 0, none⟩), .slice Al gs.length cl, .slice Am gs.length cm, .slice Af2 gs.length cf2] 135)) = wz at *
             clear hX
             have gz := HCG.out
             rcases HNM.out with ⟨e1, e2⟩ | ⟨e1, e2, e3, e4⟩
             · have HFD2 : Hid (Calls Try.prog 101 #[.pointer (some ⟨X, 0, none⟩), .int .i64 (m : Int), .int .i64 0, .int .i64 nn] wz fun e w' => e = .returned (.int .i64 (-1)) ∧ Below wz.heap.size wz w') := Lib.hid (by
                 have := HFD.out X _ _ _ m 0 nn wz HXB.out HGX.out HLX.out HMX.out HFX.out HML.out (by have := HUN.out; omega) HNB.out
                 rw [e2] at this
                 exact this)
               have HE : Hid (ans = (0, 6)) := Lib.hid (by rw [HAN2.out, if_pos e1])
               clear e1 e2
               go_wp2_with fail
               refine HFD2.out.mono ?_
               rintro e w10 ⟨rfl, hB10⟩
               have HB10 := Lib.hid (HBX.out.trans (hB10.mono HBX.out.size))
               clear hB10 gz
               go_wp2_with fail
               go_ret2
               exact ⟨by rw [HE.out]; rfl, HB7.out.trans (HB10.out.mono HB7.out.size)⟩
             · have HE : Hid (ans = (patF p gs (patW p gs nn) - p.size, 0)) := Lib.hid (by rw [HAN2.out, if_neg e1])
               obtain ⟨fz, hfz⟩ : ∃ fz, fz = patF p gs (patW p gs nn) := ⟨_, rfl⟩
               rw [← hfz] at e2 e3 e4 HE
               have HFD2 : Hid (Calls Try.prog 101 #[.pointer (some ⟨X, 0, none⟩), .int .i64 (m : Int), .int .i64 0, .int .i64 nn] wz fun e w' => e = .returned (.int .i64 fz) ∧ Below wz.heap.size wz w') := Lib.hid (by
                 have := HFD.out X _ _ _ m 0 nn wz HXB.out HGX.out HLX.out HMX.out HFX.out HML.out (by have := HUN.out; omega) HNB.out
                 rw [e2] at this
                 exact this)
               have hd5 : decide (fz < 0) = false := decide_eq_false (by omega)
               have hw5 : IntKind.i64.wrap (fz - (p.size : Int)) = fz - (p.size : Int) := by have := HH20.out; rw [IntKind.wrap_i64]; omega
               clear e1 e2 e3 e4 hfz
               go_wp2_with fail
               refine HFD2.out.mono ?_
               rintro e w10 ⟨rfl, hB10⟩
               have HB10 := Lib.hid (HBX.out.trans (hB10.mono HBX.out.size))
               clear hB10 gz
               go_wp2_with fail
               go_ret2
               exact ⟨by rw [HE.out]; rfl, HB7.out.trans (HB10.out.mono HB7.out.size)⟩)
          | (have HBL : Hid (Below w7.heap.size w7 w8) := HB
             have hbx : Below w8.heap.size w8 ((w8.alloc (.cells #[.pointer (some ⟨w.heap.size, 0, none⟩), .slice Al gs.length cl, .slice Am gs.length cm, .slice Af2 gs.length cf2] 135)).drew) := below_drewN ((Below.refl _ w8).alloc (Nat.le_refl _) (.cells #[.pointer (some ⟨w.heap.size, 0, none⟩), .slice Al gs.length cl, .slice Am gs.length cm, .slice Af2 gs.length cf2] 135)) 1
             have HXB : Hid (B4 ((w8.alloc (.cells #[.pointer (some ⟨w.heap.size, 0, none⟩), .slice Al gs.length cl, .slice Am gs.length cm, .slice Af2 gs.length cf2] 135)).drew) w8.heap.size (.pointer (some ⟨w.heap.size, 0, none⟩)) (.slice Al gs.length cl) (.slice Am gs.length cm) (.slice Af2 gs.length cf2) 135) := Lib.hid (B4.new w8 _ _ _ _ _)
             have HBX := Lib.hid (HBL.out.trans (hbx.mono HBL.out.size))
             have HMX := Lib.hid (HM8.out.kept hbx)
             have HFX := Lib.hid (HF9.out.kept hbx)
             have HGX := Lib.hid (HG7.out.kept HBX.out)
             have HLX := Lib.hid (IsL.of_own (own_below HLV7.out HBX.out (Nat.le_refl _)))
             have HCG := Lib.hid ((HBX.out.cell (lt_of_cell HGC7.out)).trans HGC7.out)
             clear hbx
             go_upto_region 11 with fail
             obtain ⟨X, hX⟩ : ∃ X, X = w8.heap.size := ⟨_, rfl⟩
             rw [← hX] at HXB ⊢
             generalize (w8.alloc (.cells #[.pointer (some ⟨w.heap.size, 0, none⟩), .slice Al gs.length cl, .slice Am gs.length cm, .slice Af2 gs.length cf2] 135)).drew = wz at *
             clear hX
             have gz := HCG.out
             rcases HNM.out with ⟨e1, e2⟩ | ⟨e1, e2, e3, e4⟩
             · have HFD2 : Hid (Calls Try.prog 101 #[.pointer (some ⟨X, 0, none⟩), .int .i64 (m : Int), .int .i64 0, .int .i64 nn] wz fun e w' => e = .returned (.int .i64 (-1)) ∧ Below wz.heap.size wz w') := Lib.hid (by
                 have := HFD.out X _ _ _ m 0 nn wz HXB.out HGX.out HLX.out HMX.out HFX.out HML.out (by have := HUN.out; omega) HNB.out
                 rw [e2] at this
                 exact this)
               have HE : Hid (ans = (0, 6)) := Lib.hid (by rw [HAN2.out, if_pos e1])
               clear e1 e2
               go_wp2_with fail
               refine HFD2.out.mono ?_
               rintro e w10 ⟨rfl, hB10⟩
               have HB10 := Lib.hid (HBX.out.trans (hB10.mono HBX.out.size))
               clear hB10 gz
               go_wp2_with fail
               go_ret2
               exact ⟨by rw [HE.out]; rfl, HB7.out.trans (HB10.out.mono HB7.out.size)⟩
             · have HE : Hid (ans = (patF p gs (patW p gs nn) - p.size, 0)) := Lib.hid (by rw [HAN2.out, if_neg e1])
               obtain ⟨fz, hfz⟩ : ∃ fz, fz = patF p gs (patW p gs nn) := ⟨_, rfl⟩
               rw [← hfz] at e2 e3 e4 HE
               have HFD2 : Hid (Calls Try.prog 101 #[.pointer (some ⟨X, 0, none⟩), .int .i64 (m : Int), .int .i64 0, .int .i64 nn] wz fun e w' => e = .returned (.int .i64 fz) ∧ Below wz.heap.size wz w') := Lib.hid (by
                 have := HFD.out X _ _ _ m 0 nn wz HXB.out HGX.out HLX.out HMX.out HFX.out HML.out (by have := HUN.out; omega) HNB.out
                 rw [e2] at this
                 exact this)
               have hd5 : decide (fz < 0) = false := decide_eq_false (by omega)
               have hw5 : IntKind.i64.wrap (fz - (p.size : Int)) = fz - (p.size : Int) := by have := HH20.out; rw [IntKind.wrap_i64]; omega
               clear e1 e2 e3 e4 hfz
               go_wp2_with fail
               refine HFD2.out.mono ?_
               rintro e w10 ⟨rfl, hB10⟩
               have HB10 := Lib.hid (HBX.out.trans (hB10.mono HBX.out.size))
               clear hB10 gz
               go_wp2_with fail
               go_ret2
               exact ⟨by rw [HE.out]; rfl, HB7.out.trans (HB10.out.mono HB7.out.size)⟩)
          | (have HBL : Hid (Below w7.heap.size w7 w8) := HB
             have hbx : Below w8.heap.size w8 ((w8.alloc (.cells #[.pointer (some ⟨w.heap.size, 0, none⟩), .slice Al gs.length cl, .slice Am gs.length cm, .slice Af2 gs.length cf2] 135))) := (Below.refl _ w8).alloc (Nat.le_refl _) (.cells #[.pointer (some ⟨w.heap.size, 0, none⟩), .slice Al gs.length cl, .slice Am gs.length cm, .slice Af2 gs.length cf2] 135)
             have HXB : Hid (B4 ((w8.alloc (.cells #[.pointer (some ⟨w.heap.size, 0, none⟩), .slice Al gs.length cl, .slice Am gs.length cm, .slice Af2 gs.length cf2] 135))) w8.heap.size (.pointer (some ⟨w.heap.size, 0, none⟩)) (.slice Al gs.length cl) (.slice Am gs.length cm) (.slice Af2 gs.length cf2) 135) := Lib.hid (B4.new w8 _ _ _ _ _)
             have HBX := Lib.hid (HBL.out.trans (hbx.mono HBL.out.size))
             have HMX := Lib.hid (HM8.out.kept hbx)
             have HFX := Lib.hid (HF9.out.kept hbx)
             have HGX := Lib.hid (HG7.out.kept HBX.out)
             have HLX := Lib.hid (IsL.of_own (own_below HLV7.out HBX.out (Nat.le_refl _)))
             have HCG := Lib.hid ((HBX.out.cell (lt_of_cell HGC7.out)).trans HGC7.out)
             clear hbx
             go_upto_region 11 with fail
             obtain ⟨X, hX⟩ : ∃ X, X = w8.heap.size := ⟨_, rfl⟩
             rw [← hX] at HXB ⊢
             generalize (w8.alloc (.cells #[.pointer (some ⟨w.heap.size, 0, none⟩), .slice Al gs.length cl, .slice Am gs.length cm, .slice Af2 gs.length cf2] 135)) = wz at *
             clear hX
             have gz := HCG.out
             rcases HNM.out with ⟨e1, e2⟩ | ⟨e1, e2, e3, e4⟩
             · have HFD2 : Hid (Calls Try.prog 101 #[.pointer (some ⟨X, 0, none⟩), .int .i64 (m : Int), .int .i64 0, .int .i64 nn] wz fun e w' => e = .returned (.int .i64 (-1)) ∧ Below wz.heap.size wz w') := Lib.hid (by
                 have := HFD.out X _ _ _ m 0 nn wz HXB.out HGX.out HLX.out HMX.out HFX.out HML.out (by have := HUN.out; omega) HNB.out
                 rw [e2] at this
                 exact this)
               have HE : Hid (ans = (0, 6)) := Lib.hid (by rw [HAN2.out, if_pos e1])
               clear e1 e2
               go_wp2_with fail
               refine HFD2.out.mono ?_
               rintro e w10 ⟨rfl, hB10⟩
               have HB10 := Lib.hid (HBX.out.trans (hB10.mono HBX.out.size))
               clear hB10 gz
               go_wp2_with fail
               go_ret2
               exact ⟨by rw [HE.out]; rfl, HB7.out.trans (HB10.out.mono HB7.out.size)⟩
             · have HE : Hid (ans = (patF p gs (patW p gs nn) - p.size, 0)) := Lib.hid (by rw [HAN2.out, if_neg e1])
               obtain ⟨fz, hfz⟩ : ∃ fz, fz = patF p gs (patW p gs nn) := ⟨_, rfl⟩
               rw [← hfz] at e2 e3 e4 HE
               have HFD2 : Hid (Calls Try.prog 101 #[.pointer (some ⟨X, 0, none⟩), .int .i64 (m : Int), .int .i64 0, .int .i64 nn] wz fun e w' => e = .returned (.int .i64 fz) ∧ Below wz.heap.size wz w') := Lib.hid (by
                 have := HFD.out X _ _ _ m 0 nn wz HXB.out HGX.out HLX.out HMX.out HFX.out HML.out (by have := HUN.out; omega) HNB.out
                 rw [e2] at this
                 exact this)
               have hd5 : decide (fz < 0) = false := decide_eq_false (by omega)
               have hw5 : IntKind.i64.wrap (fz - (p.size : Int)) = fz - (p.size : Int) := by have := HH20.out; rw [IntKind.wrap_i64]; omega
               clear e1 e2 e3 e4 hfz
               go_wp2_with fail
               refine HFD2.out.mono ?_
               rintro e w10 ⟨rfl, hB10⟩
               have HB10 := Lib.hid (HBX.out.trans (hB10.mono HBX.out.size))
               clear hB10 gz
               go_wp2_with fail
               go_ret2
               exact ⟨by rw [HE.out]; rfl, HB7.out.trans (HB10.out.mono HB7.out.size)⟩)
  · rw [if_neg h0]
    have hd : (c == 0) = false := by simp [h0]
    have hd2 : (c != 0) = true := by simp [h0]
    clear hc
    go_enter Try.func31, Try.ntmps31
    go_wp2_with fail
    refine HA.out.mono ?_
    rintro e w3 ⟨rfl, hB3⟩
    have HB3 := Lib.hid (HB.out.trans (hB3.mono HB.out.size))
    clear hB3
    go_wp2_with fail
    go_ret2
    exact ⟨rfl, HB3.out⟩
end Go.Proofs.Ytaffachjopjbgaa
