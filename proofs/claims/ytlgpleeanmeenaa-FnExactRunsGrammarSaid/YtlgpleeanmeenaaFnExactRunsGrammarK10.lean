/-
  PlainC, Found, PlainS, PlainR, in one text.
-/
import Derived.Test.YtlgpleeanmeenaaFnExactRunsGrammarK6
import Derived.Test.YtlgpleeanmeenaaFnExactRunsGrammarK4
import Derived.Test.YtlgpleeanmeenaaFnExactRunsGrammarK1
import Derived.Lib.Strings
import Derived.Outline
import Derived.Test.YtlgpleeanmeenaaRow
import Derived.Deep.RegionLaw
import Derived.Test.YtlgpleeanmeenaaShelf
import Derived.Maps.OwnOps
import Derived.Maps.Views
import Derived.Lib.OthersKept
import Derived.Lib.IndexAny
namespace Go.Proofs.Ytlgpleeanmeenaa
open Go.RowKit
open Wd
set_option linter.unusedVariables false

namespace Wd
/-- the numbers of the letters' rules, letter by letter -/
def nsC (l : List UInt8) : List Int := l.map fun c => (idxC l (noC c) : Int)
theorem nsC_len (l : List UInt8) : (nsC l).length = l.length := by simp [nsC]
theorem nsC_at (l : List UInt8) (k : Nat) (h : k < l.length) : (iv (nsC l))[k]? = some (.int .i64 (idxC l (noC (l.getD k 97)) : Int)) := by
  simp [iv, nsC, h, List.getD_eq_getElem?_getD]
theorem idxC_le (l : List UInt8) (k : Nat) : idxC l k ≤ k := letG_len l k
end Wd
/-- what holds between two pairs -/
def ChRel (l : List UInt8) (gs : List Rl) (B : Nat) (nv : Value) (w : World) (y i : Value) (wr : World) : Prop :=
  ∃ t : Nat, t + 1 ≤ max 1 l.length ∧ i = .int .i64 ((t : Int) + 1) ∧ wr.ownsRow B 146 3 y (gs.length + t) (rv (gs ++ prsG l gs.length t)) ∧ wr.ownsRow B 2 1 nv l.length (iv (nsC l)) ∧ Below B w wr

set_option maxRecDepth 100000 in
set_option maxHeartbeats 6400000 in
theorem chained_any (A A' : Option Addr) (c c' B : Nat) (l : List UInt8) (gs : List Rl) (w : World) (hl : l.length ≤ 2000) (hg4 : gs.length ≤ 4) (hok : ∀ x ∈ l, lt x = true) (hB : B ≤ w.heap.size)
    (hr : w.ownsRow B 146 3 (.slice A gs.length c) gs.length (rv gs)) (hn : w.ownsRow B 2 1 (.slice A' l.length c') l.length (iv (nsC l))) :
    Calls Try.prog 136 #[.slice A gs.length c, .slice A' l.length c'] w fun e w' => ∃ y, e = .returned y ∧ w'.ownsRow B 146 3 y (gs ++ prsG l gs.length (l.length - 1)).length (rv (gs ++ prsG l gs.length (l.length - 1))) ∧ Below B w w' := by
  obtain ⟨i0, hi, hz0, hz1, hz2⟩ := info_parts Try.info_rule
  obtain ⟨N, hN⟩ : ∃ N, N = gs.length := ⟨_, rfl⟩
  obtain ⟨L, hL⟩ : ∃ L, L = l.length := ⟨_, rfl⟩
  have HST : Hid (ChRel l gs B (.slice A' L c') w (.slice A N c) (.int .i64 1) w) := Lib.hid ⟨0, by omega, rfl, by rw [prsG, List.append_nil, Nat.add_zero, hN]; exact hr, by rw [hL]; exact hn, Below.refl _ _⟩
  have HN := Lib.hid hN
  have HL := Lib.hid hL
  have HOK := Lib.hid hok
  rw [← hN] at hg4 ⊢
  rw [← hL] at hl ⊢
  clear hr hn hN hL hok
  go_enter Try.func136, Try.ntmps136
  go_wp2_with fail
  go_loopw [0, 5, 6] (fun y i _ wr => ChRel l gs B (.slice A' L c') w y i wr) (fun _ i _ _ => L - (intOf i).toNat)
  case atStart => exact HST.out
  case round =>
    obtain ⟨t, ht, rfl, hown, hnr, hbw⟩ := hrel
    obtain ⟨wo, rfl⟩ : ∃ wo : World, wo = wr := ⟨_, rfl⟩
    rw [← HN.out] at hown
    rw [← HL.out] at ht hnr
    obtain ⟨A2, c2, rfl⟩ := own_slice hown
    have hbsz := hbw.size
    by_cases hlt : t + 1 < L
    · obtain ⟨M, rfl, hM1, hM2⟩ := own_addr hnr (by omega)
      have n0 := (hnr.cellAt 0 (by omega)).trans (nsC_at l 0 (by rw [← HL.out]; omega))
      have n1 := (hnr.cellAt (t + 1) (by omega)).trans (nsC_at l (t + 1) (by rw [← HL.out]; omega))
      obtain ⟨BF, hBF⟩ : ∃ BF : Nat, BF = if t = 0 then idxC l (noC (l.getD 0 97)) else N + t - 1 := ⟨_, rfl⟩
      obtain ⟨RG, hRG⟩ : ∃ RG : Nat, RG = idxC l (noC (l.getD (t + 1) 97)) := ⟨_, rfl⟩
      have HPX := Lib.hid (show prsG l N (t + 1) = prsG l N t ++ [pairR BF RG] from by rw [prsG, hBF, hRG])
      rw [← hRG] at n1
      have HPA := Lib.hid (fun W => pairA (BF : Int) (RG : Int) W)
      have HO := Lib.hid hown
      have HNR := Lib.hid hnr
      have HBW := Lib.hid hbw
      by_cases h0 : t = 0
      · rw [if_pos h0] at hBF
        rw [← hBF] at n0
        have h0' : ¬ (1 : Int) < (t : Int) + 1 := by omega
        clear hown hnr hbw hBF hRG h0
        go_wp2_with fail
        refine (HPA.out _).mono ?_
        rintro e w5 ⟨rfl, hB5⟩
        have HO5 := Lib.hid (own_below HO.out hB5 (Nat.le_refl _))
        have HN5 := Lib.hid (own_below HNR.out hB5 (Nat.le_refl _))
        have HB5 := Lib.hid (HBW.out.trans (hB5.mono (Nat.le_trans hB hbsz)))
        have HNW := Lib.hid (news3 w5 (pairR BF RG) 146)
        have hb5 := HB5.out.size
        clear hB5
        go_wp2_with (first | (at_builtin; refine wpList_append_own _ rfl _ _ 24 rfl B 146 i0 (.agg #[.string ⟨#[]⟩, .int .i64 0, .int .i64 0]) 3 32 Try.underlying24 hi hz0 hz1 hz2 rfl (by decide) _ _ _ rfl (World.ownsRow.alloc HO5.out _) ⟨w5.heap.size, 0, none⟩ 1 1 (rc (pairR BF RG)) rfl rfl HNW.out (rc_cell _) (by unfold maxLen; omega) (by omega) (by simp; omega) ?_))
        intro v8 w8 hown' hgrow _
        have HR8 : Hid (ChRel l gs B (.slice (some ⟨M, 0, none⟩) L c') w v8 (.int .i64 ((t : Int) + 1 + 1)) w8) := Lib.hid ⟨t + 1, by rw [← HL.out]; omega, by go_num, by
          rw [← HN.out, HPX.out, ← List.append_assoc, rv_app, rv_one]; exact hown', by
          rw [← HL.out]; exact own_other HN5.out HO5.out (by decide) hgrow, ((HB5.out.alloc (Nat.le_trans hB hb5) _).grown hgrow (by simp; omega) (fun q hq => (HO5.out.lt q hq).1))⟩
        clear hown' hgrow
        go_wp2_with fail
        go_roundw
        case rel => first | exact HR8.out | ((repeat apply Exists.intro); exact ⟨HR8.out, rfl⟩)
        case measure => (first | (simp [intOf]; done) | (simp [intOf]; omega))
      · rw [if_neg h0] at hBF
        have h0' : (1 : Int) < (t : Int) + 1 := by omega
        have HLA : Hid (∀ W, Calls Try.prog 119 #[.slice A2 (N + t) c2] W fun e w' => e = .returned (.int .i64 (BF : Int)) ∧ w' = W) := Lib.hid (fun W => (lastA A2 (N + t) c2 (by omega) W).mono fun e w' h => ⟨h.1.trans (ret_int (by omega)), h.2⟩)
        clear hown hnr hbw hRG hBF
        go_wp2_with fail
        refine (HLA.out _).mono ?_
        rintro e w4 ⟨rfl, rfl⟩
        go_wp2_with fail
        refine (HPA.out _).mono ?_
        rintro e w5 ⟨rfl, hB5⟩
        have HO5 := Lib.hid (own_below HO.out hB5 (Nat.le_refl _))
        have HN5 := Lib.hid (own_below HNR.out hB5 (Nat.le_refl _))
        have HB5 := Lib.hid (HBW.out.trans (hB5.mono (Nat.le_trans hB hbsz)))
        have HNW := Lib.hid (news3 w5 (pairR BF RG) 146)
        have hb5 := HB5.out.size
        clear hB5
        go_wp2_with (first | (at_builtin; refine wpList_append_own _ rfl _ _ 24 rfl B 146 i0 (.agg #[.string ⟨#[]⟩, .int .i64 0, .int .i64 0]) 3 32 Try.underlying24 hi hz0 hz1 hz2 rfl (by decide) _ _ _ rfl (World.ownsRow.alloc HO5.out _) ⟨w5.heap.size, 0, none⟩ 1 1 (rc (pairR BF RG)) rfl rfl HNW.out (rc_cell _) (by unfold maxLen; omega) (by omega) (by simp; omega) ?_))
        intro v8 w8 hown' hgrow _
        have HR8 : Hid (ChRel l gs B (.slice (some ⟨M, 0, none⟩) L c') w v8 (.int .i64 ((t : Int) + 1 + 1)) w8) := Lib.hid ⟨t + 1, by rw [← HL.out]; omega, by go_num, by
          rw [← HN.out, HPX.out, ← List.append_assoc, rv_app, rv_one]; exact hown', by
          rw [← HL.out]; exact own_other HN5.out HO5.out (by decide) hgrow, ((HB5.out.alloc (Nat.le_trans hB hb5) _).grown hgrow (by simp; omega) (fun q hq => (HO5.out.lt q hq).1))⟩
        clear hown' hgrow
        go_wp2_with fail
        go_roundw
        case rel => first | exact HR8.out | ((repeat apply Exists.intro); exact ⟨HR8.out, rfl⟩)
        case measure => (first | (simp [intOf]; done) | (simp [intOf]; omega))
    · have htl : L - 1 = t := by omega
      have HO : Hid (wo.ownsRow B 146 3 (.slice A2 (N + t) c2) (gs ++ prsG l N (L - 1)).length (rv (gs ++ prsG l N (L - 1)))) := Lib.hid (by
        rw [List.length_append, prsG_len, ← HN.out, htl]; exact hown)
      clear htl
      go_wp2_with fail
      go_ret
      exact ⟨_, rfl, HO.out, hbw⟩
end Go.Proofs.Ytlgpleeanmeenaa
namespace Go.Proofs.Ytlgpleeanmeenaa
open Go.RowKit
open Wd
set_option linter.unusedVariables false

namespace Wd
/-- p begins at the place k of w -/
def begins (p w : List UInt8) (k : Nat) : Bool := (w.drop k).take p.length == p
/-- all places at which p begins, among the first k -/
def found (p w : List UInt8) (k : Nat) : List Int := ((List.range k).filter (begins p w)).map fun (j : Nat) => (j : Int)
theorem found_yes {p w : List UInt8} {k : Nat} (h : begins p w k = true) : found p w (k + 1) = found p w k ++ [(k : Int)] := by
  simp [found, List.range_succ, List.filter_append, h]
theorem found_no {p w : List UInt8} {k : Nat} (h : begins p w k = false) : found p w (k + 1) = found p w k := by
  simp [found, List.range_succ, List.filter_append, h]
theorem found_len (p w : List UInt8) (k : Nat) : (found p w k).length ≤ k := by
  unfold found
  rw [List.length_map]
  exact Nat.le_trans (List.length_filter_le _ _) (by simp)
theorem begins_short {p w : List UInt8} {k : Nat} (hp : 0 < p.length) (h : w.length < k + p.length) : begins p w k = false := by
  unfold begins
  rw [beq_eq_false_iff_ne]
  intro e
  have := congrArg List.length e
  simp at this
  omega
theorem found_stop {p w : List UInt8} {k : Nat} (hp : 0 < p.length) (h : w.length < k + p.length) : ∀ m, found p w (k + m) = found p w k
  | 0 => rfl
  | m + 1 => by
    rw [← Nat.add_assoc, found_no (begins_short hp (by omega)), found_stop hp h m]
theorem extract_list (s : ByteArray) (a b : Nat) : (s.extract a b).data.toList = (s.data.toList.drop a).take (b - a) := by
  rw [ByteArray.data_extract, Array.toList_extract, List.extract_eq_take_drop]
theorem begins_extract (u v : ByteArray) (k : Nat) : ((v.extract k (k + u.size)).toList == u.toList) = begins u.data.toList v.data.toList k := by
  rw [ByteArray.toList_eq, ByteArray.toList_eq, extract_list, Nat.add_sub_cancel_left]
  simp [begins]
end Wd

set_option maxRecDepth 100000 in
set_option maxHeartbeats 800000 in
theorem specFound (u v : ByteArray) (w : World) (hu : 0 < u.size) (hu' : u.size ≤ 2000) (hv : v.size ≤ 2000) :
    Calls Try.prog 127 #[.string u, .string v] w fun e w' => ∃ x, e = .returned x ∧ OwnsI w' w.heap.size x (found u.data.toList v.data.toList v.size) ∧ Below w.heap.size w w' := by
  obtain ⟨i0, hi, hz0, hz1, hz2⟩ := info_parts Try.info_i64
  go_enter Try.func127, Try.ntmps127
  go_wp2
  go_loopw [5, 6] (fun x i wr => ∃ k n : Nat, k ≤ v.size ∧ n ≤ k ∧ (found u.data.toList v.data.toList k).length = n ∧ i = .int .i64 k ∧ wr.ownsRow w.heap.size 2 1 x n (iv (found u.data.toList v.data.toList k)) ∧ Below w.heap.size w wr)
    (fun _ i _ => v.size - (intOf i).toNat)
  case atStart => exact ⟨0, 0, Nat.zero_le _, Nat.le_refl _, rfl, rfl, World.ownsRow_lit w #[] 0 (Nat.le_refl _) (by decide) rfl, (Below.refl _ _).alloc (Nat.le_refl _) _⟩
  case round =>
    obtain ⟨k, n, hk, hnk, hfl, rfl, hown, hB⟩ := hrel
    have HL := Lib.hid hfl
    have hsz := hB.size
    clear hfl
    by_cases hlt : k + u.size ≤ v.size
    · have hbx := begins_extract u v k
      cases hb : begins u.data.toList v.data.toList k
      · have hno := found_no hb
        rw [hb] at hbx
        have HN := Lib.hid hno
        clear hno hb
        go_wp2
        go_roundw
        case rel => exact ⟨k + 1, n, by omega, by omega, by rw [HN.out]; exact HL.out, by go_num, by rw [HN.out]; exact hown, hB⟩
        case measure => simp [intOf]; omega
      · have hyes := found_yes hb
        rw [hb] at hbx
        have HY := Lib.hid hyes
        clear hyes hb
        go_wp2_with (first | (at_builtin; refine wpList_append_own _ rfl _ _ 82 rfl w.heap.size 2 i0 (.int .i64 0) 1 8 Try.underlying82 hi hz0 hz1 hz2 rfl (by decide) _ _ _ rfl (hown.alloc _) ⟨wr.heap.size, 0, none⟩ 1 1 [.int .i64 k] rfl rfl ?c1 ?c2 ?c3 ?c4 ?c5 ?_))
        case c1 =>
          intro x u hx
          match x, hx with
          | 0, hx => simp at hx; subst hx; simp [Addr.add]
        case c2 => intro u hu; simp at hu; subst hu; rfl
        case c3 => unfold maxLen; omega
        case c4 => omega
        case c5 => simp; omega
        intro v' w1 hown' hgrow _
        have hb1 : Below w.heap.size w w1 := (hB.alloc hsz _).grown hgrow (by simp; omega) (fun q hq => (hown.lt q hq).1)
        have hown1 : w1.ownsRow w.heap.size 2 1 v' (n + 1) (iv (found u.data.toList v.data.toList (k + 1))) := by rw [HY.out, iv_app]; exact hown'
        clear hown' hgrow hown hB
        go_wp2
        go_roundw
        case rel => exact ⟨k + 1, n + 1, by omega, by omega, by rw [HY.out, List.length_append, HL.out]; rfl, by go_num, hown1, hb1⟩
        case measure => simp [intOf]; omega
    · have hst : found u.data.toList v.data.toList v.size = found u.data.toList v.data.toList k := by
        have := found_stop (p := u.data.toList) (w := v.data.toList) (k := k) (by simpa using hu) (by simp; omega) (v.size - k)
        rwa [show k + (v.size - k) = v.size by omega] at this
      have hown1 : OwnsI wr w.heap.size u5 (found u.data.toList v.data.toList v.size) := by rw [hst]; unfold OwnsI; rw [HL.out]; exact hown
      have HO := Lib.hid hown1
      clear hst hown1 hown
      go_wp2
      go_ret
      exact ⟨_, rfl, HO.out, hB⟩
end Go.Proofs.Ytlgpleeanmeenaa
namespace Go.Proofs.Ytlgpleeanmeenaa
open Go.RowKit
open Wd
set_option linter.unusedVariables false
namespace Wd
theorem begins_one (c : UInt8) (l : List UInt8) (k : Nat) : begins [c] l k = true ↔ l[k]? = some c := by
  unfold begins
  rw [beq_iff_eq]
  by_cases h : k < l.length
  · rw [show ([c] : List UInt8).length = 1 from rfl, List.drop_eq_getElem_cons h, List.take_succ_cons, List.take_zero, List.getElem?_eq_getElem h]
    simp
  · rw [List.drop_eq_nil_of_le (by omega), List.getElem?_eq_none (by omega)]
    simp
theorem found_one (c : UInt8) (l : List UInt8) : 0 < (found [c] l l.length).length ↔ c ∈ l := by
  unfold found
  rw [List.length_map, List.length_pos_iff_exists_mem]
  constructor
  · rintro ⟨k, hk⟩
    have h1 := (List.mem_filter.1 hk).2
    exact List.mem_of_getElem? ((begins_one c l k).1 h1)
  · intro h
    obtain ⟨k, hk, he⟩ := List.getElem_of_mem h
    exact ⟨k, List.mem_filter.2 ⟨List.mem_range.2 hk, (begins_one c l k).2 (by rw [List.getElem?_eq_getElem hk, he])⟩⟩
/-- the table of the letters' rules -/
def atK (l : List UInt8) (k : Nat) : List Int := (List.range 4).map fun j => if j < k ∧ hasC l j = true then (idxC l j : Int) else 0
theorem atK_len (l : List UInt8) (k : Nat) : (atK l k).length = 4 := by simp [atK]
theorem atK_zero (l : List UInt8) : atK l 0 = List.replicate 4 0 := by
  unfold atK
  simp only [Nat.not_lt_zero, false_and, if_false]
  rfl
theorem atK_get (l : List UInt8) (k j : Nat) (hj : j < 4) : (atK l k).getD j 0 = if j < k ∧ hasC l j = true then (idxC l j : Int) else 0 := by
  unfold atK
  rw [List.getD_eq_getElem?_getD, List.getElem?_map, List.getElem?_range hj]
  rfl
theorem atK_yes (l : List UInt8) (k : Nat) (hk : k < 4) (h : hasC l k = true) : (atK l k).set k (idxC l k) = atK l (k + 1) := by
  apply List.ext_getElem
  · simp [atK_len]
  · intro i h1 h2
    rw [List.getElem_set]
    simp only [atK, List.getElem_map, List.getElem_range]
    by_cases e : k = i
    · subst e
      rw [if_pos rfl, if_pos ⟨by omega, h⟩]
    · rw [if_neg e]
      by_cases h9 : i < k
      · simp only [show (i < k) = True from by simp [h9], show (i < k + 1) = True from by simp; omega]
      · simp only [show (i < k) = False from by simp [h9], show (i < k + 1) = False from by simp; omega]
theorem atK_no (l : List UInt8) (k : Nat) (hk : k < 4) (h : hasC l k = false) : atK l (k + 1) = atK l k := by
  apply List.ext_getElem
  · simp [atK_len]
  · intro i h1 h2
    simp only [atK, List.getElem_map, List.getElem_range]
    by_cases e : k = i
    · subst e
      simp [h]
    · by_cases h9 : i < k
      · simp only [show (i < k) = True from by simp [h9], show (i < k + 1) = True from by simp; omega]
      · simp only [show (i < k) = False from by simp [h9], show (i < k + 1) = False from by simp; omega]
end Wd
theorem own_own_ne' {w : World} {B B' e e' s s' n n' : Nat} {v : Value} {xs ys : List Value} {g : Nat} {c m : Nat} (h : w.ownsRow B e s v n xs) (h' : w.ownsRow B' e' s' (.slice (some ⟨g, 0, none⟩) m c) n' ys) (hne : e ≠ e') : v.ownBlock = none ∨ v.ownBlock ≠ some g := by
  rcases h.2 with ⟨rfl, _⟩ | ⟨g1, cap, cur, rfl, _, hg, _⟩
  · exact .inl rfl
  · rcases h'.2 with ⟨e0, _⟩ | ⟨g', cap', cur', e0, _, hg', _⟩
    · cases e0
    · refine .inr fun e => ?_
      injection e0 with e1 e2 e3
      have e4 : g = g' := by have := Option.some.inj e1; injection this
      have : g1 = g := by simpa [Value.ownBlock] using e
      subst this e4
      rw [hg] at hg'
      injection hg' with h1
      injection h1 with _ h2
      exact hne h2
theorem lt_mem {l : List UInt8} (h : okL l = true) {c : UInt8} (hc : c ∈ l) : lt c = true := by
  obtain ⟨i, hi, e⟩ := List.getElem_of_mem hc
  rw [← e]
  exact okL_at h hi
theorem byteAt (s : ByteArray) (k : Nat) (h : k < s.size) : s.data.toList.getD k 97 = s[k]'h := by
  rw [List.getD_eq_getElem?_getD, List.getElem?_eq_getElem (by simpa using h), Option.getD_some]
  simp
  rfl
theorem sub97 {c : UInt8} (h : lt c = true) : IntKind.u8.wrap ((c.toNat : Int) - 97) = (noC c : Int) := by
  have := of_lt h
  rw [IntKind.wrap_u8]
  unfold noC
  omega
theorem table_at {w : World} {B M : Nat} {l : List UInt8} {c : UInt8} (h : w.ownsRow B 2 1 (.slice (some ⟨M, 0, none⟩) 4 4) 4 (iv (atK l 4))) (hc : lt c = true) (hm : c ∈ l) : w.cell? ⟨M, noC c, none⟩ = some (.int .i64 (idxC l (noC c) : Int)) := by
  have hn := noC_lt hc
  rw [h.cellAt (noC c) (by omega), iv_atU (by rw [atK_len]; exact hn), atK_get l 4 (noC c) hn, if_pos ⟨hn, by unfold hasC; rw [ltC_noC hc]; exact decide_eq_true hm⟩]
/-- what holds between two letters -/
def P1Rel (l : List UInt8) (w : World) (V r M : Nat) (i : Value) (wr : World) : Prop :=
  ∃ (k : Nat) (yv : Value), k ≤ 4 ∧ i = .int .i64 k ∧ JSt w (w.heap.size + 2) V r (letG l k) yv wr ∧ wr.ownsRow (w.heap.size + 2) 2 1 (.slice (some ⟨M, 0, none⟩) 4 4) 4 (iv (atK l k))
/-- what holds between two places -/
def P2Rel (l : List UInt8) (w : World) (V r M : Nat) (i : Value) (wr : World) : Prop :=
  ∃ (t : Nat) (yv : Value), t + 1 ≤ max 1 l.length ∧ i = .int .i64 ((t : Int) + 1) ∧ JSt w (w.heap.size + 2) V r (letG l 4 ++ prsG l (letG l 4).length t) yv wr ∧ wr.ownsRow (w.heap.size + 2) 2 1 (.slice (some ⟨M, 0, none⟩) 4 4) 4 (iv (atK l 4))

set_option maxRecDepth 100000 in
set_option maxHeartbeats 6400000 in
theorem l02Plain_any (s : ByteArray) (w : World) (hs : okL s.data.toList = true) :
    Calls Try.prog 65 #[.string s] w fun e w' => ∃ y, e = .returned (.agg #[y]) ∧ OwnsR w' w.heap.size y (plainG s.data.toList) ∧ Below w.heap.size w w' := by
  obtain ⟨i0, hi, hz0, hz1, hz2⟩ := info_parts Try.info_rule
  obtain ⟨j0, gi, gz0, gz1, gz2⟩ := info_parts Try.info_i64
  have hlen := okL_len hs
  have hsz : s.size ≤ 2000 := by simpa using hlen
  have HS := Lib.hid hs
  have hb : Below w.heap.size w ((w.alloc (.cells #[.slice none 0 0] 26)).alloc (.cells #[.slice none 0 0] 26)) := ((Below.refl _ w).alloc (Nat.le_refl _) _).alloc (by simp) _
  have v0 : Var ((w.alloc (.cells #[.slice none 0 0] 26)).alloc (.cells #[.slice none 0 0] 26)) w.heap.size (.slice none 0 0) 26 := (Var.new w _ _).kept ((Below.refl _ _).alloc (Nat.le_refl _) _)
  have v1 : Var ((w.alloc (.cells #[.slice none 0 0] 26)).alloc (.cells #[.slice none 0 0] 26)) (w.heap.size + 1) (.slice none 0 0) 26 := by
    have := Var.new (w.alloc (.cells #[.slice none 0 0] 26)) (.slice none 0 0) 26
    rwa [show (w.alloc (.cells #[.slice none 0 0] 26)).heap.size = w.heap.size + 1 from by simp] at this
  have HB := Lib.hid hb
  have HV0 := Lib.hid v0
  have HV1 := Lib.hid v1
  clear hb v0 v1 hs
  go_enter Try.func65, Try.ntmps65
  go_wp2_with (refine wpList_make_full _ rfl _ _ 82 rfl (w.heap.size + 2) 2 j0 (.int .i64 0) 1 Try.underlying82 gi gz0 gz1 .i64 .i64 _ _ 4 rfl rfl rfl rfl (by rw [gz2]; omega) (by unfold maxLen; omega) (by simp) ?_)
  intro w3 hown hgr
  rw [made_i64] at hown
  have hB3 := below_of_grown hgr
  have HST : Hid (P1Rel s.data.toList w (w.heap.size + 1) w.heap.size (w.heap.size + 2) (.int .i64 0) w3) := Lib.hid
    ⟨0, .slice none 0 0, Nat.zero_le _, rfl, ⟨World.ownsRow_nil _ _ _ _, HV1.out.kept hB3, HV0.out.kept hB3, HB.out.trans (hB3.mono (by simp; omega)), by have := hB3.size; simp at this; omega⟩, by rw [atK_zero]; exact hown⟩
  clear hown hgr hB3
  go_wp2_with fail
  go_loopw [5, 6] (fun i _ wr => P1Rel s.data.toList w (w.heap.size + 1) w.heap.size (w.heap.size + 2) i wr) (fun i _ _ => 4 - (intOf i).toNat)
  case atStart => exact HST.out
  case round =>
    obtain ⟨k, yv, hk, rfl, hps, hat⟩ := hrel
    obtain ⟨wo, rfl⟩ : ∃ wo : World, wo = wr := ⟨_, rfl⟩
    by_cases hk4 : k < 4
    · have hlc := ltC_toNat hk4
      have e97 : (97 + (k : Int)) = ((ltC k).toNat : Int) := by rw [hlc]; omega
      have hconv : ∀ W : World, (convert 69 9 (.slice (some ⟨W.heap.size, 0, none⟩) 1 1)).run Try.prog (W.alloc (.cells #[.int .u8 (97 + (k : Int))] 5)) = .ok (.string ⟨#[ltC k]⟩) (W.alloc (.cells #[.int .u8 (97 + (k : Int))] 5)) := fun W => by
        rw [e97]
        exact run_convert_bytes_back (P := Try.prog) (W.alloc (.cells #[.int .u8 ((ltC k).toNat : Int)] 5)) 69 9 5 ⟨W.heap.size, 0, none⟩ 1 [ltC k] Try.underlying69 Try.underlying5 Try.underlying9 (fun j hj => by
          match j, hj with
          | 0, _ => simp [Addr.add])
      have hc1 := hconv wo
      have hF : ∀ W, Calls Try.prog 127 #[.string ⟨#[ltC k]⟩, .string s] W fun e w' => ∃ x, e = .returned x ∧ OwnsI w' W.heap.size x (found [ltC k] s.data.toList s.size) ∧ Below W.heap.size W w' := fun W => specFound ⟨#[ltC k]⟩ s W Nat.zero_lt_one (show 1 ≤ 2000 by omega) hsz
      have hfo := found_one (ltC k) s.data.toList
      rw [show s.data.toList.length = s.size from by simp] at hfo
      have hfl := found_len [ltC k] s.data.toList s.size
      generalize found [ltC k] s.data.toList s.size = fd at *
      have HF := Lib.hid hF
      have HPS := Lib.hid hps
      have HAT := Lib.hid hat
      have hba := (Below.refl _ wo).alloc (Nat.le_refl _) (.cells #[.int .u8 (97 + (k : Int))] 5)
      have HPA := Lib.hid (jst_kept hps hba)
      have HAA := Lib.hid (own_below hat hba (Nat.le_refl _))
      cases hh : hasC s.data.toList k
      · have hnl : letG s.data.toList (k + 1) = letG s.data.toList k := by rw [letG, hh]; rfl
        have hna := atK_no s.data.toList k hk4 hh
        have hz0 : fd.length = 0 := by
          have : ¬ 0 < fd.length := fun h => by have := hfo.1 h; unfold hasC at hh; exact absurd this (of_decide_eq_false hh)
          omega
        have HNL := Lib.hid hnl
        have HNA := Lib.hid hna
        clear hps hat hF hfo hconv hh hnl hna e97 hlc hba
        go_wp2_with fail
        refine (HF.out _).mono ?_
        rintro e w5 ⟨x, rfl, hx, hB5⟩
        obtain ⟨Af, cf, rfl⟩ := own_slice hx
        rw [hz0]
        have HST2 : Hid (P1Rel s.data.toList w (w.heap.size + 1) w.heap.size (w.heap.size + 2) (.int .i64 ((k : Int) + 1)) w5) := Lib.hid ⟨k + 1, yv, by omega, by go_num, by rw [HNL.out]; exact jst_kept HPA.out hB5, by rw [HNA.out]; exact own_below HAA.out hB5 (Nat.le_refl _)⟩
        clear hx hB5 hc1
        go_wp2_with fail
        go_roundw
        case rel => first | exact HST2.out | ((repeat apply Exists.intro); exact ⟨HST2.out, rfl⟩)
        case measure => (first | (simp [intOf]; done) | (simp [intOf]; omega))
      · have hnl : letG s.data.toList (k + 1) = letG s.data.toList k ++ [letR k] := by rw [letG, hh]; rfl
        have hna := atK_yes s.data.toList k hk4 hh
        have hfd : 0 < fd.length := hfo.2 (by unfold hasC at hh; exact of_decide_eq_true hh)
        have hz2' : (0 : Int) < (fd.length : Int) := by omega
        have hll := letG_len s.data.toList k
        have HNL := Lib.hid hnl
        have HNA := Lib.hid hna
        obtain ⟨N, hN⟩ : ∃ N, N = (letG s.data.toList k).length := ⟨_, rfl⟩
        have HN := Lib.hid hN
        have hNb : N ≤ 4 := by omega
        clear hps hat hF hfo hconv hh hnl hna e97 hlc hba hll hN
        go_wp2_with fail
        refine (HF.out _).mono ?_
        rintro e w5 ⟨x, rfl, hx, hB5⟩
        obtain ⟨Af, cf, rfl⟩ := own_slice hx
        have HP5 := Lib.hid (jst_kept HPA.out hB5)
        have HA5 := Lib.hid (own_below HAA.out hB5 (Nat.le_refl _))
        have hO5 := HP5.out.1
        rw [← HN.out] at hO5
        obtain ⟨A2, c2, rfl⟩ := own_slice hO5
        have hv5 := HP5.out.2.1.cell.1
        have o1 : w5.cell? ⟨w.heap.size + 2, k, none⟩ = some (.int .i64 ((atK s.data.toList k).getD k 0)) := by rw [HA5.out.cellAt k (by omega)]; exact iv_atU (by rw [atK_len]; omega)
        have f1 : w5.frozen? ⟨w.heap.size + 2, k, none⟩ = false := HA5.out.frozenAt _
        generalize (atK s.data.toList k).getD k 0 = z0 at o1
        -- behind the store into the table
        have hMV : (w.heap.size + 2) ≠ w.heap.size + 1 := by omega
        have HA6 : Hid ((w5.setCell ⟨w.heap.size + 2, k, none⟩ (.int .i64 (N : Int))).ownsRow (w.heap.size + 2) 2 1 (.slice (some ⟨w.heap.size + 2, 0, none⟩) 4 4) 4 (iv (atK s.data.toList (k + 1)))) := Lib.hid (by
          rw [← HNA.out, show (idxC s.data.toList k : Int) = (N : Int) from by unfold idxC; rw [← HN.out]]
          exact u_store HA5.out k N)
        have hg6 := only_setCell (World.grownBy.refl w5 (some (w.heap.size + 2))) (p := ⟨w.heap.size + 2, k, none⟩) (.inl rfl) (.int .i64 (N : Int))
        have HP6 : Hid (JSt w (w.heap.size + 2) (w.heap.size + 1) w.heap.size (letG s.data.toList k) (.slice A2 N c2) (w5.setCell ⟨w.heap.size + 2, k, none⟩ (.int .i64 (N : Int)))) := Lib.hid
          ⟨World.ownsRow.kept HP5.out.1 hg6 (own_own_ne' HP5.out.1 HA5.out (by decide)), HP5.out.2.1.far _ _ (by simp), HP5.out.2.2.1.far _ _ (by simp), HP5.out.2.2.2.1.setCell (p := ⟨w.heap.size + 2, k, none⟩) (by simp) _, Nat.le_trans HP5.out.2.2.2.2 hg6.size⟩
        have hv6 := HP6.out.2.1.cell.1
        have hsz6 : w.heap.size + 2 ≤ (w5.setCell ⟨w.heap.size + 2, k, none⟩ (.int .i64 (N : Int))).heap.size := HP6.out.2.2.2.2
        have HXC : Hid (rc (letR k) = [.string ⟨#[ltC k]⟩, .int .i64 0, .int .i64 0]) := Lib.hid rfl
        have hnw := news3 (w5.setCell ⟨w.heap.size + 2, k, none⟩ (.int .i64 (N : Int))) (letR k) 146
        rw [show (w5.setCell ⟨w.heap.size + 2, k, none⟩ (.int .i64 (N : Int))).heap.size = w5.heap.size from by simp [World.setCell]] at hnw
        have HNW := Lib.hid hnw
        have hsz5 : w.heap.size + 2 ≤ w5.heap.size := by simpa [World.setCell] using hsz6
        clear hnw
        have hO6 := HP6.out.1
        rw [← HN.out] at hO6
        have HO6 := Lib.hid hO6
        clear hx hB5 hc1 hO5 hg6 hO6
        go_wp2_with (first | (at_builtin; refine wpList_append_own _ rfl _ _ 24 rfl (w.heap.size + 2) 146 i0 (.agg #[.string ⟨#[]⟩, .int .i64 0, .int .i64 0]) 3 32 Try.underlying24 hi hz0 hz1 hz2 rfl (by decide) _ _ _ rfl (World.ownsRow.alloc HO6.out _) ⟨w5.heap.size, 0, none⟩ 1 1 (rc (letR k)) rfl rfl HNW.out (rc_cell _) (by unfold maxLen; omega) (by omega) (by simp; first | done | omega | (simp [World.setCell]; omega)) ?_))
        intro v8 w8 hown' hgrow _
        obtain ⟨A8, c8, rfl⟩ := own_slice hown'
        obtain ⟨hk8, hp9⟩ := jst_grown (x := letR k) (show w.heap.size ≤ w.heap.size + 2 by omega) (show w.heap.size ≤ w.heap.size + 1 by omega) (show w.heap.size ≠ w.heap.size + 1 by omega) HP6.out (by rw [← HN.out]; exact hown') hgrow
        obtain ⟨x8, y8⟩ := hk8.cell
        have ha8 := own_other HA6.out HO6.out (by decide) hgrow
        have HA9 := Lib.hid (World.ownsRow.kept ha8 (only_setCell (World.grownBy.refl w8 (some (w.heap.size + 1))) (p := ⟨w.heap.size + 1, 0, none⟩) (.inl rfl) (.slice A8 (N + 1) c8)) (.inr (by simp [Value.ownBlock])))
        have HP9 := Lib.hid hp9
        clear hown' hgrow hk8 hp9 ha8
        go_wp2_with fail
        go_roundw
        case rel =>
          have HST2 : Hid (P1Rel s.data.toList w (w.heap.size + 1) w.heap.size (w.heap.size + 2) (.int .i64 ((k : Int) + 1)) (w8.setCell ⟨w.heap.size + 1, 0, none⟩ (.slice A8 (N + 1) c8))) := Lib.hid ⟨k + 1, .slice A8 (N + 1) c8, by omega, by go_num, by rw [HNL.out]; exact HP9.out, HA9.out⟩
          first | exact HST2.out | ((repeat apply Exists.intro); exact ⟨HST2.out, rfl⟩)
        case measure => (first | (simp [intOf]; done) | (simp [intOf]; omega))
    · obtain rfl : k = 4 := by omega
      have HST3 : Hid (P2Rel s.data.toList w (w.heap.size + 1) w.heap.size (w.heap.size + 2) (.int .i64 1) wo) := Lib.hid ⟨0, yv, by omega, rfl, by rw [prsG, List.append_nil]; exact hps, hat⟩
      clear hps hat
      go_wp2_with fail
      go_loopw [7, 8] (fun i _ wr => P2Rel s.data.toList w (w.heap.size + 1) w.heap.size (w.heap.size + 2) i wr) (fun i _ _ => s.size - (intOf i).toNat)
      case atStart => exact HST3.out
      case round =>
        obtain ⟨t, yv2, ht, rfl, hps2, hat2⟩ := hrel
        obtain ⟨wu, rfl⟩ : ∃ wu : World, wu = wr := ⟨_, rfl⟩
        have hsl : s.data.toList.length = s.size := by simp
        rw [hsl] at ht
        by_cases hlt : t + 1 < s.size
        · have h0s : 0 < s.size := by omega
          have hm1 : s[t + 1]'hlt ∈ s.data.toList := by rw [← byteAt s (t + 1) hlt, List.getD_eq_getElem?_getD, List.getElem?_eq_getElem (by simpa using hlt), Option.getD_some]; exact List.getElem_mem _
          have hm0 : s[0]'h0s ∈ s.data.toList := by rw [← byteAt s 0 h0s, List.getD_eq_getElem?_getD, List.getElem?_eq_getElem (by simpa using h0s), Option.getD_some]; exact List.getElem_mem _
          have hl1 : lt (s[t + 1]'hlt) = true := lt_mem HS.out hm1
          have hl0 : lt (s[0]'h0s) = true := lt_mem HS.out hm0
          have T1 := Lib.hid (fun (W : World) (h : W.ownsRow (w.heap.size + 2) 2 1 (.slice (some ⟨w.heap.size + 2, 0, none⟩) 4 4) 4 (iv (atK s.data.toList 4))) => table_at h hl1 hm1)
          have T0 := Lib.hid (fun (W : World) (h : W.ownsRow (w.heap.size + 2) 2 1 (.slice (some ⟨w.heap.size + 2, 0, none⟩) 4 4) 4 (iv (atK s.data.toList 4))) => table_at h hl0 hm0)
          have hb1 := byteAt s (t + 1) hlt
          have hb0 := byteAt s 0 h0s
          have hn1 := noC_lt hl1
          have hn0 := noC_lt hl0
          have hw1 : ∀ h, IntKind.u8.wrap (((s[t + 1]'h).toNat : Int) - 97) = (noC (s[t + 1]'hlt) : Int) := fun _ => sub97 hl1
          have hw0 : ∀ h, IntKind.u8.wrap (((s[0]'h).toNat : Int) - 97) = (noC (s[0]'h0s) : Int) := fun _ => sub97 hl0
          obtain ⟨D1, hD1⟩ : ∃ D1, D1 = noC (s[t + 1]'hlt) := ⟨_, rfl⟩
          obtain ⟨D0, hD0⟩ : ∃ D0, D0 = noC (s[0]'h0s) := ⟨_, rfl⟩
          rw [← hD1] at hw1 hn1 T1
          rw [← hD0] at hw0 hn0 T0
          obtain ⟨N, hN⟩ : ∃ N, N = (letG s.data.toList 4).length := ⟨_, rfl⟩
          obtain ⟨BF, hBF⟩ : ∃ BF : Nat, BF = if t = 0 then idxC s.data.toList D0 else N + t - 1 := ⟨_, rfl⟩
          obtain ⟨RG, hRG⟩ : ∃ RG : Nat, RG = idxC s.data.toList D1 := ⟨_, rfl⟩
          have HPX := Lib.hid (show prsG s.data.toList N (t + 1) = prsG s.data.toList N t ++ [pairR BF RG] from by rw [prsG, hBF, hRG, hb1, hb0, hD1, hD0])
          rw [← hRG] at T1
          have hbfl : BF ≤ 2100 := by
            have := letG_len s.data.toList 4
            rw [hBF]
            split
            · have := letG_len s.data.toList D0; unfold idxC; omega
            · omega
          obtain ⟨X, hX⟩ : ∃ X : Rl, X = ⟨⟨#[]⟩, (BF : Int), (RG : Int)⟩ := ⟨_, rfl⟩
          have HXP := Lib.hid (show X = pairR BF RG from hX)
          have HXC := Lib.hid (show rc X = [.string ⟨#[]⟩, .int .i64 (BF : Int), .int .i64 (RG : Int)] from by rw [hX]; rfl)
          have hnw := news3 wu.drew X 146
          rw [hX] at hnw
          have HNW := Lib.hid hnw
          have HNN := Lib.hid hN
          obtain ⟨NT, hNT⟩ : ∃ NT, NT = (letG s.data.toList 4 ++ prsG s.data.toList N t).length := ⟨_, rfl⟩
          have hNT2 : NT = N + t := by rw [hNT, List.length_append, prsG_len, hN]
          have hN4 : N ≤ 4 := by rw [hN]; exact letG_len _ _
          rw [← hN] at hps2
          have HP6 := Lib.hid (jst_kept hps2 (Below.refl _ wu).drew)
          have hO6 := HP6.out.1
          rw [← hNT] at hO6
          obtain ⟨A3, c3, rfl⟩ := own_slice hO6
          have HO6 := Lib.hid hO6
          have HA6 := Lib.hid (own_below hat2 (Below.refl _ wu).drew (Nat.le_refl _))
          have HNT := Lib.hid hNT
          have v0 := hps2.2.1.cell.1
          have z0 := HP6.out.2.1.cell.1
          have hbs : w.heap.size + 2 ≤ wu.heap.size := hps2.2.2.2.2
          have t0 := T0.out wu hat2
          have t1 := T1.out wu.drew HA6.out
          have za6 := fun o => (jst_kept HP6.out ((Below.refl _ _).alloc (Nat.le_refl _) o)).2.1.cell.1
          have za6d : ∀ o, (wu.alloc o).drew.cell? ⟨w.heap.size + 1, 0, none⟩ = some (.slice A3 NT c3) := fun o => za6 o
          have hd1 : (D1 : Int) < 4 := by omega
          have hd0 : (D0 : Int) < 4 := by omega
          have hbnd : NT ≤ 2100 := by omega
          have j0 : (0 : Int) ≤ (t : Int) + 1 := by omega
          have j1 : (t : Int) + 1 < (s.size : Int) := by omega
          have j2 : ((t : Int) + 1).toNat = t + 1 := by omega
          by_cases ht0 : t = 0
          · rw [if_pos ht0] at hBF
            rw [← hBF] at t0
            have e1 : ((t : Int) + 1 == 1) = true := by rw [beq_iff_eq]; omega
            have hwN : IntKind.i64.wrap ((NT : Int) - 1) = (NT : Int) - 1 := by rw [IntKind.wrap_i64]; omega
            clear hps2 hat2 hX hnw hN hNT hO6 hBF hRG hD1 hD0 hb1 hb0 hm1 hm0 hl1 hl0 hNT2 ht0 hN4 hbfl
            go_wp2_with fail
            go_region_law ((first
              | (refine step_append_lies _ (by rfl) _ _ 24 (by rfl) (w.heap.size + 2) 146 i0 (.agg #[.string ⟨#[]⟩, .int .i64 0, .int .i64 0]) 3 32 Try.underlying24 hi hz0 hz1 hz2 (by rfl) (by decide) (.slice A3 NT c3) NT (rv (letG s.data.toList 4 ++ prsG s.data.toList N t)) (by rfl) (World.ownsRow.alloc HO6.out _) ⟨wu.heap.size, 0, none⟩ 1 1 (rc X) (by rfl) (by rfl) (by rw [HXC.out]; exact HNW.out) (rc_cell _) (by decide) (by unfold maxLen; omega) (by omega) (by simp; omega) (wu.heap.size + 1) (by simp) ?_
                 intro g8 c8 w8 hown' hgrow _ _
                 obtain ⟨hk8, hp9⟩ := jst_grown (x := X) (show w.heap.size ≤ w.heap.size + 2 by omega) (show w.heap.size ≤ w.heap.size + 1 by omega) (show w.heap.size ≠ w.heap.size + 1 by omega) HP6.out (by rw [← HNT.out]; exact hown') hgrow
                 obtain ⟨x8, y8⟩ := hk8.cell
                 have HP9 := Lib.hid hp9
                 have ha8 := own_other HA6.out HO6.out (by decide) hgrow
                 have HA9 := Lib.hid (World.ownsRow.kept ha8 (only_setCell (World.grownBy.refl w8 (some (w.heap.size + 1))) (p := ⟨w.heap.size + 1, 0, none⟩) (.inl rfl) (.slice (some ⟨g8, 0, none⟩) (NT + 1) c8)) (.inr (by simp [Value.ownBlock])))
                 clear hown' hgrow hk8 hp9 ha8)))
            all_goals
              have HST4 : Hid (P2Rel s.data.toList w (w.heap.size + 1) w.heap.size (w.heap.size + 2) (.int .i64 ((t : Int) + 1 + 1)) (w8.setCell ⟨w.heap.size + 1, 0, none⟩ (.slice (some ⟨g8, 0, none⟩) (NT + 1) c8))) := Lib.hid ⟨t + 1, .slice (some ⟨g8, 0, none⟩) (NT + 1) c8, by omega, by go_num, by rw [← HNN.out, HPX.out, ← List.append_assoc, ← HXP.out]; exact HP9.out, HA9.out⟩
              go_wp2_with fail
              go_roundw
              case rel => first | exact HST4.out | ((repeat apply Exists.intro); exact ⟨HST4.out, rfl⟩)
              case measure => (first | (simp [intOf]; done) | (simp [intOf]; omega))
          · rw [if_neg ht0] at hBF
            have e1 : ((t : Int) + 1 == 1) = false := by rw [beq_eq_false_iff_ne]; omega
            have hwN : IntKind.i64.wrap ((NT : Int) - 1) = (BF : Int) := by rw [IntKind.wrap_i64]; omega
            clear hps2 hat2 hX hnw hN hNT hO6 hBF hRG hD1 hD0 hb1 hb0 hm1 hm0 hl1 hl0 hNT2 hN4 hbfl t0
            go_wp2_with fail
            go_region_law ((first
              | (refine step_append_lies _ (by rfl) _ _ 24 (by rfl) (w.heap.size + 2) 146 i0 (.agg #[.string ⟨#[]⟩, .int .i64 0, .int .i64 0]) 3 32 Try.underlying24 hi hz0 hz1 hz2 (by rfl) (by decide) (.slice A3 NT c3) NT (rv (letG s.data.toList 4 ++ prsG s.data.toList N t)) (by rfl) (World.ownsRow.alloc HO6.out _) ⟨wu.heap.size, 0, none⟩ 1 1 (rc X) (by rfl) (by rfl) (by rw [HXC.out]; exact HNW.out) (rc_cell _) (by decide) (by unfold maxLen; omega) (by omega) (by simp; omega) (wu.heap.size + 1) (by simp) ?_
                 intro g8 c8 w8 hown' hgrow _ _
                 obtain ⟨hk8, hp9⟩ := jst_grown (x := X) (show w.heap.size ≤ w.heap.size + 2 by omega) (show w.heap.size ≤ w.heap.size + 1 by omega) (show w.heap.size ≠ w.heap.size + 1 by omega) HP6.out (by rw [← HNT.out]; exact hown') hgrow
                 obtain ⟨x8, y8⟩ := hk8.cell
                 have HP9 := Lib.hid hp9
                 have ha8 := own_other HA6.out HO6.out (by decide) hgrow
                 have HA9 := Lib.hid (World.ownsRow.kept ha8 (only_setCell (World.grownBy.refl w8 (some (w.heap.size + 1))) (p := ⟨w.heap.size + 1, 0, none⟩) (.inl rfl) (.slice (some ⟨g8, 0, none⟩) (NT + 1) c8)) (.inr (by simp [Value.ownBlock])))
                 clear hown' hgrow hk8 hp9 ha8)))
            all_goals
              have HST4 : Hid (P2Rel s.data.toList w (w.heap.size + 1) w.heap.size (w.heap.size + 2) (.int .i64 ((t : Int) + 1 + 1)) (w8.setCell ⟨w.heap.size + 1, 0, none⟩ (.slice (some ⟨g8, 0, none⟩) (NT + 1) c8))) := Lib.hid ⟨t + 1, .slice (some ⟨g8, 0, none⟩) (NT + 1) c8, by omega, by go_num, by rw [← HNN.out, HPX.out, ← List.append_assoc, ← HXP.out]; exact HP9.out, HA9.out⟩
              go_wp2_with fail
              go_roundw
              case rel => first | exact HST4.out | ((repeat apply Exists.intro); exact ⟨HST4.out, rfl⟩)
              case measure => (first | (simp [intOf]; done) | (simp [intOf]; omega))
        · have htl : s.data.toList.length - 1 = t := by omega
          obtain ⟨NT, hNT⟩ : ∃ NT, NT = (letG s.data.toList 4 ++ prsG s.data.toList (letG s.data.toList 4).length t).length := ⟨_, rfl⟩
          have hO := hps2.1
          rw [← hNT] at hO
          obtain ⟨A3, c3, rfl⟩ := own_slice hO
          have v0 := hps2.2.1.cell.1
          obtain ⟨r0, r1⟩ := hps2.2.2.1.cell
          have hB := hps2.2.2.2.1
          have HFO : Hid (OwnsR wu w.heap.size (.slice A3 NT c3) (plainG s.data.toList)) := Lib.hid (by
            unfold OwnsR plainG
            rw [htl, ← hNT]
            exact own_lower hO (by omega))
          have HNE := Lib.hid (own_var_ne hO hps2.2.2.1 (by decide))
          have HBB := Lib.hid hB
          clear hps2 hat2 htl hNT hO hB
          go_wp2_with fail
          refine bodyPost_ret (v := .agg #[.slice A3 NT c3]) (by simp [results, Try.results65, go_sem, r0]) rfl ⟨_, rfl, ?_, HBB.out.setCell (by simp) _⟩
          exact World.ownsRow.kept HFO.out (only_setCell (World.grownBy.refl wu (some w.heap.size)) (p := ⟨w.heap.size, 0, none⟩) (.inl rfl) _) (.inr HNE.out)
end Go.Proofs.Ytlgpleeanmeenaa
namespace Go.Proofs.Ytlgpleeanmeenaa
open Go.RowKit Go.Maps
open Wd
set_option linter.unusedVariables false

theorem contains_any (s : ByteArray) (k : Nat) (hk : k < 4) (w : World) :
    Calls Try.prog 187 #[.string s, .int .i32 (97 + (k : Int))] w fun e w' => e = .returned (.bool (hasC s.data.toList k)) ∧ w' = w := by
  refine (Try.strings_ContainsRune_ascii s _ w (by omega) (by omega)).mono fun e w' he => ⟨he.1.trans ?_, he.2⟩
  rw [← Lib.contains_iff_indexByte]
  have h1 : (97 + (k : Int)).toNat.toUInt8 = ltC k := by
    match k, hk with
    | 0, _ => rfl
    | 1, _ => rfl
    | 2, _ => rfl
    | 3, _ => rfl
  rw [h1]
  unfold hasC
  congr 2
  rw [List.contains_eq_mem]
theorem letter_text (k : Nat) (hk : k < 4) (w : World) : (convert 21 9 (.int .i32 (97 + (k : Int)))).run Try.prog w = .ok (.string ⟨#[ltC k]⟩) w := by
  have h0 : (convert 21 9 (.int .i32 97)).run Try.prog w = .ok (.string ⟨#[97]⟩) w := by kernel_rfl
  have h1 : (convert 21 9 (.int .i32 98)).run Try.prog w = .ok (.string ⟨#[98]⟩) w := by kernel_rfl
  have h2 : (convert 21 9 (.int .i32 99)).run Try.prog w = .ok (.string ⟨#[99]⟩) w := by kernel_rfl
  have h3 : (convert 21 9 (.int .i32 100)).run Try.prog w = .ok (.string ⟨#[100]⟩) w := by kernel_rfl
  match k, hk with
  | 0, _ => exact h0
  | 1, _ => exact h1
  | 2, _ => exact h2
  | 3, _ => exact h3
theorem mem_at (s : ByteArray) (k : Nat) (h : k < s.size) : s[k]'h ∈ s.data.toList := by
  have : s[k]'h = s.data.toList[k]'(by simpa using h) := by simp; rfl
  rw [this]
  exact List.getElem_mem _
theorem lt_mem' {l : List UInt8} (h : okL l = true) {c : UInt8} (hc : c ∈ l) : lt c = true := by
  obtain ⟨i, hi, e⟩ := List.getElem_of_mem hc
  rw [← e]
  exact okL_at h hi
theorem grown_iterAt (w : World) (k : Nat) (s : ByteArray) (pos : Nat) : w.grownBy (w.iterAt k s pos) (some k) :=
  ⟨rfl, rfl, rfl, by rw [Lib.iterAt_size]; exact Nat.le_refl _, fun i _ hi => Lib.iterAt_other w k i s pos (fun e => hi (by rw [e]))⟩
theorem own_iter_ne {w : World} {B e s n I pos : Nat} {v : Value} {xs : List Value} {str : ByteArray} (h : w.ownsRow B e s v n xs) (hi : w.heap[I]? = some (.stringIter str pos)) : v.ownBlock ≠ some I := by
  rcases h.2 with ⟨rfl, _⟩ | ⟨g', cap, cur, rfl, _, hh, _⟩
  · simp [Value.ownBlock]
  · intro he
    have : g' = I := by simpa [Value.ownBlock] using he
    subst this
    rw [hh] at hi
    cases hi
theorem own_map_ne {w : World} {B e s n M k m : Nat} {v : Value} {xs : List Value} {D : DataW Unit} {R : Value → Option (DataW Unit × List MemPlace)} (h : w.ownsRow B e s v n xs) (hm : w.ownsMap Try.prog k R M m D) : v.ownBlock ≠ some M := by
  obtain ⟨es, clock, hb, _⟩ := hm
  rcases h.2 with ⟨rfl, _⟩ | ⟨g', cap, cur, rfl, _, hh, _⟩
  · simp [Value.ownBlock]
  · intro he
    have : g' = M := by simpa [Value.ownBlock] using he
    subst this
    rw [hh] at hb
    cases hb
theorem keyed32 : Keyed Try.prog 21 := int_keyed Try.underlying21
theorem zero64 (w : World) : (zeroValue 2).run Try.prog w = .ok (.int .i64 0) w := by kernel_rfl
theorem key32 (k : Nat) (hk : k < 4) : keyOf Try.prog 21 (.int .i32 (97 + (k : Int))) = some (.int .i32 (97 + (k : Int))) :=
  keyOf_int_mk Try.underlying21 (by simp [Lit.wf, IntKind.min, IntKind.max, IntKind.signed, IntKind.bits]; omega)
/-- the map from letters to the numbers of their rules -/
def MapTo (l : List UInt8) (M k : Nat) (w : World) : Prop :=
  ∃ D : DataW Unit, w.ownsMap Try.prog 21 (plainElem Try.prog 2) M k D ∧ IsMap D ∧ ∀ j, j < k → hasC l j = true → ∀ z, D.atKey (.int .i32 (97 + (j : Int))) z = .lit (.int .i64 (idxC l j))
/-- between two letters -/
structure PSt (l : List UInt8) (w : World) (str : ByteArray) (I pos k : Nat) (rs : List Rl) (y : Value) (wr : World) : Prop where
  row : wr.ownsRow w.heap.size 146 3 y rs.length (rv rs)
  map : MapTo l (w.heap.size + 1) k wr
  it : wr.heap[I]? = some (.stringIter str pos)
  below : Below w.heap.size w wr
  hI : w.heap.size + 1 < I
theorem MapTo.kept {l : List UInt8} {M k : Nat} {w w' : World} {row : Option Nat} (h : MapTo l M k w) (hg : w.grownBy w' row) (hne : some M ≠ row) : MapTo l M k w' := by
  obtain ⟨D, h1, h2, h3⟩ := h
  exact ⟨D, h1.kept hg hne, h2, h3⟩
theorem MapTo.lt {l : List UInt8} {M k : Nat} {w : World} (h : MapTo l M k w) : M < w.heap.size := by
  obtain ⟨D, h1, _⟩ := h
  exact h1.lt
theorem own_mapTo_ne {w : World} {B e s n M m : Nat} {v : Value} {xs : List Value} {l : List UInt8} (h : w.ownsRow B e s v n xs) (hm : MapTo l M m w) : v.ownBlock ≠ some M := by
  obtain ⟨D, h1, _⟩ := hm
  exact own_map_ne h h1
theorem PSt.next {l : List UInt8} {w wr : World} {str : ByteArray} {I pos k : Nat} {rs : List Rl} {y : Value} (h : PSt l w str I pos k rs y wr) (pos' : Nat) : PSt l w str I pos' k rs y (wr.iterAt I str pos') := by
  have hg := grown_iterAt wr I str pos'
  have hne := own_iter_ne h.row h.it
  have hI := h.hI
  exact ⟨h.row.kept hg (.inr hne), h.map.kept hg (by intro e; injection e with e; omega), Lib.iterAt_heap wr I str pos pos' h.it, Lib.below_iterAt h.below (by omega) str pos', hI⟩
theorem PSt.app {l : List UInt8} {w wr w5 : World} {str : ByteArray} {I pos k : Nat} {rs : List Rl} {x : Rl} {y y' : Value} {o : Obj} (h : PSt l w str I pos k rs y wr)
    (hown : w5.ownsRow w.heap.size 146 3 y' (rs.length + 1) (rv rs ++ rc x)) (hg : (wr.alloc o).grownBy w5 y.ownBlock) : PSt l w str I pos k (rs ++ [x]) y' w5 := by
  have n1 := own_iter_ne h.row h.it
  have n2 := own_mapTo_ne h.row h.map
  have hlt : I < wr.heap.size := (Array.getElem?_eq_some_iff.1 h.it).1
  have hb := (Below.refl _ wr).alloc (Nat.le_refl _) o
  refine ⟨?_, (h.map.kept (World.grownBy_alloc wr o none) (by simp)).kept hg (fun e => n2 e.symm), ?_, ?_, h.hI⟩
  · rw [List.length_append, rv_app, rv_one]; exact hown
  · rw [hg.block I (by simp; omega) (fun e => n1 e.symm), hb.block I hlt]; exact h.it
  · exact (h.below.alloc h.below.size o).grown hg (by have := h.below.size; simp; omega) (fun q hq => (h.row.lt q hq).1)
theorem PSt.num {l : List UInt8} {w wr w5 : World} {str : ByteArray} {I pos k n : Nat} {rs : List Rl} {y u : Value} {xs : List Value} {o : Obj} (h : PSt l w str I pos k rs y wr)
    (hu : wr.ownsRow w.heap.size 2 1 u n xs) (hg : (wr.alloc o).grownBy w5 u.ownBlock) : PSt l w str I pos k rs y w5 := by
  have n1 := own_iter_ne hu h.it
  have n2 := own_mapTo_ne hu h.map
  have hlt : I < wr.heap.size := (Array.getElem?_eq_some_iff.1 h.it).1
  have hb := (Below.refl _ wr).alloc (Nat.le_refl _) o
  refine ⟨own_other h.row hu (by decide) hg, (h.map.kept (World.grownBy_alloc wr o none) (by simp)).kept hg (fun e => n2 e.symm), ?_, ?_, h.hI⟩
  · rw [hg.block I (by simp; omega) (fun e => n1 e.symm), hb.block I hlt]; exact h.it
  · exact (h.below.alloc h.below.size o).grown hg (by have := h.below.size; simp; omega) (fun q hq => (hu.lt q hq).1)
theorem PSt.upd {l : List UInt8} {w wr w5 : World} {str : ByteArray} {I pos k : Nat} {rs : List Rl} {y : Value} {D : DataW Unit} (h : PSt l w str I pos k rs y wr)
    (hm : w5.ownsMap Try.prog 21 (plainElem Try.prog 2) (w.heap.size + 1) (k + 1) D) (hi : IsMap D) (ha : ∀ j, j < k + 1 → hasC l j = true → ∀ z, D.atKey (.int .i32 (97 + (j : Int))) z = .lit (.int .i64 (idxC l j)))
    (hg : wr.grownBy w5 (some (w.heap.size + 1))) : PSt l w str I pos (k + 1) rs y w5 := by
  have hlt : I < wr.heap.size := (Array.getElem?_eq_some_iff.1 h.it).1
  have hI := h.hI
  refine ⟨h.row.kept hg (.inr (own_mapTo_ne h.row h.map)), ⟨D, hm, hi, ha⟩, ?_, h.below.grown hg h.below.size (fun q hq => by injection hq with hq; omega), hI⟩
  rw [hg.block I hlt (by intro e; injection e with e; omega)]
  exact h.it
theorem PSt.skip {l : List UInt8} {w wr : World} {str : ByteArray} {I pos k : Nat} {rs : List Rl} {y : Value} (h : PSt l w str I pos k rs y wr) (hno : hasC l k = false) : PSt l w str I pos (k + 1) rs y wr := by
  obtain ⟨D, h1, h2, h3⟩ := h.map
  refine ⟨h.row, ⟨D, h1.mono (by omega), h2, fun j hj hh z => ?_⟩, h.it, h.below, h.hI⟩
  by_cases e : j = k
  · subst e; rw [hno] at hh; cases hh
  · exact h3 j (by omega) hh z
theorem put_at {l : List UInt8} {k : Nat} {D : DataW Unit} (h2 : IsMap D) (h3 : ∀ j, j < k → hasC l j = true → ∀ z, D.atKey (.int .i32 (97 + (j : Int))) z = .lit (.int .i64 (idxC l j))) :
    ∀ j, j < k + 1 → hasC l j = true → ∀ z, (D.put (.int .i32 (97 + (k : Int))) (.lit (.int .i64 (idxC l k)))).atKey (.int .i32 (97 + (j : Int))) z = .lit (.int .i64 (idxC l j)) := by
  intro j hj hh z
  by_cases e : j = k
  · subst e
    exact atKey_put_same h2 (show WideAt.IsKeyLit (.int .i32 (97 + (j : Int))) from trivial) _ _
  · rw [atKey_put_other (by intro h; injection h with _ h; omega)]
    exact h3 j (by omega) hh z
theorem abcd_at (k : Nat) (hk : k < 4) : ((⟨#[97, 98, 99, 100]⟩ : ByteArray)[k]'(by show k < 4; exact hk)).toNat = 97 + k := by
  match k, hk with
  | 0, _ => rfl
  | 1, _ => rfl
  | 2, _ => rfl
  | 3, _ => rfl
theorem abcd_next (w : World) (I k : Nat) (hk : k < 4) (hi : w.heap[I]? = some (.stringIter ⟨#[97, 98, 99, 100]⟩ k)) (ty : TypeId) :
    (Instr.next (.pointer (some ⟨I, 0, none⟩)) true ty).run Try.prog w = .ok (.tuple #[.bool true, .int .i64 k, .int .i32 (97 + (k : Int))]) (w.iterAt I ⟨#[97, 98, 99, 100]⟩ (k + 1)) := by
  have h1 := abcd_at k hk
  have := Lib.run_next_ascii_at (P := Try.prog) w I ⟨#[97, 98, 99, 100]⟩ k ty hi (by show k < 4; exact hk) (by rw [h1]; omega)
  rw [h1] at this
  rw [this]
  simp
theorem abcd_end (w : World) (I k : Nat) (hk : ¬ k < 4) (hi : w.heap[I]? = some (.stringIter ⟨#[97, 98, 99, 100]⟩ k)) (ty : TypeId) :
    (Instr.next (.pointer (some ⟨I, 0, none⟩)) true ty).run Try.prog w = .ok (.tuple #[.bool false]) w :=
  Lib.run_next_end_at w I ⟨#[97, 98, 99, 100]⟩ k ty hi hk
/-- between two letters of the alphabet -/
def R1Rel (l : List UInt8) (w : World) (y : Value) (wr : World) : Prop :=
  ∃ k : Nat, k ≤ 4 ∧ PSt l w ⟨#[97, 98, 99, 100]⟩ (w.heap.size + 2) k k (letG l k) y wr
/-- between two letters of the word -/
def R2Rel (s : ByteArray) (w : World) (I : Nat) (y u : Value) (wr : World) : Prop :=
  ∃ k : Nat, k ≤ s.size ∧ PSt s.data.toList w s I k 4 (letG s.data.toList 4) y wr ∧ wr.ownsRow w.heap.size 2 1 u k (iv ((nsC s.data.toList).take k))

set_option maxRecDepth 100000 in
set_option maxHeartbeats 6400000 in
theorem lettersOf_any (s : ByteArray) (w : World) (hs : okL s.data.toList = true) :
    Calls Try.prog 140 #[.string s] w fun e w' => ∃ y u, e = .returned (.tuple #[y, u]) ∧ w'.ownsRow w.heap.size 146 3 y (letG s.data.toList 4).length (rv (letG s.data.toList 4)) ∧ w'.ownsRow w.heap.size 2 1 u s.size (iv (nsC s.data.toList)) ∧ Below w.heap.size w w' := by
  obtain ⟨i0, hi, hz0, hz1, hz2⟩ := info_parts Try.info_rule
  obtain ⟨j0, gi, gz0, gz1, gz2⟩ := info_parts Try.info_i64
  have hlen := okL_len hs
  have hsz : s.size ≤ 2000 := by simpa using hlen
  have HS := Lib.hid hs
  have hmm := @run_makeMap Try.prog
  clear hs hlen
  have HST : Hid (R1Rel s.data.toList w (.slice (some ⟨w.heap.size, 0, none⟩) 0 0) (((w.alloc (.cells #[] 146)).alloc (.map #[] 0)).alloc (.stringIter ⟨#[97, 98, 99, 100]⟩ 0))) := Lib.hid
    ⟨0, Nat.zero_le _, ⟨((World.ownsRow_lit w #[] 0 (Nat.le_refl _) (by decide) rfl).alloc _).alloc _, ⟨.map [], by
        have := World.ownsMap_made (w.alloc (.cells #[] 146)) Try.prog 21 (plainElem (H := Unit) Try.prog 2)
        rw [show (w.alloc (.cells #[] 146)).heap.size = w.heap.size + 1 from by simp] at this
        exact this.alloc _, isMap_empty, fun j hj => by omega⟩, by
        have := heap_alloc_new ((w.alloc (.cells #[] 146)).alloc (.map #[] 0)) (.stringIter ⟨#[97, 98, 99, 100]⟩ 0)
        rwa [show ((w.alloc (.cells #[] 146)).alloc (.map #[] 0)).heap.size = w.heap.size + 2 from by simp] at this, (((Below.refl _ w).alloc (Nat.le_refl _) _).alloc (by simp) _).alloc (by simp; omega) _, by omega⟩⟩
  go_enter Try.func140, Try.ntmps140
  go_wp2_with fail
  go_loopw [4, 7] (fun y _ wr => R1Rel s.data.toList w y wr) (fun _ _ wr => 4 - wr.iterPos (w.heap.size + 2))
  case atStart => exact HST.out
  case round =>
    obtain ⟨k, hk, hps⟩ := hrel
    obtain ⟨wo, rfl⟩ : ∃ wo : World, wo = wr := ⟨_, rfl⟩
    obtain ⟨N, hN⟩ : ∃ N, N = (letG s.data.toList k).length := ⟨_, rfl⟩
    have hN4 : N ≤ 4 := by have := letG_len s.data.toList k; omega
    have hrow := hps.row
    rw [← hN] at hrow
    obtain ⟨A2, c2, rfl⟩ := own_slice hrow
    have hit := hps.it
    have HN := Lib.hid hN
    clear hrow hN
    by_cases hk4 : k < 4
    · have hnx := abcd_next wo (w.heap.size + 2) k hk4 hit
      have HPS := Lib.hid (hps.next (k + 1))
      have hms := iterPos_of hit
      have HCR := Lib.hid (fun W => contains_any s k hk4 W)
      have hlt := fun W => letter_text k hk4 W
      clear hps hit
      generalize wo.iterAt (w.heap.size + 2) ⟨#[97, 98, 99, 100]⟩ (k + 1) = w1 at *
      have hm1 := iterPos_of HPS.out.it
      cases hh : hasC s.data.toList k
      · rw [hh] at HCR
        have HP2 := Lib.hid (HPS.out.skip hh)
        have HNL := Lib.hid (show letG s.data.toList (k + 1) = letG s.data.toList k by rw [letG, hh]; rfl)
        have HST2 : Hid (R1Rel s.data.toList w (.slice A2 N c2) w1) := Lib.hid ⟨k + 1, by omega, by rw [HNL.out]; exact HP2.out⟩
        clear hh
        go_wp2_with fail
        refine (HCR.out _).mono ?_
        rintro e w5 ⟨rfl, rfl⟩
        go_wp2_with fail
        go_roundw
        case rel => first | exact HST2.out | ((repeat apply Exists.intro); exact ⟨HST2.out, rfl⟩)
        case measure => (first | (simp [intOf]; done) | (simp [intOf]; omega) | omega)
      · rw [hh] at HCR
        have HNL := Lib.hid (show letG s.data.toList (k + 1) = letG s.data.toList k ++ [letR k] by rw [letG, hh]; rfl)
        have hO6 := HPS.out.row
        rw [← HN.out] at hO6
        have HO6 := Lib.hid hO6
        have HNW := Lib.hid (news3 w1 (letR k) 146)
        have hb1 := HPS.out.below.size
        clear hh hO6
        go_wp2_with fail
        refine (HCR.out _).mono ?_
        rintro e w5 ⟨rfl, rfl⟩
        go_wp2_with (first | (at_builtin; refine wpList_append_own _ rfl _ _ 24 rfl w.heap.size 146 i0 (.agg #[.string ⟨#[]⟩, .int .i64 0, .int .i64 0]) 3 32 Try.underlying24 hi hz0 hz1 hz2 rfl (by decide) _ _ _ rfl (World.ownsRow.alloc HO6.out _) ⟨w5.heap.size, 0, none⟩ 1 1 (rc (letR k)) rfl rfl HNW.out (rc_cell _) (by unfold maxLen; omega) (by omega) (by simp; omega) ?_))
        intro v8 w8 hown' hgrow _
        obtain ⟨A8, c8, rfl⟩ := own_slice hown'
        have HP8 := Lib.hid (HPS.out.app (x := letR k) (by rw [← HN.out]; exact hown') hgrow)
        have HLA : Hid (∀ W, Calls Try.prog 119 #[.slice A8 (N + 1) c8] W fun e w' => e = .returned (.int .i64 (N : Int)) ∧ w' = W) := Lib.hid (fun W => (lastA A8 (N + 1) c8 (by omega) W).mono fun e w' h => ⟨h.1.trans (ret_int (by omega)), h.2⟩)
        have hwf : (Lit.int .i64 (N : Int)).wf = true := by simp [Lit.wf, IntKind.min, IntKind.max, IntKind.signed, IntKind.bits]; omega
        obtain ⟨D, hD, hDm, hDa⟩ := HP8.out.map
        have HDA := Lib.hid (put_at hDm hDa)
        have HDM := Lib.hid hDm
        have HD := Lib.hid hD
        clear hown' hgrow hD hDm hDa
        go_wp2_with fail
        refine (HLA.out _).mono ?_
        rintro e w9 ⟨rfl, rfl⟩
        go_wp2_with (first | (at_mapUpdate; refine wpList_mapUpdate_own _ rfl _ _ _ 238 rfl 21 2 keyed32 Try.underlying238 _ (w.heap.size + 1) k _ rfl HD.out (by unfold maxLen; omega) _ _ _ rfl rfl (key32 k hk4) _ [] (plainElem_int Try.underlying2 hwf) ?_))
        intro w10 hown1 hgrow1
        have HP10 := Lib.hid (HP8.out.upd hown1 (HDM.out.put _ _) (by
          have := HDA.out
          rw [show ((idxC s.data.toList k : Nat) : Int) = (N : Int) from by unfold idxC; rw [← HN.out]] at this
          exact this) hgrow1)
        have hm10 := iterPos_of HP10.out.it
        have HST2 : Hid (R1Rel s.data.toList w (.slice A8 (N + 1) c8) w10) := Lib.hid ⟨k + 1, by omega, by rw [HNL.out]; exact HP10.out⟩
        clear hown1 hgrow1
        go_wp2_with fail
        go_roundw
        case rel => first | exact HST2.out | ((repeat apply Exists.intro); exact ⟨HST2.out, rfl⟩)
        case measure => (first | (simp [intOf]; done) | (simp [intOf]; omega) | omega)
    · have hnx := abcd_end wo (w.heap.size + 2) k hk4 hit
      obtain rfl : k = 4 := by omega
      have HPS := Lib.hid hps
      have hb1 := hps.below.size
      clear hps hit
      go_wp2_with (first | (at_make; refine wpList_make_own _ rfl _ _ 82 rfl w.heap.size 2 j0 (.int .i64 0) 1 Try.underlying82 gi gz0 gz1 .i64 .i64 _ s.size rfl rfl rfl (by rw [gz2]; omega) (by unfold maxLen; omega) hb1 ?_))
      intro w3 hown hg
      have hB3 := below_of_grown hg
      obtain ⟨I, hI⟩ : ∃ I, I = w3.heap.size := ⟨_, rfl⟩
      have HST3 : Hid (R2Rel s w I (.slice A2 N c2) (.slice (some ⟨wo.heap.size, 0, none⟩) 0 s.size) (w3.iter s 0)) := Lib.hid ⟨0, Nat.zero_le _, ⟨World.ownsRow.alloc (own_below HPS.out.row hB3 (Nat.le_refl _)) _,
        (HPS.out.map.kept (gbOf hB3 none) (by simp)).kept (World.grownBy_alloc _ _ none) (by simp), by rw [hI]; exact World.iter_heap w3 s 0, (HPS.out.below.trans (hB3.mono hb1)).alloc (Nat.le_trans hb1 hB3.size) _, by
          rw [hI]
          have h1 := (Array.getElem?_eq_some_iff.1 HPS.out.it).1
          have h2 := hB3.size
          omega⟩, by rw [List.take_zero]; exact hown.alloc _⟩
      clear hown hg hB3 hnx hb1
      go_wp2_with fail
      rw [← hI]
      generalize w3.iter s 0 = w4 at *
      clear hI
      go_loopw [8, 10] (fun u _ wr => R2Rel s w I (.slice A2 N c2) u wr) (fun _ _ wr => s.size - wr.iterPos I)
      case atStart => exact HST3.out
      case round =>
        obtain ⟨q, hq, hps, hu⟩ := hrel
        obtain ⟨wu, rfl⟩ : ∃ wu : World, wu = wr := ⟨_, rfl⟩
        obtain ⟨A4, c4, rfl⟩ := own_slice hu
        have hit := hps.it
        have hms := iterPos_of hit
        by_cases hlt : q < s.size
        · have hm := mem_at s q hlt
          have hl1 : lt (s[q]'hlt) = true := lt_mem' HS.out hm
          obtain ⟨D1, hD1⟩ : ∃ D1, D1 = noC (s[q]'hlt) := ⟨_, rfl⟩
          have hD4 : D1 < 4 := by rw [hD1]; exact noC_lt hl1
          have hch : hasC s.data.toList D1 = true := by unfold hasC; rw [hD1, ltC_noC hl1]; exact decide_eq_true hm
          have hto : (s[q]'hlt).toNat = 97 + D1 := by have := of_lt hl1; rw [hD1]; unfold noC; omega
          have hnx : ∀ ty, (Instr.next (.pointer (some ⟨I, 0, none⟩)) true ty).run Try.prog wu = .ok (.tuple #[.bool true, .int .i64 q, .int .i32 (97 + (D1 : Int))]) (wu.iterAt I s (q + 1)) := fun ty => by
            rw [Lib.run_next_ascii_at wu I s q ty hit hlt (by rw [hto]; omega), hto]
            simp
          have HPS1 := Lib.hid (hps.next (q + 1))
          have HU1 := Lib.hid (World.ownsRow.kept hu (grown_iterAt wu I s (q + 1)) (.inr (own_iter_ne hu hit)))
          have HTK := Lib.hid (show (nsC s.data.toList).take (q + 1) = (nsC s.data.toList).take q ++ [(idxC s.data.toList D1 : Int)] from by
            have hl : q < (nsC s.data.toList).length := by rw [nsC_len]; simpa using hlt
            rw [List.take_succ_eq_append_getElem hl]
            congr 2
            simp only [nsC, List.getElem_map]
            rw [hD1]
            simp
            rfl)
          clear hps hu hit hto hD1 hl1 hm
          generalize wu.iterAt I s (q + 1) = w5 at *
          have hm1 := iterPos_of HPS1.out.it
          have hb5 := HPS1.out.below.size
          obtain ⟨D, hD, hDm, hDa⟩ := HPS1.out.map
          have HDA := Lib.hid (hDa D1 hD4 hch)
          have HD := Lib.hid hD
          clear hD hDm hDa hch
          go_wp2_with (first | (at_lookup; refine wpList_lookup_own_int _ rfl _ _ 238 rfl 21 2 .i64 keyed32 Try.underlying238 Try.underlying2 (zero64 _) (w.heap.size + 1) 4 _ rfl HD.out _ _ rfl (key32 D1 hD4) ?_; intro c hat hwc) | (at_builtin; refine wpList_append_own _ rfl _ _ 82 rfl w.heap.size 2 j0 (.int .i64 0) 1 8 Try.underlying82 gi gz0 gz1 gz2 rfl (by decide) _ _ _ rfl (World.ownsRow.alloc HU1.out _) ⟨w5.heap.size, 0, none⟩ 1 1 [.int .i64 c] rfl rfl (World.news_of_block (cs := #[.int .i64 c]) (heap_alloc_new w5 _)) (by intro u hu; simp at hu; subst hu; rfl) (by unfold maxLen; omega) (by omega) (by simp; omega) ?_))
          intro v8 w8 hown' hgrow _
          have hc : (idxC s.data.toList D1 : Int) = c := by
            have := (HDA.out (.lit (.int .i64 0))).symm.trans hat
            injection this with h1
            injection h1 with _ h2
          obtain ⟨A8, c8, rfl⟩ := own_slice hown'
          have HP8 := Lib.hid (HPS1.out.num HU1.out hgrow)
          have hm8 := iterPos_of HP8.out.it
          have HST4 : Hid (R2Rel s w I (.slice A2 N c2) (.slice A8 (q + 1) c8) w8) := Lib.hid ⟨q + 1, by omega, HP8.out, by rw [HTK.out, iv_app, hc]; exact hown'⟩
          clear hown' hgrow hat hwc hc
          go_wp2_with fail
          go_roundw
          case rel => first | exact HST4.out | ((repeat apply Exists.intro); exact ⟨HST4.out, rfl⟩)
          case measure => (first | (simp [intOf]; done) | (simp [intOf]; omega) | omega)
        · obtain rfl : q = s.size := by omega
          have hnx : ∀ ty, (Instr.next (.pointer (some ⟨I, 0, none⟩)) true ty).run Try.prog wu = .ok (.tuple #[.bool false]) wu := fun ty => Lib.run_next_end_at wu I s s.size ty hit (by omega)
          have hsl : s.data.toList.length = s.size := by simp
          rw [List.take_of_length_le (by rw [nsC_len, hsl]; exact Nat.le_refl _)] at hu
          have HRW := Lib.hid hps.row
          have HUW := Lib.hid hu
          have HB := Lib.hid hps.below
          clear hps hu hit hms hsl
          go_wp2_with fail
          go_ret2
          exact ⟨_, _, rfl, HRW.out, HUW.out, HB.out⟩
set_option maxHeartbeats 800000 in
theorem plainRules_any (s : ByteArray) (w : World) (hs : okL s.data.toList = true) :
    Calls Try.prog 82 #[.string s] w fun e w' => ∃ y, e = .returned y ∧ OwnsR w' w.heap.size y (plainG s.data.toList) ∧ Below w.heap.size w w' := by
  have HL := Lib.hid (lettersOf_any s w hs)
  have hlen := okL_len hs
  have hsl : s.data.toList.length = s.size := by simp
  have h4 := letG_len s.data.toList 4
  have HS := Lib.hid hs
  have HLN := Lib.hid hlen
  have H4 := Lib.hid h4
  have HSL := Lib.hid hsl
  obtain ⟨N, hN⟩ : ∃ N, N = (letG s.data.toList 4).length := ⟨_, rfl⟩
  have HN := Lib.hid hN
  clear hs hlen hsl h4 hN
  go_enter Try.func82, Try.ntmps82
  go_wp2_with fail
  refine HL.out.mono ?_
  rintro e w1 ⟨y, u, rfl, hy, hu, hB⟩
  rw [← HN.out] at hy
  obtain ⟨A2, c2, rfl⟩ := own_slice hy
  obtain ⟨A4, c4, rfl⟩ := own_slice hu
  have HB := Lib.hid hB
  have HC := chained_any A2 A4 c2 c4 w.heap.size s.data.toList (letG s.data.toList 4) w1 HLN.out H4.out (fun x hx => lt_mem' HS.out hx) hB.size (by rw [← HN.out]; exact hy) (by rw [HSL.out]; exact hu)
  rw [← HN.out, HSL.out] at HC
  have HC := Lib.hid HC
  clear hy hu hB
  go_wp2_with fail
  refine HC.out.mono ?_
  rintro e w9 ⟨y, rfl, ho, hB⟩
  have HF : Hid (OwnsR w9 w.heap.size y (plainG s.data.toList)) := Lib.hid (by
    unfold OwnsR plainG
    rw [← HN.out, HSL.out]
    exact ho)
  have HB9 := Lib.hid (HB.out.trans hB)
  clear ho hB
  go_wp2_with fail
  go_ret
  exact ⟨_, rfl, HF.out, HB9.out⟩
end Go.Proofs.Ytlgpleeanmeenaa
