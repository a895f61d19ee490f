/-
  Walk: impl.chained, the pairs of a plain word behind its letters.
-/
import Derived.Test.YtlkjceolddccbaaPlainM
import Derived.Test.YtlkjceolddccbaaOwnK
namespace Go.Proofs.Ytlkjceolddccbaa
open Go.RowKit
open Wd
set_option linter.unusedVariables false

namespace Wd
/-- the numbers of the letters' rules, letter by letter -/
def nsC (l : List UInt8) : List Int := l.map fun c => (idxC l (noC c) : Int)
theorem nsC_len (l : List UInt8) : (nsC l).length = l.length := by simp [nsC]
theorem nsC_at (l : List UInt8) (k : Nat) (h : k < l.length) : (iv (nsC l))[k]? = some (.int .i64 (idxC l (noC (l.getD k 97)) : Int)) := by
  simp [iv, nsC, h, List.getD_eq_getElem?_getD]
theorem idxC_le (l : List UInt8) (k : Nat) : idxC l k ≤ k := letG_len l k
end Wd
/-- what holds between two pairs -/
def ChRel (l : List UInt8) (gs : List Rl) (B : Nat) (nv : Value) (w : World) (y i : Value) (wr : World) : Prop :=
  ∃ t : Nat, t + 1 ≤ max 1 l.length ∧ i = .int .i64 ((t : Int) + 1) ∧ wr.ownsRow B 71 3 y (gs.length + t) (rv (gs ++ prsG l gs.length t)) ∧ wr.ownsRow B 2 1 nv l.length (iv (nsC l)) ∧ Below B w wr

set_option maxRecDepth 100000 in
set_option maxHeartbeats 6400000 in
theorem chained_any (A A' : Option Addr) (c c' B : Nat) (l : List UInt8) (gs : List Rl) (w : World) (hl : l.length ≤ 2000) (hg4 : gs.length ≤ 4) (hok : ∀ x ∈ l, lt x = true) (hB : B ≤ w.heap.size)
    (hr : w.ownsRow B 71 3 (.slice A gs.length c) gs.length (rv gs)) (hn : w.ownsRow B 2 1 (.slice A' l.length c') l.length (iv (nsC l))) :
    Calls Try.prog 104 #[.slice A gs.length c, .slice A' l.length c'] w fun e w' => ∃ y, e = .returned y ∧ w'.ownsRow B 71 3 y (gs ++ prsG l gs.length (l.length - 1)).length (rv (gs ++ prsG l gs.length (l.length - 1))) ∧ Below B w w' := by
  obtain ⟨i0, hi, hz0, hz1, hz2⟩ := info_parts Try.info_rule
  obtain ⟨N, hN⟩ : ∃ N, N = gs.length := ⟨_, rfl⟩
  obtain ⟨L, hL⟩ : ∃ L, L = l.length := ⟨_, rfl⟩
  have HST : Hid (ChRel l gs B (.slice A' L c') w (.slice A N c) (.int .i64 1) w) := Lib.hid ⟨0, by omega, rfl, by rw [prsG, List.append_nil, Nat.add_zero, hN]; exact hr, by rw [hL]; exact hn, Below.refl _ _⟩
  have HN := Lib.hid hN
  have HL := Lib.hid hL
  have HOK := Lib.hid hok
  rw [← hN] at hg4 ⊢
  rw [← hL] at hl ⊢
  clear hr hn hN hL hok
  go_enter Try.func104, Try.ntmps104
  go_wp2_with fail
  go_loopw [0, 5, 6] (fun y i _ wr => ChRel l gs B (.slice A' L c') w y i wr) (fun _ i _ _ => L - (intOf i).toNat)
  case atStart => exact HST.out
  case round =>
    obtain ⟨t, ht, rfl, hown, hnr, hbw⟩ := hrel
    obtain ⟨wo, rfl⟩ : ∃ wo : World, wo = wr := ⟨_, rfl⟩
    rw [← HN.out] at hown
    rw [← HL.out] at ht hnr
    obtain ⟨A2, c2, rfl⟩ := own_slice hown
    have hbsz := hbw.size
    by_cases hlt : t + 1 < L
    · obtain ⟨M, rfl, hM1, hM2⟩ := own_addr hnr (by omega)
      have n0 := (hnr.cellAt 0 (by omega)).trans (nsC_at l 0 (by rw [← HL.out]; omega))
      have n1 := (hnr.cellAt (t + 1) (by omega)).trans (nsC_at l (t + 1) (by rw [← HL.out]; omega))
      obtain ⟨BF, hBF⟩ : ∃ BF : Nat, BF = if t = 0 then idxC l (noC (l.getD 0 97)) else N + t - 1 := ⟨_, rfl⟩
      obtain ⟨RG, hRG⟩ : ∃ RG : Nat, RG = idxC l (noC (l.getD (t + 1) 97)) := ⟨_, rfl⟩
      have HPX := Lib.hid (show prsG l N (t + 1) = prsG l N t ++ [pairR BF RG] from by rw [prsG, hBF, hRG])
      rw [← hRG] at n1
      have HPA := Lib.hid (fun W => pairA (BF : Int) (RG : Int) W)
      have HO := Lib.hid hown
      have HNR := Lib.hid hnr
      have HBW := Lib.hid hbw
      by_cases h0 : t = 0
      · rw [if_pos h0] at hBF
        rw [← hBF] at n0
        have h0' : ¬ (1 : Int) < (t : Int) + 1 := by omega
        clear hown hnr hbw hBF hRG h0
        go_wp2_with fail
        refine (HPA.out _).mono ?_
        rintro e w5 ⟨rfl, hB5⟩
        have HO5 := Lib.hid (own_below HO.out hB5 (Nat.le_refl _))
        have HN5 := Lib.hid (own_below HNR.out hB5 (Nat.le_refl _))
        have HB5 := Lib.hid (HBW.out.trans (hB5.mono (Nat.le_trans hB hbsz)))
        have HNW := Lib.hid (news3 w5 (pairR BF RG) 71)
        have hb5 := HB5.out.size
        clear hB5
        go_wp2_with (first | (at_builtin; refine wpList_append_own _ rfl _ _ 28 rfl B 71 i0 (.agg #[.string ⟨#[]⟩, .int .i64 0, .int .i64 0]) 3 32 Try.underlying28 hi hz0 hz1 hz2 rfl (by decide) _ _ _ rfl (World.ownsRow.alloc HO5.out _) ⟨w5.heap.size, 0, none⟩ 1 1 (rc (pairR BF RG)) rfl rfl HNW.out (rc_cell _) (by unfold maxLen; omega) (by omega) (by simp; omega) ?_))
        intro v8 w8 hown' hgrow _
        have HR8 : Hid (ChRel l gs B (.slice (some ⟨M, 0, none⟩) L c') w v8 (.int .i64 ((t : Int) + 1 + 1)) w8) := Lib.hid ⟨t + 1, by rw [← HL.out]; omega, by go_num, by
          rw [← HN.out, HPX.out, ← List.append_assoc, rv_app, rv_one]; exact hown', by
          rw [← HL.out]; exact own_other HN5.out HO5.out (by decide) hgrow, ((HB5.out.alloc (Nat.le_trans hB hb5) _).grown hgrow (by simp; omega) (fun q hq => (HO5.out.lt q hq).1))⟩
        clear hown' hgrow
        go_wp2_with fail
        go_roundw
        case rel => first | exact HR8.out | ((repeat apply Exists.intro); exact ⟨HR8.out, rfl⟩)
        case measure => (first | (simp [intOf]; done) | (simp [intOf]; omega))
      · rw [if_neg h0] at hBF
        have h0' : (1 : Int) < (t : Int) + 1 := by omega
        have HLA : Hid (∀ W, Calls Try.prog 61 #[.slice A2 (N + t) c2] W fun e w' => e = .returned (.int .i64 (BF : Int)) ∧ w' = W) := Lib.hid (fun W => (lastA A2 (N + t) c2 (by omega) W).mono fun e w' h => ⟨h.1.trans (ret_int (by omega)), h.2⟩)
        clear hown hnr hbw hRG hBF
        go_wp2_with fail
        refine (HLA.out _).mono ?_
        rintro e w4 ⟨rfl, rfl⟩
        go_wp2_with fail
        refine (HPA.out _).mono ?_
        rintro e w5 ⟨rfl, hB5⟩
        have HO5 := Lib.hid (own_below HO.out hB5 (Nat.le_refl _))
        have HN5 := Lib.hid (own_below HNR.out hB5 (Nat.le_refl _))
        have HB5 := Lib.hid (HBW.out.trans (hB5.mono (Nat.le_trans hB hbsz)))
        have HNW := Lib.hid (news3 w5 (pairR BF RG) 71)
        have hb5 := HB5.out.size
        clear hB5
        go_wp2_with (first | (at_builtin; refine wpList_append_own _ rfl _ _ 28 rfl B 71 i0 (.agg #[.string ⟨#[]⟩, .int .i64 0, .int .i64 0]) 3 32 Try.underlying28 hi hz0 hz1 hz2 rfl (by decide) _ _ _ rfl (World.ownsRow.alloc HO5.out _) ⟨w5.heap.size, 0, none⟩ 1 1 (rc (pairR BF RG)) rfl rfl HNW.out (rc_cell _) (by unfold maxLen; omega) (by omega) (by simp; omega) ?_))
        intro v8 w8 hown' hgrow _
        have HR8 : Hid (ChRel l gs B (.slice (some ⟨M, 0, none⟩) L c') w v8 (.int .i64 ((t : Int) + 1 + 1)) w8) := Lib.hid ⟨t + 1, by rw [← HL.out]; omega, by go_num, by
          rw [← HN.out, HPX.out, ← List.append_assoc, rv_app, rv_one]; exact hown', by
          rw [← HL.out]; exact own_other HN5.out HO5.out (by decide) hgrow, ((HB5.out.alloc (Nat.le_trans hB hb5) _).grown hgrow (by simp; omega) (fun q hq => (HO5.out.lt q hq).1))⟩
        clear hown' hgrow
        go_wp2_with fail
        go_roundw
        case rel => first | exact HR8.out | ((repeat apply Exists.intro); exact ⟨HR8.out, rfl⟩)
        case measure => (first | (simp [intOf]; done) | (simp [intOf]; omega))
    · have htl : L - 1 = t := by omega
      have HO : Hid (wo.ownsRow B 71 3 (.slice A2 (N + t) c2) (gs ++ prsG l N (L - 1)).length (rv (gs ++ prsG l N (L - 1)))) := Lib.hid (by
        rw [List.length_append, prsG_len, ← HN.out, htl]; exact hown)
      clear htl
      go_wp2_with fail
      go_ret
      exact ⟨_, rfl, HO.out, hbw⟩
end Go.Proofs.Ytlkjceolddccbaa
