/-
  ChG, IsP, GWLen, UsesM, CovI, CovJ, CovK, PartI, PlainM, in one text.
-/
import Derived.Test.YtlgpleeanmeenaaFnExactRunsGrammarK1
import Derived.Test.YtlgpleeanmeenaaFnExactRunsGrammarK3
import Derived.Test.YtlgpleeanmeenaaFnExactRunsGrammarK4
import Derived.Test.YtlgpleeanmeenaaFnExactRunsGrammarK2
import Derived.Test.YtlgpleeanmeenaaBase
import Derived.Test.YtlgpleeanmeenaaGramM
import Derived.Lib.OthersKept
import Derived.StillTailTactics
import Derived.Laws.EntriesVeiled
import Derived.Test.YtlgpleeanmeenaaFnExactRunsGrammarK5
import Derived.Deep.RegionHeld3
namespace Go.Proofs.Ytlgpleeanmeenaa
open Go.RowKit
open Wd
set_option linter.unusedVariables false
/-- what holds between two pairs -/
def CgRel (l : List Int) (gs : List Rl) (B : Nat) (nv : Value) (w : World) (y i : Value) (wr : World) : Prop :=
  ∃ t : Nat, t + 1 ≤ max 1 l.length ∧ i = .int .i64 ((t : Int) + 1) ∧ wr.ownsRow B 146 3 y (gs.length + t) (rv (gs ++ chK gs.length l t)) ∧ wr.ownsRow B 2 1 nv l.length (iv l) ∧ Below B w wr

set_option maxRecDepth 100000 in
set_option maxHeartbeats 6400000 in
theorem chainedG_any (A A' : Option Addr) (c c' B : Nat) (l : List Int) (gs : List Rl) (w : World) (hl : l.length ≤ 2000) (hg4 : gs.length ≤ 400) (hB : B ≤ w.heap.size)
    (hr : w.ownsRow B 146 3 (.slice A gs.length c) gs.length (rv gs)) (hn : w.ownsRow B 2 1 (.slice A' l.length c') l.length (iv l)) :
    Calls Try.prog 136 #[.slice A gs.length c, .slice A' l.length c'] w fun e w' => ∃ y, e = .returned y ∧ w'.ownsRow B 146 3 y (gs ++ chK gs.length l (l.length - 1)).length (rv (gs ++ chK gs.length l (l.length - 1))) ∧ Below B w w' := by
  obtain ⟨i0, hi, hz0, hz1, hz2⟩ := info_parts Try.info_rule
  obtain ⟨N, hN⟩ : ∃ N, N = gs.length := ⟨_, rfl⟩
  obtain ⟨L, hL⟩ : ∃ L, L = l.length := ⟨_, rfl⟩
  have HST : Hid (CgRel l gs B (.slice A' L c') w (.slice A N c) (.int .i64 1) w) := Lib.hid ⟨0, by omega, rfl, by rw [show chK gs.length l 0 = [] from rfl, List.append_nil, Nat.add_zero, hN]; exact hr, by rw [hL]; exact hn, Below.refl _ _⟩
  have HN := Lib.hid hN
  have HL := Lib.hid hL
  rw [← hN] at hg4 ⊢
  rw [← hL] at hl ⊢
  clear hr hn hN hL
  go_enter Try.func136, Try.ntmps136
  go_wp2_with fail
  go_loopw [0, 5, 6] (fun y i _ wr => CgRel l gs B (.slice A' L c') w y i wr) (fun _ i _ _ => L - (intOf i).toNat)
  case atStart => exact HST.out
  case round =>
    obtain ⟨t, ht, rfl, hown, hnr, hbw⟩ := hrel
    obtain ⟨wo, rfl⟩ : ∃ wo : World, wo = wr := ⟨_, rfl⟩
    rw [← HN.out] at hown
    rw [← HL.out] at ht hnr
    obtain ⟨A2, c2, rfl⟩ := own_slice hown
    have hbsz := hbw.size
    by_cases hlt : t + 1 < L
    · obtain ⟨M, rfl, hM1, hM2⟩ := own_addr hnr (by omega)
      have n0 := (hnr.cellAt 0 (by omega)).trans (iv_at (by rw [← HL.out]; omega))
      have n1 := (hnr.cellAt (t + 1) (by omega)).trans (iv_at (by rw [← HL.out]; omega))
      obtain ⟨BF, hBF⟩ : ∃ BF : Int, BF = if t = 0 then l.getD 0 0 else ((N + t : Nat) : Int) - 1 := ⟨_, rfl⟩
      obtain ⟨RG, hRG⟩ : ∃ RG : Int, RG = l.getD (t + 1) 0 := ⟨_, rfl⟩
      have HPX := Lib.hid (show chK N l (t + 1) = chK N l t ++ [⟨⟨#[]⟩, BF, RG⟩] from by rw [chK_succ, hBF, hRG])
      rw [← hRG] at n1
      have HPA := Lib.hid (fun W => pairA BF RG W)
      have HO := Lib.hid hown
      have HNR := Lib.hid hnr
      have HBW := Lib.hid hbw
      by_cases h0 : t = 0
      · rw [if_pos h0] at hBF
        rw [← hBF] at n0
        have h0' : ¬ (1 : Int) < (t : Int) + 1 := by omega
        clear hown hnr hbw hBF hRG h0
        go_wp2_with fail
        refine (HPA.out _).mono ?_
        rintro e w5 ⟨rfl, hB5⟩
        have HO5 := Lib.hid (own_below HO.out hB5 (Nat.le_refl _))
        have HN5 := Lib.hid (own_below HNR.out hB5 (Nat.le_refl _))
        have HB5 := Lib.hid (HBW.out.trans (hB5.mono (Nat.le_trans hB hbsz)))
        have HNW := Lib.hid (news3 w5 (⟨⟨#[]⟩, BF, RG⟩) 146)
        have hb5 := HB5.out.size
        clear hB5
        go_wp2_with (first | (at_builtin; refine wpList_append_own _ rfl _ _ 24 rfl B 146 i0 (.agg #[.string ⟨#[]⟩, .int .i64 0, .int .i64 0]) 3 32 Try.underlying24 hi hz0 hz1 hz2 rfl (by decide) _ _ _ rfl (World.ownsRow.alloc HO5.out _) ⟨w5.heap.size, 0, none⟩ 1 1 (rc (⟨⟨#[]⟩, BF, RG⟩)) rfl rfl HNW.out (rc_cell _) (by unfold maxLen; omega) (by omega) (by simp; omega) ?_))
        intro v8 w8 hown' hgrow _
        have HR8 : Hid (CgRel l gs B (.slice (some ⟨M, 0, none⟩) L c') w v8 (.int .i64 ((t : Int) + 1 + 1)) w8) := Lib.hid ⟨t + 1, by rw [← HL.out]; omega, by go_num, by
          rw [← HN.out, HPX.out, ← List.append_assoc, rv_app, rv_one]; exact hown', by
          rw [← HL.out]; exact own_other HN5.out HO5.out (by decide) hgrow, ((HB5.out.alloc (Nat.le_trans hB hb5) _).grown hgrow (by simp; omega) (fun q hq => (HO5.out.lt q hq).1))⟩
        clear hown' hgrow
        go_wp2_with fail
        go_roundw
        case rel => first | exact HR8.out | ((repeat apply Exists.intro); exact ⟨HR8.out, rfl⟩)
        case measure => (first | (simp [intOf]; done) | (simp [intOf]; omega))
      · rw [if_neg h0] at hBF
        have h0' : (1 : Int) < (t : Int) + 1 := by omega
        have HLA : Hid (∀ W, Calls Try.prog 119 #[.slice A2 (N + t) c2] W fun e w' => e = .returned (.int .i64 BF) ∧ w' = W) := Lib.hid (fun W => (lastA A2 (N + t) c2 (by omega) W).mono fun e w' h => ⟨h.1.trans (ret_int (by omega)), h.2⟩)
        clear hown hnr hbw hRG hBF
        go_wp2_with fail
        refine (HLA.out _).mono ?_
        rintro e w4 ⟨rfl, rfl⟩
        go_wp2_with fail
        refine (HPA.out _).mono ?_
        rintro e w5 ⟨rfl, hB5⟩
        have HO5 := Lib.hid (own_below HO.out hB5 (Nat.le_refl _))
        have HN5 := Lib.hid (own_below HNR.out hB5 (Nat.le_refl _))
        have HB5 := Lib.hid (HBW.out.trans (hB5.mono (Nat.le_trans hB hbsz)))
        have HNW := Lib.hid (news3 w5 (⟨⟨#[]⟩, BF, RG⟩) 146)
        have hb5 := HB5.out.size
        clear hB5
        go_wp2_with (first | (at_builtin; refine wpList_append_own _ rfl _ _ 24 rfl B 146 i0 (.agg #[.string ⟨#[]⟩, .int .i64 0, .int .i64 0]) 3 32 Try.underlying24 hi hz0 hz1 hz2 rfl (by decide) _ _ _ rfl (World.ownsRow.alloc HO5.out _) ⟨w5.heap.size, 0, none⟩ 1 1 (rc (⟨⟨#[]⟩, BF, RG⟩)) rfl rfl HNW.out (rc_cell _) (by unfold maxLen; omega) (by omega) (by simp; omega) ?_))
        intro v8 w8 hown' hgrow _
        have HR8 : Hid (CgRel l gs B (.slice (some ⟨M, 0, none⟩) L c') w v8 (.int .i64 ((t : Int) + 1 + 1)) w8) := Lib.hid ⟨t + 1, by rw [← HL.out]; omega, by go_num, by
          rw [← HN.out, HPX.out, ← List.append_assoc, rv_app, rv_one]; exact hown', by
          rw [← HL.out]; exact own_other HN5.out HO5.out (by decide) hgrow, ((HB5.out.alloc (Nat.le_trans hB hb5) _).grown hgrow (by simp; omega) (fun q hq => (HO5.out.lt q hq).1))⟩
        clear hown' hgrow
        go_wp2_with fail
        go_roundw
        case rel => first | exact HR8.out | ((repeat apply Exists.intro); exact ⟨HR8.out, rfl⟩)
        case measure => (first | (simp [intOf]; done) | (simp [intOf]; omega))
    · have htl : L - 1 = t := by omega
      have HO : Hid (wo.ownsRow B 146 3 (.slice A2 (N + t) c2) (gs ++ chK N l (L - 1)).length (rv (gs ++ chK N l (L - 1)))) := Lib.hid (by
        rw [List.length_append, chK_len, ← HN.out, htl]; exact hown)
      clear htl
      go_wp2_with fail
      go_ret
      exact ⟨_, rfl, HO.out, hbw⟩
end Go.Proofs.Ytlgpleeanmeenaa
namespace Go.Proofs.Ytlgpleeanmeenaa
open Go.RowKit
open Wd
set_option linter.unusedVariables false
namespace Wd
def inPart (i j n : Int) : Bool := decide (0 ≤ i) && (decide (i ≤ j) && decide (j ≤ n))
theorem inPart_iff {i j n : Int} : inPart i j n = true ↔ 0 ≤ i ∧ i ≤ j ∧ j ≤ n := by simp [inPart]
end Wd
theorem isPart_any (i j n : Int) (w : World) :
    Calls Try.prog 133 #[.int .i64 i, .int .i64 j, .int .i64 n] w fun e w' => e = .returned (.bool (inPart i j n)) ∧ w' = w := by
  by_cases h1 : 0 ≤ i
  · by_cases h2 : i ≤ j
    · have hd : inPart i j n = decide (j ≤ n) := by simp [inPart, h1, h2]
      rw [hd]
      have HD := Lib.hid hd
      clear hd
      go_enter Try.func133, Try.ntmps133
      go_wp2
      go_ret
      exact ⟨ret_bool (by first | rfl | simp), rfl⟩
    · have hd : inPart i j n = false := by simp [inPart, h2]
      rw [hd]
      have h2d : decide (i ≤ j) = false := decide_eq_false h2
      clear hd
      go_enter Try.func133, Try.ntmps133
      go_wp2
      go_ret
      exact ⟨rfl, rfl⟩
  · have hd : inPart i j n = false := by simp [inPart, h1]
    rw [hd]
    have h1d : decide (0 ≤ i) = false := decide_eq_false h1
    clear hd
    go_enter Try.func133, Try.ntmps133
    go_wp2
    go_ret
    exact ⟨rfl, rfl⟩
end Go.Proofs.Ytlgpleeanmeenaa
namespace Go.Proofs.Ytlgpleeanmeenaa
open Go.RowKit
open Wd
set_option linter.unusedVariables false

theorem wordLen_bd' {gs : List Rl} (h : gOk gs = true) : 0 ≤ wordLen gs ∧ wordLen gs ≤ 1000000000000000 := by
  by_cases hg : gs.length = 0
  · rw [wordLen_zero hg]; omega
  · have h1 := lens_pos (show gs.length - 1 < gs.length by omega) fun q hq _ => fits_at (gOk_iff.1 h).2.1 q hq
    have h2 := small_at (gOk_iff.1 h).2.2 (gs.length - 1) (by omega)
    unfold wordLen; omega

/-- impl.wordLength of the lengths of all words -/
theorem wordLength_any (x : Value) (gs : List Rl) (B : Nat) (w : World) (hn : gs.length ≤ 1048576) (h : OwnsI w B x (lens gs)) :
    Calls Try.prog 134 #[x] w fun e w' => e = .returned (.int .i64 (wordLen gs)) ∧ w = w' := by
  by_cases h0 : gs.length = 0
  · have hz := wordLen_zero h0
    have hl : (lens gs).length = 0 := by rw [lens_len]; exact h0
    obtain ⟨A, c, rfl⟩ := own_slice h
    rw [hl]
    have HZ := Lib.hid hz
    clear h h0 hz hl
    go_enter Try.func134, Try.ntmps134
    go_wp2
    go_ret
    exact ⟨ret_int HZ.out.symm, rfl⟩
  · obtain ⟨m, hm⟩ : ∃ m, gs.length = m + 1 := ⟨gs.length - 1, by omega⟩
    have hl : (lens gs).length = m + 1 := by rw [lens_len]; exact hm
    rcases h.shape with ⟨_, h'⟩ | ⟨g, cap, rfl, _⟩
    · rw [h'] at hl; simp at hl
    have hc := h.cell m (by omega)
    have hw : wordLen gs = (lens gs)[m] := by
      unfold wordLen
      rw [hm, Nat.add_sub_cancel, List.getD_eq_getElem?_getD, List.getElem?_eq_getElem (by omega), Option.getD_some]
    rw [← hw] at hc
    rw [hl]
    have hm' : m ≤ 1048576 := by omega
    clear h h0 hw hl hm hn
    go_enter Try.func134, Try.ntmps134
    go_wp2
    go_ret
    exact ⟨rfl, rfl⟩

end Go.Proofs.Ytlgpleeanmeenaa
namespace Go.Proofs.Ytlgpleeanmeenaa
open Go.RowKit
open Wd
set_option linter.unusedVariables false

namespace Wd
/-- a sum as int64 has it -/
def add64 (a b : Int) : Int := IntKind.i64.wrap (a + b)
/-- a rule hands its uses on -/
def uStep (x : Rl) (k : Nat) (u : List Int) : List Int :=
  if x.L.size = 0 then
    (u.set x.l.toNat (add64 (u.getD x.l.toNat 0) (u.getD k 0))).set x.r.toNat
      (add64 ((u.set x.l.toNat (add64 (u.getD x.l.toNat 0) (u.getD k 0))).getD x.r.toNat 0) ((u.set x.l.toNat (add64 (u.getD x.l.toNat 0) (u.getD k 0))).getD k 0))
  else u
/-- the uses when the rules from m on have been treated -/
def uAt (gs : List Rl) : Nat → List Int
  | 0 => (List.replicate gs.length 0).set (gs.length - 1) 1
  | i + 1 => if h : gs.length - 1 - i < gs.length then uStep gs[gs.length - 1 - i] (gs.length - 1 - i) (uAt gs i) else uAt gs i
def usesOf (gs : List Rl) : List Int := uAt gs gs.length
theorem uStep_len (x : Rl) (k : Nat) (u : List Int) : (uStep x k u).length = u.length := by unfold uStep; split <;> simp
theorem uAt_len (gs : List Rl) : ∀ i, (uAt gs i).length = gs.length
  | 0 => by simp [uAt]
  | i + 1 => by
    rw [uAt]
    split
    · rw [uStep_len, uAt_len gs i]
    · exact uAt_len gs i
theorem usesOf_len (gs : List Rl) : (usesOf gs).length = gs.length := uAt_len _ _
theorem uAt_next (gs : List Rl) (m : Nat) (h : m < gs.length) : uAt gs (gs.length - m) = uStep gs[m] m (uAt gs (gs.length - (m + 1))) := by
  obtain ⟨i, hi⟩ : ∃ i, gs.length - m = i + 1 := ⟨gs.length - m - 1, by omega⟩
  have h1 : gs.length - 1 - i = m := by omega
  rw [hi, uAt, dif_pos (by omega), show gs.length - (m + 1) = i from by omega]
  simp only [h1]
theorem iv_atU {mem : List Int} {k : Nat} (h : k < mem.length) : (iv mem)[k]? = some (.int .i64 (mem.getD k 0)) := by
  simp only [iv, List.getElem?_map]
  rw [List.getD_eq_getElem?_getD, List.getElem?_eq_getElem h, Option.getD_some, Option.map_some]
end Wd

end Go.Proofs.Ytlgpleeanmeenaa
namespace Go.Proofs.Ytlgpleeanmeenaa
open Go.RowKit
open Wd
set_option linter.unusedVariables false

abbrev takeV (bl bi bj bc br bt : Nat) : Value := .func (.func 186) #[] #[.pointer (some ⟨bl, 0, none⟩), .pointer (some ⟨bi, 0, none⟩), .pointer (some ⟨bj, 0, none⟩), .pointer (some ⟨bc, 0, none⟩), .pointer (some ⟨br, 0, none⟩), .pointer (some ⟨bt, 0, none⟩)]
/-- what the closure has captured -/
structure TSt (B bl bi bj bc br bt : Nat) (i j : Int) (gs : List Rl) (cov : List Int) (w : World) : Prop where
  l : ∃ L c, w.cell? ⟨bl, 0, none⟩ = some (.slice (some ⟨L, 0, none⟩) gs.length c) ∧ L < B ∧ ∀ k, k < gs.length → w.cell? ⟨L, k, none⟩ = some (.int .i64 ((lens gs).getD k 0))
  i : w.cell? ⟨bi, 0, none⟩ = some (.int .i64 i)
  j : w.cell? ⟨bj, 0, none⟩ = some (.int .i64 j)
  r : ∃ v, w.cell? ⟨br, 0, none⟩ = some v ∧ RulesU B w v gs
  t : Var w bt (takeV bl bi bj bc br bt) 237
  c : ∃ yv, Var w bc yv 82 ∧ w.ownsRow B 2 1 yv cov.length (iv cov)
  hl : bl < B
  hi : bi < B
  hj : bj < B
  hr : br < B
  hc : B ≤ bc
  ht : B ≤ bt
  htc : bt ≠ bc
  hs : B ≤ w.heap.size
abbrev Oth64 (b : Nat) (w w' : World) : Prop := Lib.OthersKept 2 (some b) w w'
theorem rulesU_kept' {B : Nat} {w w' : World} {v : Value} {gs : List Rl} (h : RulesU B w v gs) (hb : Below B w w') : RulesU B w' v gs := by
  obtain ⟨A, c, hv, h | ⟨g, hA, hg, hc⟩⟩ := h
  · exact ⟨A, c, hv, .inl h⟩
  · exact ⟨A, c, hv, .inr ⟨g, hA, hg, fun j u hu => by rw [World.cell?_of_block (a := ⟨g, j, none⟩) (hb.block g hg)]; exact hc j u hu⟩⟩
theorem cell_b {B : Nat} {w w' : World} (hb : Below B w w') {x o : Nat} {v : Value} (hx : x < B) (h : w.cell? ⟨x, o, none⟩ = some v) : w'.cell? ⟨x, o, none⟩ = some v := by
  rw [World.cell?_of_block (a := ⟨x, o, none⟩) (hb.block x hx)]; exact h
theorem oth_belowT {e : TypeId} {o : Option Nat} {w w' : World} (hb : Below w.heap.size w w') : Lib.OthersKept e o w w' := fun k x hk _ _ => (hb.block k (Array.getElem?_eq_some_iff.1 hk).1).trans hk
theorem var_set {w : World} {b : Nat} {v : Value} {t : TypeId} (h : Var w b v t) (u : Value) : Var (w.setCell ⟨b, 0, none⟩ u) b u t := by
  unfold Var at h ⊢
  simp [World.setCell, Array.getElem?_modify, h]
/-- new variables and a new cover, the rest being as it was -/
theorem TSt.next {B bl bi bj bc br bt : Nat} {i j : Int} {gs : List Rl} {cov cov' : List Int} {w w' : World} (h : TSt B bl bi bj bc br bt i j gs cov w) (hb : Below B w w')
    (ht : Var w' bt (takeV bl bi bj bc br bt) 237) (hc : ∃ yv, Var w' bc yv 82 ∧ w'.ownsRow B 2 1 yv cov'.length (iv cov')) : TSt B bl bi bj bc br bt i j gs cov' w' := by
  obtain ⟨L, c, h1, h2, h3⟩ := h.l
  obtain ⟨v, r1, r2⟩ := h.r
  exact ⟨⟨L, c, cell_b hb h.hl h1, h2, fun k hk => cell_b hb h2 (h3 k hk)⟩, cell_b hb h.hi h.i, cell_b hb h.hj h.j, ⟨v, cell_b hb h.hr r1, rulesU_kept' r2 hb⟩, ht, hc, h.hl, h.hi, h.hj, h.hr, h.hc, h.ht, h.htc, Nat.le_trans h.hs hb.size⟩
theorem TSt.kept {B bl bi bj bc br bt : Nat} {i j : Int} {gs : List Rl} {cov : List Int} {w w' : World} (h : TSt B bl bi bj bc br bt i j gs cov w) (hb : Below w.heap.size w w') : TSt B bl bi bj bc br bt i j gs cov w' := by
  obtain ⟨yv, c1, c2⟩ := h.c
  exact h.next (hb.mono h.hs) (h.t.kept hb) ⟨yv, c1.kept hb, own_below c2 hb (Nat.le_refl _)⟩
def TkPost (B bl bi bj bc br bt : Nat) (i j : Int) (gs : List Rl) (cov : List Int) (W : World) (e : Ending) (w' : World) : Prop :=
  e = .returned (.tuple #[]) ∧ TSt B bl bi bj bc br bt i j gs cov w' ∧ Below B W w' ∧ Oth64 bc W w'
abbrev TkArgs (bl bi bj bc br bt : Nat) (k : Nat) (s : Int) : Array Value := #[.int .i64 k, .int .i64 s, .pointer (some ⟨bl, 0, none⟩), .pointer (some ⟨bi, 0, none⟩), .pointer (some ⟨bj, 0, none⟩), .pointer (some ⟨bc, 0, none⟩), .pointer (some ⟨br, 0, none⟩), .pointer (some ⟨bt, 0, none⟩)]

set_option maxRecDepth 100000 in
set_option maxHeartbeats 1600000 in
theorem take_out (B bl bi bj bc br bt : Nat) (i j : Int) (gs : List Rl) (cov : List Int) (k : Nat) (s E : Int) (W : World) (hk : k < gs.length) (hn : gs.length ≤ 400) (hE : E = (lens gs).getD k 0) (hE0 : 0 ≤ E ∧ E ≤ 1000000000000000) (hs0 : 0 ≤ s ∧ s ≤ 1000000000000000)
    (h : TSt B bl bi bj bc br bt i j gs cov W) (h1 : s + E ≤ i ∨ j ≤ s) :
    Calls Try.prog 186 (TkArgs bl bi bj bc br bt k s) W (TkPost B bl bi bj bc br bt i j gs cov W) := by
  obtain ⟨L, c, l1, l2, l3⟩ := h.l
  have l4 := l3 k hk
  rw [← hE] at l4
  have ci := h.i
  have cj := h.j
  have HE := Lib.hid (show TkPost B bl bi bj bc br bt i j gs cov W (.returned (.tuple #[])) W from ⟨rfl, h, Below.refl _ _, Lib.OthersKept.refl _ _ _⟩)
  unfold TkArgs
  clear h hE l3
  by_cases h2 : s + E ≤ i
  · clear h1
    go_enter Try.func186, Try.ntmps186
    go_wp2_with fail
    go_end0
    exact HE.out
  · have h3 : j ≤ s := by omega
    have h2d : decide (s + E ≤ i) = false := decide_eq_false h2
    clear h1
    go_enter Try.func186, Try.ntmps186
    go_wp2_with fail
    go_end0
    exact HE.out

set_option maxRecDepth 100000 in
set_option maxHeartbeats 3200000 in
theorem take_in (B bl bi bj bc br bt : Nat) (i j : Int) (gs : List Rl) (cov : List Int) (k : Nat) (s E : Int) (W : World) (hk : k < gs.length) (hn : gs.length ≤ 400) (hE : E = (lens gs).getD k 0) (hE0 : 0 ≤ E ∧ E ≤ 1000000000000000) (hs0 : 0 ≤ s ∧ s ≤ 1000000000000000)
    (h : TSt B bl bi bj bc br bt i j gs cov W) (hl : cov.length ≤ 1048576) (h1 : ¬ (s + E ≤ i ∨ j ≤ s)) (h2 : i ≤ s ∧ s + E ≤ j) :
    Calls Try.prog 186 (TkArgs bl bi bj bc br bt k s) W (TkPost B bl bi bj bc br bt i j gs (cov ++ [(k : Int)]) W) := by
  obtain ⟨i0, hi, hz0, hz1, hz2⟩ := info_parts Try.info_i64
  obtain ⟨L, c, l1, l2, l3⟩ := h.l
  have l4 := l3 k hk
  rw [← hE] at l4
  have ci := h.i
  have cj := h.j
  obtain ⟨yv, c1, c2⟩ := h.c
  obtain ⟨yc, yf⟩ := c1.cell
  have hBs := h.hs
  have HT := Lib.hid h
  have HO := Lib.hid c2
  have HV := Lib.hid c1
  obtain ⟨Ay, cy, rfl⟩ := own_slice c2
  have d1 : decide (s + E ≤ i) = false := decide_eq_false (by omega)
  have d2 : decide (j ≤ s) = false := decide_eq_false (by omega)
  have e1 : i ≤ s := h2.1
  have e2 : s + E ≤ j := h2.2
  unfold TkArgs
  clear h hE l3 c1 c2 h1 h2
  go_enter Try.func186, Try.ntmps186
  go_wp2_with (first | (at_builtin; refine wpList_append_own _ rfl _ _ 82 rfl B 2 i0 (.int .i64 0) 1 8 Try.underlying82 hi hz0 hz1 hz2 rfl (by decide) _ _ _ rfl (World.ownsRow.alloc HO.out _) ⟨W.heap.size, 0, none⟩ 1 1 [.int .i64 (k : Int)] rfl rfl (one_new _ _ _) (one_int _ _) (by unfold maxLen; omega) (by omega) (by simp; omega) ?_))
  intro v' w1 hown hgr _
  obtain ⟨A3, c3, rfl⟩ := own_slice hown
  have hne := own_var_ne HO.out HV.out (by decide)
  have hba : Below W.heap.size W (W.alloc (.cells #[.int .i64 (k : Int)] 2)) := (Below.refl _ W).alloc (Nat.le_refl _) _
  have v1 : Var w1 bc (.slice Ay cov.length cy) 82 := (hgr.block bc (Nat.lt_of_lt_of_le HV.out.lt hba.size) (fun e => hne e.symm)).trans (HV.out.kept hba)
  obtain ⟨x0, x1⟩ := v1.cell
  have hB1 : Below B W w1 := (hba.mono hBs).grown hgr (Nat.le_trans hBs hba.size) (fun q hq => (HO.out.lt q hq).1)
  have ho1 : Oth64 bc W w1 := (oth_belowT hba).grown hgr (fun g hg => by
    rcases HO.out.2 with ⟨hn0, _⟩ | ⟨g', cap, cur, hv, _, hgg, _⟩
    · rw [hn0] at hg; simp [Value.ownBlock] at hg
    · rw [hv] at hg
      have : g' = g := by simpa [Value.ownBlock] using hg
      subst this
      exact ⟨cur, (0, 0), (hba.block _ (Array.getElem?_eq_some_iff.1 hgg).1).trans hgg⟩)
  have vt : Var w1 bt (takeV bl bi bj bc br bt) 237 := (hgr.block bt (Nat.lt_of_lt_of_le HT.out.t.lt hba.size) (fun e => own_var_ne HO.out HT.out.t (by decide) e.symm)).trans (HT.out.t.kept hba)
  have HE : Hid (TkPost B bl bi bj bc br bt i j gs (cov ++ [(k : Int)]) W (.returned (.tuple #[])) (w1.setCell ⟨bc, 0, none⟩ (.slice A3 (cov.length + 1) c3))) := Lib.hid (by
    have hB2 : Below B W (w1.setCell ⟨bc, 0, none⟩ (.slice A3 (cov.length + 1) c3)) := hB1.setCell (p := ⟨bc, 0, none⟩) HT.out.hc _
    have hown' : w1.ownsRow B 2 1 (.slice A3 (cov.length + 1) c3) (cov ++ [(k : Int)]).length (iv (cov ++ [(k : Int)])) := by
      rw [List.length_append, iv_app]; exact hown
    have hne' := own_var_ne hown' v1 (by decide)
    refine ⟨rfl, HT.out.next hB2 (vt.far _ _ HT.out.htc) ⟨_, var_set v1 _, World.ownsRow.kept hown' (only_setCell (World.grownBy.refl w1 (some bc)) (p := ⟨bc, 0, none⟩) (.inl rfl) _) (.inr hne')⟩, hB2, ho1.setCell ⟨bc, 0, none⟩ rfl _⟩)
  clear hown hgr v1 hB1 ho1 vt hba
  go_wp2_with fail
  go_end0
  exact HE.out
end Go.Proofs.Ytlgpleeanmeenaa
namespace Go.Proofs.Ytlgpleeanmeenaa
open Go.RowKit
open Wd
set_option linter.unusedVariables false

set_option maxRecDepth 100000 in
set_option maxHeartbeats 6400000 in
theorem take_cut (B bl bi bj bc br bt : Nat) (i j : Int) (gs : List Rl) (cov cov1 cov2 : List Int) (k x y : Nat) (s E Ex : Int) (W : World) (hk : k < gs.length) (hn : gs.length ≤ 400) (hE : E = (lens gs).getD k 0) (hE0 : 0 ≤ E ∧ E ≤ 1000000000000000) (hs0 : 0 ≤ s ∧ s ≤ 1000000000000000)
    (h0 : gs[k].L.size = 0) (hx : gs[k].l = x) (hy : gs[k].r = y) (hxk : x < k) (hyk : y < k) (hEx : Ex = (lens gs).getD x 0) (hEx0 : 0 ≤ Ex ∧ Ex ≤ 1000000000000000)
    (h : TSt B bl bi bj bc br bt i j gs cov W) (h1 : ¬ (s + E ≤ i ∨ j ≤ s)) (h2 : ¬ (i ≤ s ∧ s + E ≤ j))
    (c1 : ∀ w, TSt B bl bi bj bc br bt i j gs cov w → Calls Try.prog 186 (TkArgs bl bi bj bc br bt x s) w (TkPost B bl bi bj bc br bt i j gs cov1 w))
    (c2 : ∀ w, TSt B bl bi bj bc br bt i j gs cov1 w → Calls Try.prog 186 (TkArgs bl bi bj bc br bt y (s + Ex)) w (TkPost B bl bi bj bc br bt i j gs cov2 w)) :
    Calls Try.prog 186 (TkArgs bl bi bj bc br bt k s) W (TkPost B bl bi bj bc br bt i j gs cov2 W) := by
  obtain ⟨L, c, l1, l2, l3⟩ := h.l
  have l4 := l3 k hk
  rw [← hE] at l4
  have l5 := l3 x (by omega)
  rw [← hEx] at l5
  have ci := h.i
  have cj := h.j
  have hBs := h.hs
  have hbcl : bc < W.heap.size := by obtain ⟨_, v, _⟩ := h.c; exact v.lt
  have ctk := h.t.cell.1
  obtain ⟨v, r1, A, cr, rfl, hr⟩ := h.r
  rcases hr with hr | ⟨g, rfl, hg, hc⟩
  · rw [hr] at hk; simp at hk
  obtain ⟨a0, a1, a2⟩ := rules_cells hc hk
  rw [hx] at a1
  rw [hy] at a2
  have HT := Lib.hid h
  have HC1 := Lib.hid c1
  have HC2 := Lib.hid c2
  have HL1 := Lib.hid l1
  have HL5 := Lib.hid l5
  have d1 : decide (s + E ≤ i) = false := decide_eq_false (by omega)
  have d2 : decide (j ≤ s) = false := decide_eq_false (by omega)
  have he := empty_arr h0
  rw [he] at a0
  have HBA := Lib.hid (fun W' (hb : Below W.heap.size W W') => HT.out.kept hb)
  have hq1 : (0 : Int) ≤ (x : Int) := by omega
  have hq2 : (x : Int) < (gs.length : Int) := by omega
  unfold TkArgs
  have h2' : ¬ i ≤ s ∨ (i ≤ s ∧ ¬ s + E ≤ j) := by
    by_cases h3 : i ≤ s
    · exact .inr ⟨h3, fun h4 => h2 ⟨h3, h4⟩⟩
    · exact .inl h3
  have hb2 : Below W.heap.size W (W.alloc (.cells #[.string ⟨#[]⟩, .int .i64 (x : Int), .int .i64 (y : Int)] 146)) := (Below.refl _ W).alloc (Nat.le_refl _) _
  have HB2 := Lib.hid hb2
  have ct2 := (HT.out.kept hb2).t.cell.1
  have hbt : bt < W.heap.size := HT.out.t.lt
  clear h c1 c2 h0 h1 h2 hE hEx l3 hc hx hy hb2
  rcases h2' with h3 | ⟨h3, h4⟩
  · have d3 : decide (i ≤ s) = false := decide_eq_false h3
    go_enter Try.func186, Try.ntmps186
    go_wp2_with fail
    have HV := Lib.hid (heap_alloc_new W (.cells #[.string ⟨#[]⟩, .int .i64 (x : Int), .int .i64 (y : Int)] 146))
    have HT2 := Lib.hid (HBA.out _ HB2.out)
    obtain ⟨V, hV⟩ : ∃ V, V = W.heap.size := ⟨_, rfl⟩
    rw [← hV] at HV ⊢
    have hVc : some V ≠ some bc := fun e => by have : V = bc := Option.some.inj e; omega
    generalize W.alloc (.cells #[.string ⟨#[]⟩, .int .i64 (x : Int), .int .i64 (y : Int)] 146) = w2 at *
    clear hV
    refine (HC1.out _ HT2.out).mono ?_
    rintro e w3 ⟨rfl, hT3, hB3, hO3⟩
    have hV3 := hO3 V _ HV.out hVc (fun c fz e => by injection e with _ ht; exact absurd ht (by decide))
    obtain ⟨⟨b0, b1, b2⟩, _⟩ := blk3_cells hV3
    have t3 := hT3.t.cell.1
    have hBW3 := (HB2.out.mono hBs).trans hB3
    have l13 := cell_b hBW3 HT.out.hl HL1.out
    have l53 := cell_b hBW3 l2 HL5.out
    have HT3 := Lib.hid hT3
    have HB3 := Lib.hid hBW3
    have HO3 := Lib.hid ((oth_belowT HB2.out : Oth64 bc W w2).trans hO3)
    clear hT3 hB3 hO3 hV3 hBW3
    go_wp2_with fail
    go_still_tail 10, (by kernel_rfl)
    change wpList _ _ _ _ _ w3.drew
    have hT3d : TSt B bl bi bj bc br bt i j gs cov1 w3.drew := HT3.out.kept (Below.refl _ w3).drew
    have HT3D := Lib.hid hT3d
    clear hT3d
    go_wp2_with fail
    refine (HC2.out _ HT3D.out).mono ?_
    rintro e w4 ⟨rfl, hT4, hB4, hO4⟩
    have HE : Hid (TkPost B bl bi bj bc br bt i j gs cov2 W (.returned (.tuple #[])) w4) := Lib.hid ⟨rfl, hT4, HB3.out.trans ((Below.refl B w3).drew.trans hB4), HO3.out.trans ((Lib.OthersKept.refl _ _ w3).drew.trans hO4)⟩
    clear hT4 hB4 hO4
    go_wp2_with fail
    go_end0
    exact HE.out
  · have d3 : decide (s + E ≤ j) = false := decide_eq_false h4
    go_enter Try.func186, Try.ntmps186
    go_wp2_with fail
    have HV := Lib.hid (heap_alloc_new W (.cells #[.string ⟨#[]⟩, .int .i64 (x : Int), .int .i64 (y : Int)] 146))
    have HT2 := Lib.hid (HBA.out _ HB2.out)
    obtain ⟨V, hV⟩ : ∃ V, V = W.heap.size := ⟨_, rfl⟩
    rw [← hV] at HV ⊢
    have hVc : some V ≠ some bc := fun e => by have : V = bc := Option.some.inj e; omega
    generalize W.alloc (.cells #[.string ⟨#[]⟩, .int .i64 (x : Int), .int .i64 (y : Int)] 146) = w2 at *
    clear hV
    refine (HC1.out _ HT2.out).mono ?_
    rintro e w3 ⟨rfl, hT3, hB3, hO3⟩
    have hV3 := hO3 V _ HV.out hVc (fun c fz e => by injection e with _ ht; exact absurd ht (by decide))
    obtain ⟨⟨b0, b1, b2⟩, _⟩ := blk3_cells hV3
    have t3 := hT3.t.cell.1
    have hBW3 := (HB2.out.mono hBs).trans hB3
    have l13 := cell_b hBW3 HT.out.hl HL1.out
    have l53 := cell_b hBW3 l2 HL5.out
    have HT3 := Lib.hid hT3
    have HB3 := Lib.hid hBW3
    have HO3 := Lib.hid ((oth_belowT HB2.out : Oth64 bc W w2).trans hO3)
    clear hT3 hB3 hO3 hV3 hBW3
    go_wp2_with fail
    go_still_tail 10, (by kernel_rfl)
    change wpList _ _ _ _ _ w3.drew
    have hT3d : TSt B bl bi bj bc br bt i j gs cov1 w3.drew := HT3.out.kept (Below.refl _ w3).drew
    have HT3D := Lib.hid hT3d
    clear hT3d
    go_wp2_with fail
    refine (HC2.out _ HT3D.out).mono ?_
    rintro e w4 ⟨rfl, hT4, hB4, hO4⟩
    have HE : Hid (TkPost B bl bi bj bc br bt i j gs cov2 W (.returned (.tuple #[])) w4) := Lib.hid ⟨rfl, hT4, HB3.out.trans ((Below.refl B w3).drew.trans hB4), HO3.out.trans ((Lib.OthersKept.refl _ _ w3).drew.trans hO4)⟩
    clear hT4 hB4 hO4
    go_wp2_with fail
    go_end0
    exact HE.out

theorem take_any (B bl bi bj bc br bt : Nat) (i j : Int) (gs : List Rl) (hok : gOk gs = true) : ∀ m k, k < m → k < gs.length → ∀ (s : Int) (cov : List Int) (W : World), 0 ≤ s → s + (lens gs).getD k 0 ≤ 1000000000000000 → (cov.length : Int) + ((coverF gs i j m k s).length : Int) ≤ 1048576 → TSt B bl bi bj bc br bt i j gs cov W →
    Calls Try.prog 186 (TkArgs bl bi bj bc br bt k s) W (TkPost B bl bi bj bc br bt i j gs (cov ++ coverF gs i j m k s) W)
  | 0, k, hm, _, _, _, _, _, _, _, _ => by omega
  | m + 1, k, hm, hk, s, cov, W, hs0, hs1, hl, h => by
    have hn := gOk_len hok
    have hp := lens_pos hk fun q hq _ => fits_at (gOk_iff.1 hok).2.1 q hq
    by_cases h1 : s + (lens gs).getD k 0 ≤ i ∨ j ≤ s
    · rw [cover_out h1, List.append_nil]
      exact take_out B bl bi bj bc br bt i j gs cov k s _ W hk hn rfl (by omega) (by omega) h h1
    · by_cases h2 : i ≤ s ∧ s + (lens gs).getD k 0 ≤ j
      · rw [cover_in h1 h2]
        exact take_in B bl bi bj bc br bt i j gs cov k s _ W hk hn rfl (by omega) (by omega) h (by omega) h1 h2
      · have h0 := cut_pair hok hk h1 h2
        obtain ⟨x, y, hx, hy, hxk, hyk, hsum, p1, p2, p3, p4⟩ := pair_parts hok hk h0
        rw [cover_pair hk hx hy h1 h2, List.length_append] at hl
        rw [cover_pair hk hx hy h1 h2, ← List.append_assoc]
        refine take_cut B bl bi bj bc br bt i j gs cov _ _ k x y s _ _ W hk hn rfl (by omega) (by omega) h0 hx hy hxk hyk rfl (by omega) h h1 h2
          (fun w hw => take_any B bl bi bj bc br bt i j gs hok m x (by omega) (by omega) s cov w hs0 (by omega) (by omega) hw)
          (fun w hw => take_any B bl bi bj bc br bt i j gs hok m y (by omega) (by omega) _ _ w (by omega) (by omega) (by rw [List.length_append]; omega) hw)
end Go.Proofs.Ytlgpleeanmeenaa
namespace Go.Proofs.Ytlgpleeanmeenaa
open Go.RowKit
open Wd
set_option linter.unusedVariables false

theorem nest_get {w : World} {o x : Obj} {k : Nat} (h : w.heap[k]? = some x) : (w.alloc o).heap[k]? = some x := (Below.heap_alloc w o k (Array.getElem?_eq_some_iff.1 h).1).trans h
theorem nest_new (w : World) (o : Obj) (k : Nat) (hk : k = w.heap.size) : (w.alloc o).heap[k]? = some o := by subst hk; exact heap_alloc_new w o
theorem cell_of_var {w : World} {b : Nat} {v : Value} {t : TypeId} (h : w.heap[b]? = some (.cells #[v] t (0, 0))) : w.cell? ⟨b, 0, none⟩ = some v := by rw [cell_of_row _ _ _ _ _ _ h]; rfl
/-- the variables, as they are made -/
def covW (w : World) (v lv : Value) (i j : Int) : World :=
  ((((((w.alloc (.cells #[v] 24)).alloc (.cells #[lv] 82)).alloc (.cells #[.int .i64 i] 2)).alloc (.cells #[.int .i64 j] 2)).alloc (.cells #[] 2)).alloc (.cells #[.slice (some ⟨w.heap.size + 4, 0, none⟩) 0 0] 82)).alloc (.cells #[takeV (w.heap.size + 1) (w.heap.size + 2) (w.heap.size + 3) (w.heap.size + 5) w.heap.size (w.heap.size + 6)] 237)
theorem covW_below (w : World) (v lv : Value) (i j : Int) : Below w.heap.size w (covW w v lv i j) ∧ (covW w v lv i j).heap.size = w.heap.size + 7 := by
  unfold covW
  refine ⟨?_, by simp⟩
  repeat (refine Below.alloc ?_ (by simp; try omega) _)
  exact Below.refl _ _
theorem tst_start {w : World} {v lv : Value} {gs : List Rl} {i j : Int} {L c : Nat} (hr : Rules w v gs) (hlv : lv = .slice (some ⟨L, 0, none⟩) gs.length c) (hL : L < w.heap.size) (hl : ∀ k, k < gs.length → w.cell? ⟨L, k, none⟩ = some (.int .i64 ((lens gs).getD k 0))) :
    TSt (w.heap.size + 4) (w.heap.size + 1) (w.heap.size + 2) (w.heap.size + 3) (w.heap.size + 5) w.heap.size (w.heap.size + 6) i j gs [] (covW w v lv i j) := by
  obtain ⟨hb, hsz⟩ := covW_below w v lv i j
  have hru := (hr.under hb)
  have hl' : ∀ k, k < gs.length → (covW w v lv i j).cell? ⟨L, k, none⟩ = some (.int .i64 ((lens gs).getD k 0)) := fun k hk => (hb.cell (p := ⟨L, k, none⟩) hL).trans (hl k hk)
  have x0 : (covW w v lv i j).heap[w.heap.size]? = some (.cells #[v] 24 (0, 0)) := by
    unfold covW; exact nest_get (nest_get (nest_get (nest_get (nest_get (nest_get (nest_new _ _ _ (by simp)))))))
  have x1 : (covW w v lv i j).heap[w.heap.size + 1]? = some (.cells #[lv] 82 (0, 0)) := by
    unfold covW; exact nest_get (nest_get (nest_get (nest_get (nest_get (nest_new _ _ _ (by simp))))))
  have x2 : (covW w v lv i j).heap[w.heap.size + 2]? = some (.cells #[.int .i64 i] 2 (0, 0)) := by
    unfold covW; exact nest_get (nest_get (nest_get (nest_get (nest_new _ _ _ (by simp)))))
  have x3 : (covW w v lv i j).heap[w.heap.size + 3]? = some (.cells #[.int .i64 j] 2 (0, 0)) := by
    unfold covW; exact nest_get (nest_get (nest_get (nest_new _ _ _ (by simp))))
  have x4 : (covW w v lv i j).heap[w.heap.size + 4]? = some (.cells #[] 2 (0, 0)) := by
    unfold covW; exact nest_get (nest_get (nest_new _ _ _ (by simp)))
  have x5 : (covW w v lv i j).heap[w.heap.size + 5]? = some (.cells #[.slice (some ⟨w.heap.size + 4, 0, none⟩) 0 0] 82 (0, 0)) := by
    unfold covW; exact nest_get (nest_new _ _ _ (by simp))
  have x6 : (covW w v lv i j).heap[w.heap.size + 6]? = some (.cells #[takeV (w.heap.size + 1) (w.heap.size + 2) (w.heap.size + 3) (w.heap.size + 5) w.heap.size (w.heap.size + 6)] 237 (0, 0)) := by
    unfold covW; exact nest_new _ _ _ (by simp)
  generalize covW w v lv i j = W at *
  obtain ⟨A, cc, e1, h9⟩ := hru
  refine ⟨⟨L, c, by rw [← hlv]; exact cell_of_var x1, by omega, hl'⟩, cell_of_var x2, cell_of_var x3, ⟨v, cell_of_var x0, A, cc, e1, ?_⟩, x6, ⟨_, x5, ⟨rfl, .inr ⟨w.heap.size + 4, 0, #[], rfl, Nat.le_refl _, x4, Nat.le_refl _, by unfold maxLen; omega, rfl, rfl⟩⟩⟩, by omega, by omega, by omega, by omega, by omega, by omega, by omega, by omega⟩
  rcases h9 with h9 | ⟨g, hA, hg, hc⟩
  · exact .inl h9
  · exact .inr ⟨g, hA, by omega, hc⟩

set_option maxRecDepth 100000 in
set_option maxHeartbeats 3200000 in
theorem coverOf_any (v lv : Value) (gs : List Rl) (i j : Int) (L c : Nat) (w : World) (hok : gOk gs = true) (hg : 0 < gs.length) (hr : Rules w v gs) (hlv : lv = .slice (some ⟨L, 0, none⟩) gs.length c) (hL : L < w.heap.size) (hl : ∀ k, k < gs.length → w.cell? ⟨L, k, none⟩ = some (.int .i64 ((lens gs).getD k 0)))
    (hfew : (coverF gs i j gs.length (gs.length - 1) 0).length ≤ 1048576) :
    Calls Try.prog 135 #[v, lv, .int .i64 i, .int .i64 j] w fun e w' => ∃ y, e = .returned y ∧ OwnsI w' w.heap.size y (coverF gs i j gs.length (gs.length - 1) 0) ∧ Below w.heap.size w w' := by
  have hn := gOk_len hok
  have hB := covW_below w v lv i j
  have hsm := (gOk_iff.1 hok).2.2
  have hc7 : (covW w v lv i j).cell? ⟨w.heap.size, 0, none⟩ = some v := by
    refine cell_of_var (t := 24) ?_
    unfold covW; exact nest_get (nest_get (nest_get (nest_get (nest_get (nest_get (nest_new _ _ _ (by simp)))))))
  have hT := tst_start (i := i) (j := j) hr hlv hL hl
  obtain ⟨m, hm⟩ : ∃ m, gs.length - 1 = m := ⟨_, rfl⟩
  rw [hm] at hfew ⊢
  have HTA := Lib.hid (fun W hW => take_any (w.heap.size + 4) (w.heap.size + 1) (w.heap.size + 2) (w.heap.size + 3) (w.heap.size + 5) w.heap.size (w.heap.size + 6) i j gs hok gs.length m (by omega) (by omega) 0 [] W (by omega) (by have := small_at hsm m (by omega); omega) (by rw [List.length_nil]; omega) hW)
  obtain ⟨A, cr, rfl, _⟩ := hr
  subst hlv
  have HLA : Hid (∀ W, Calls Try.prog 119 #[.slice A gs.length cr] W fun e w' => e = .returned (.int .i64 (m : Int)) ∧ w' = W) := Lib.hid (fun W => (lastA A gs.length cr (by omega) W).mono fun e w' h => ⟨h.1.trans (ret_int (by omega)), h.2⟩)
  have HB := Lib.hid hB
  have HT := Lib.hid hT
  have HC := Lib.hid hc7
  clear hl hsm hok hB hT hc7 hm
  go_enter Try.func135, Try.ntmps135
  go_wp2_with fail
  change Code.wp _ _ _ _ (covW w (.slice A gs.length cr) (.slice (some ⟨L, 0, none⟩) gs.length c) i j)
  generalize covW w (.slice A gs.length cr) (.slice (some ⟨L, 0, none⟩) gs.length c) i j = W7 at HT HB HC ⊢
  have t7 : W7.cell? ⟨w.heap.size + 1 + 1 + 1 + 1 + 1 + 1, 0, none⟩ = some (takeV (w.heap.size + 1) (w.heap.size + 1 + 1) (w.heap.size + 1 + 1 + 1) (w.heap.size + 1 + 1 + 1 + 1 + 1) w.heap.size (w.heap.size + 1 + 1 + 1 + 1 + 1 + 1)) := HT.out.t.cell.1
  have r7 := HC.out
  refine wp_region_still_tail 3 (by kernel_rfl) (by kernel_rfl) ?_
  simp only [List.take_succ_cons, List.take_zero, List.drop_succ_cons, List.drop_zero]
  still_step
  still_step
  still_call (HLA.out _)
  refine wpStill_nil ?_
  change wpList _ _ _ _ _ W7.drew
  have HT2 : Hid (TSt (w.heap.size + 4) (w.heap.size + 1) (w.heap.size + 2) (w.heap.size + 3) (w.heap.size + 5) w.heap.size (w.heap.size + 6) i j gs [] W7.drew) := Lib.hid (HT.out.kept (Below.refl _ W7).drew)
  have HB2 := Lib.hid HB.out.1.drew
  clear t7 r7
  go_wp2_with fail
  refine (HTA.out _ HT2.out).mono ?_
  rintro e w8 ⟨rfl, hT8, hB8, _⟩
  obtain ⟨yv, y1, y2⟩ := hT8.c
  obtain ⟨Ay, cy, rfl⟩ := own_slice y2
  have HO := Lib.hid y2
  have HB8 := Lib.hid (HB2.out.trans (hB8.mono (by omega)))
  have y8 : w8.cell? ⟨w.heap.size + 1 + 1 + 1 + 1 + 1, 0, none⟩ = _ := y1.cell.1
  clear hT8 y1 y2 hB8
  go_wp2_with fail
  go_ret
  exact ⟨_, rfl, own_lower HO.out (by omega), HB8.out⟩
end Go.Proofs.Ytlgpleeanmeenaa
namespace Go.Proofs.Ytlgpleeanmeenaa
open Go.RowKit
open Wd
set_option linter.unusedVariables false
namespace Wd
/-- the answer of PartGrammar -/
def gramPartGrammar (gs : List Rl) (i j : Int) : List Rl × Int :=
  if gOk gs = true then (if inPart i j (wordLen gs) = true then (limG (trimG (cutG gs i j)), limC (trimG (cutG gs i j))) else ([], 2)) else ([], 1)
theorem limG_le (gs : List Rl) : (limG gs).length ≤ gs.length := by
  unfold limG
  split
  · exact Nat.le_refl _
  · simp
theorem gramPartGrammar_len (gs : List Rl) (i j : Int) (hf : FewR gs) : (gramPartGrammar gs i j).1.length ≤ 1048576 := by
  unfold gramPartGrammar
  split
  · next hok =>
    split
    · have h1 := limG_le (trimG (cutG gs i j))
      have h2 := trimG_le (cutG gs i j)
      have h3 : (cutG gs i j).length ≤ 1300 := by
        rcases Nat.eq_zero_or_pos gs.length with h0 | h0
        · have : gs = [] := List.eq_nil_of_length_eq_zero h0
          subst this
          unfold cutG covA
          split
          · simp
          · simp [coverF, chK]
        · exact cut_len hok h0 i j
      simp only
      omega
    · simp
  · simp
theorem few_cut {gs : List Rl} (hok : gOk gs = true) (hg : 0 < gs.length) (i j : Int) : FewR (trimG (cutG gs i j)) := by
  have h1 := trim_sum (cut_fits hok hg i j)
  have h2 := trimG_le (cutG gs i j)
  have h3 := cut_len hok hg i j
  unfold FewR
  omega
theorem lim_nil : limG [] = [] ∧ limC [] = 0 := by
  unfold limG limC
  rw [gOk_nil]
  exact ⟨rfl, rfl⟩
theorem limV_shape (gs : List Rl) (A : Option Addr) (n c : Nat) : ∃ A' n' c', limV gs (.slice A n c) = .slice A' n' c' := by
  unfold limV
  split
  · exact ⟨_, _, _, rfl⟩
  · exact ⟨_, _, _, rfl⟩
end Wd
set_option maxRecDepth 100000 in
set_option maxHeartbeats 6400000 in
theorem implPartGrammar (v : Value) (gs : List Rl) (i j : Int) (w : World) (hf : FewR gs) (hrc : RulesC w v gs) (b1 : -9223372036854775808 ≤ i ∧ i ≤ 9223372036854775807) (b2 : -9223372036854775808 ≤ j ∧ j ≤ 9223372036854775807) :
    Calls Try.prog 72 #[.agg #[v], .int .i64 i, .int .i64 j] w fun e w' => ∃ y, e = .returned (.tuple #[.agg #[y], .int .i64 (gramPartGrammar gs i j).2]) ∧ OwnsR w' w.heap.size y (gramPartGrammar gs i j).1 ∧ Below w.heap.size w w' := by
  have hb : Below w.heap.size w ((w.alloc (.cells #[v] 26)).alloc (.cells #[.slice none 0 0] 26)) := ((Below.refl _ w).alloc (Nat.le_refl _) _).alloc (by simp) _
  have hv0 : Var ((w.alloc (.cells #[v] 26)).alloc (.cells #[.slice none 0 0] 26)) w.heap.size v 26 := (Var.new w v 26).kept ((Below.refl _ _).alloc (Nat.le_refl _) _)
  have hv : Var ((w.alloc (.cells #[v] 26)).alloc (.cells #[.slice none 0 0] 26)) (w.heap.size + 1) (.slice none 0 0) 26 := by
    have := Var.new (w.alloc (.cells #[v] 26)) (.slice none 0 0) 26
    rwa [show (w.alloc (.cells #[v] 26)).heap.size = w.heap.size + 1 from by simp] at this
  obtain ⟨hr, hcap⟩ := hrc
  have h1 := len.vlen_any v gs _ hf (hr.kept hb)
  unfold LensPost at h1
  have HR := Lib.hid hr
  obtain ⟨A, c, rfl, _⟩ := hr
  replace hcap := hcap _ _ _ rfl
  have HB := Lib.hid hb
  have HV := Lib.hid hv
  have HV0 := Lib.hid hv0
  have hn := hf.len
  unfold gramPartGrammar
  cases hok : gOk gs
  · rw [hok] at h1
    have H1 := Lib.hid h1
    rw [if_neg (by decide)]
    clear h1 hok hb hv hv0
    go_enter Try.func72, Try.ntmps72
    go_wp2_with fail
    refine H1.out.mono ?_
    rintro e w1 ⟨x, rfl, _, hB1⟩
    have HB1 := Lib.hid (HB.out.trans (hB1.mono (by simp; omega)))
    obtain ⟨vc, vf⟩ := (HV.out.kept hB1).cell
    clear hB1
    go_wp2_with fail
    refine bodyPost_ret (v := .tuple #[.agg #[.slice none 0 0], .int .i64 1]) (by simp [results, Try.results72, go_sem, vc]) rfl ⟨_, rfl, World.ownsRow_nil _ _ _ _, HB1.out.setCell (by simp) _⟩
  · rw [hok] at h1
    have H1 := Lib.hid h1
    rw [if_pos rfl]
    have HIP := Lib.hid (fun W => isPart_any i j (wordLen gs) W)
    have hwl := wordLen_bd' hok
    cases hp : inPart i j (wordLen gs)
    · rw [hp] at HIP
      rw [if_neg (by decide)]
      clear h1 hok hb hv hv0 hp
      go_enter Try.func72, Try.ntmps72
      go_wp2_with fail
      refine H1.out.mono ?_
      rintro e w1 ⟨x, rfl, ho, hB1⟩
      have HB1 := Lib.hid (HB.out.trans (hB1.mono (by simp; omega)))
      obtain ⟨vc, vf⟩ := (HV.out.kept hB1).cell
      have HO := Lib.hid (ho trivial)
      clear hB1 ho
      go_wp2_with fail
      refine (wordLength_any x gs _ w1 hn HO.out).mono ?_
      rintro e w2 ⟨rfl, rfl⟩
      go_wp2_with fail
      refine (HIP.out _).mono ?_
      rintro e w2 ⟨rfl, rfl⟩
      go_wp2_with fail
      refine bodyPost_ret (v := .tuple #[.agg #[.slice none 0 0], .int .i64 2]) (by simp [results, Try.results72, go_sem, vc]) rfl ⟨_, rfl, World.ownsRow_nil _ _ _ _, HB1.out.setCell (by simp) _⟩
    · rw [hp] at HIP
      rw [if_pos rfl]
      obtain ⟨p1, p2, p3⟩ := inPart_iff.1 hp
      by_cases hij : i = j
      · have he : cutG gs i j = [] := by unfold cutG; rw [if_pos hij]
        rw [he, trim_nil, lim_nil.1, lim_nil.2]
        have hij' : (i == j) = true := by rw [beq_iff_eq]; exact hij
        clear h1 hok hb hv hv0 hp he hij
        go_enter Try.func72, Try.ntmps72
        go_wp2_with fail
        refine H1.out.mono ?_
        rintro e w1 ⟨x, rfl, ho, hB1⟩
        have HB1 := Lib.hid (HB.out.trans (hB1.mono (by simp; omega)))
        obtain ⟨vc, vf⟩ := (HV.out.kept hB1).cell
        have HO := Lib.hid (ho trivial)
        clear hB1 ho
        go_wp2_with fail
        refine (wordLength_any x gs _ w1 hn HO.out).mono ?_
        rintro e w2 ⟨rfl, rfl⟩
        go_wp2_with fail
        refine (HIP.out _).mono ?_
        rintro e w2 ⟨rfl, rfl⟩
        go_wp2_with fail
        refine bodyPost_ret (v := .tuple #[.agg #[.slice none 0 0], .int .i64 0]) (by simp [results, Try.results72, go_sem, vc]) rfl ⟨_, rfl, World.ownsRow_nil _ _ _ _, HB1.out.setCell (by simp) _⟩
      · have hg0 : 0 < gs.length := by
          rcases Nat.eq_zero_or_pos gs.length with h | h
          · rw [wordLen_zero h] at p3; omega
          · exact h
        have hn400 := gOk_len hok
        have hij' : (i == j) = false := by rw [beq_eq_false_iff_ne]; exact hij
        have hfew := covA_few hok hg0 i j
        have hbd := cover_bd hok i j gs.length (gs.length - 1) 0 (by omega) (by omega)
        have hlt := covA_lt hok hg0 i j
        have HCO := Lib.hid (fun v lv L c W h1 h2 h3 h4 => coverOf_any v lv gs i j L c W hok hg0 h1 h2 h3 h4 hfew)
        have hfit := cut_fits hok hg0 i j
        have hfc := few_cut hok hg0 i j
        have hcl := cut_len hok hg0 i j
        have HT := Lib.hid (fun v W (h : Rules W v (cutG gs i j)) => trimmed_any v (cutG gs i j) W (by omega) hfit h)
        have HLM := Lib.hid (fun v W (h : Rules W v (trimG (cutG gs i j))) => limited_any v (trimG (cutG gs i j)) W hfc h)
        by_cases h1c : (covA gs i j).length = 1
        · have hce : cutG gs i j = gs.take (((covA gs i j).headD 0).toNat + 1) := by unfold cutG; rw [if_neg hij, if_pos h1c]
          rw [hce] at HT HLM ⊢
          obtain ⟨q, hq, hcq⟩ : ∃ q : Nat, q < gs.length ∧ covA gs i j = [(q : Int)] := by
            match hcv : covA gs i j, h1c with
            | [x], _ =>
              have := hlt x (by rw [hcv]; simp)
              exact ⟨x.toNat, by omega, by rw [show ((x.toNat : Nat) : Int) = x from by omega]⟩
          have hcov : coverF gs i j gs.length (gs.length - 1) 0 = [(q : Int)] := hcq
          rw [hcov] at HCO
          rw [hcq] at HT HLM ⊢
          rw [show (([(q : Int)] : List Int).headD 0).toNat = q from by simp] at HT HLM ⊢
          obtain ⟨ga, rfl⟩ := rules_addr HR.out hg0
          have HRT := Lib.hid (fun W (h : Rules W (.slice (some ⟨ga, 0, none⟩) gs.length c) gs) c' => rules_take h hq c')
          have t3 : (q : Int) + 1 ≤ (c : Int) := by omega
          have t4 : (0 : Int) ≤ (q : Int) + 1 := by omega
          have t5 : ((q : Int) + 1).toNat = q + 1 := by omega
          generalize trimG (gs.take (q + 1)) = ts at *
          clear h1 hok hb hv hv0 hp hij hfew hbd hlt hfit hfc hcl h1c hce hcq hcov
          go_enter Try.func72, Try.ntmps72
          go_wp2_with fail
          refine H1.out.mono ?_
          rintro e w1 ⟨x, rfl, ho, hB1⟩
          have HB1 := Lib.hid (HB.out.trans (hB1.mono (by simp; omega)))
          have HV1 := Lib.hid (HV.out.kept hB1)
          have HV01 := Lib.hid (HV0.out.kept hB1)
          have HO := Lib.hid (ho trivial)
          clear hB1 ho
          go_wp2_with fail
          refine (wordLength_any x gs _ w1 hn HO.out).mono ?_
          rintro e w2 ⟨rfl, rfl⟩
          go_wp2_with fail
          refine (HIP.out _).mono ?_
          rintro e w2 ⟨rfl, rfl⟩
          have ho1 := HO.out
          unfold OwnsI at ho1
          rw [lens_len] at ho1
          obtain ⟨Ax, cx, rfl⟩ := own_slice ho1
          obtain ⟨L, rfl, _, hL⟩ := own_addr ho1 hg0
          have HLC : Hid (∀ k, k < gs.length → w2.cell? ⟨L, k, none⟩ = some (.int .i64 ((lens gs).getD k 0))) := Lib.hid (fun k hk => by rw [ho1.cellAt k (by omega)]; exact iv_at (by rw [lens_len]; exact hk))
          have z0 := HV01.out.cell.1
          clear ho1
          go_wp2_with fail
          refine (HCO.out _ _ L cx _ (HR.out.kept HB1.out) rfl hL HLC.out).mono ?_
          rintro e w4 ⟨y, rfl, hy, hB4⟩
          have HB4 := Lib.hid (HB1.out.trans (hB4.mono HB1.out.size))
          have HV4 := Lib.hid (HV1.out.kept hB4)
          have z4 := (HV01.out.kept hB4).cell.1
          obtain ⟨Ay, cy, rfl⟩ := own_slice hy
          obtain ⟨Y, rfl, hYl, hY⟩ := own_addr hy (by simp)
          have HYN : Hid (Y ≠ w.heap.size + 1) := Lib.hid (by have := HV1.out.lt; omega)
          have y0 : w4.cell? ⟨Y, 0, none⟩ = some (.int .i64 (q : Int)) := by rw [hy.cellAt 0 (by simp)]; rfl
          have t1 : IntKind.i64.wrap ((q : Int) + 1) = (q : Int) + 1 := by rw [IntWalk.i64_in _ (by omega)]
          have HV04 := Lib.hid (HV01.out.kept hB4)
          have HT4 := Lib.hid (fun m => HT.out _ (w4.drewN m) (HRT.out _ ((HR.out.kept HB4.out).kept (below_drewN (Below.refl _ w4) m)) c))
          have HX4 := Lib.hid (fun W (h : Below w4.heap.size w4 W) => And.intro ((HV04.out.kept h).cell.1) ((h.cell (p := ⟨Y, 0, none⟩) (lt_of_cell y0)).trans y0))
          clear hB4 z0 hy hL hYl
          go_wp2_with fail
          go_region_held3 (fun w' => w'.cell? ⟨w.heap.size, 0, none⟩ = some (.slice (some ⟨ga, 0, none⟩) gs.length c) ∧ w'.cell? ⟨Y, 0, none⟩ = some (.int .i64 (q : Int))) (first | exact HS7.out _ | exact HS6.out | exact HS5.out | go_keep)
            (first
              | (go_at_call 118; refine (HT4.out _).mono ?_; rintro e w5 ⟨y5, rfl, ho5, hB5⟩; have HB5 := Lib.hid (below_undrew hB5); have HO5 := Lib.hid ho5; have HS5 := Lib.hid (HX4.out _ HB5.out); clear ho5 hB5)
              | (go_at_call 81; refine (HLM.out _ _ (Rules.of_own HO5.out)).mono ?_; rintro e w6 ⟨rfl, hB6⟩; have HB6 := Lib.hid hB6; have HS6 := Lib.hid (HX4.out _ (HB5.out.trans (HB6.out.mono HB5.out.size))); have HS7 := Lib.hid (fun u => And.intro ((cell_far0 (w := w6) (a := w.heap.size) (b := w.heap.size + 1) (i := 0) (j := 0) (by omega) u).trans HS6.out.1) ((cell_far0 (w := w6) (a := Y) (b := w.heap.size + 1) (i := 0) (j := 0) HYN.out u).trans HS6.out.2)); have HLO := Lib.hid (lim_own (own_below HO5.out hB6 (Nat.le_refl _))); obtain ⟨Al, cl, hl⟩ := own_slice HLO.out; rw [hl] at HLO ⊢; obtain ⟨x0, x1⟩ := ((HV4.out.kept HB5.out).kept HB6.out).cell; clear hB6 hl))
          have hs4 := HV4.out.lt
          have HNE : Hid ((Value.slice Al (limG ts).length cl).ownBlock ≠ some (w.heap.size + 1)) := Lib.hid (fun e => by have h7 := (HLO.out.lt _ e).1; have h8 : (w4.drewN 1).heap.size = w4.heap.size := rfl; omega)
          have HLO2 := Lib.hid (own_lower HLO.out (show w.heap.size ≤ w4.heap.size by omega))
          have HBE := Lib.hid (HB4.out.trans ((HB5.out.trans (HB6.out.mono HB5.out.size)).mono HB4.out.size))
          clear hs4
          go_wp2_with fail
          refine bodyPost_ret (v := .tuple #[.agg #[.slice Al (limG ts).length cl], .int .i64 (limC ts)]) (by simp [results, Try.results72, go_sem, x0]) rfl ⟨_, rfl, ?_, HBE.out.setCell (by simp) _⟩
          exact World.ownsRow.kept HLO2.out (only_setCell (World.grownBy.refl w6 (some (w.heap.size + 1))) (p := ⟨w.heap.size + 1, 0, none⟩) (.inl rfl) _) (.inr HNE.out)
        · have hce : cutG gs i j = gs ++ chK gs.length (covA gs i j) ((covA gs i j).length - 1) := by unfold cutG; rw [if_neg hij, if_neg h1c]
          rw [hce] at HT HLM ⊢
          have hcv : coverF gs i j gs.length (gs.length - 1) 0 = covA gs i j := rfl
          rw [hcv] at HCO hbd
          have hc2 : (covA gs i j).length ≤ 2000 := by omega
          generalize covA gs i j = cov at *
          obtain ⟨M, hM⟩ : ∃ M, M = cov.length := ⟨_, rfl⟩
          have h1d : ((M : Int) == 1) = false := by rw [beq_eq_false_iff_ne]; omega
          have HM := Lib.hid hM
          have HC2 := Lib.hid hc2
          have HHT := Lib.hid (fun v W (B : Nat) (h : W.ownsRow B 146 3 v (gs ++ chK gs.length cov (cov.length - 1)).length (rv (gs ++ chK gs.length cov (cov.length - 1)))) => HT.out v W (Rules.of_own h))
          clear h1 hok hb hv hv0 hp hij hfew hbd hlt hfit hfc hcl h1c hce hcv hM hc2 HT
          generalize trimG (gs ++ chK gs.length cov (cov.length - 1)) = ts at *
          go_enter Try.func72, Try.ntmps72
          go_wp2_with fail
          refine H1.out.mono ?_
          rintro e w1 ⟨x, rfl, ho, hB1⟩
          have HB1 := Lib.hid (HB.out.trans (hB1.mono (by simp; omega)))
          have HV1 := Lib.hid (HV.out.kept hB1)
          have HV01 := Lib.hid (HV0.out.kept hB1)
          have HO := Lib.hid (ho trivial)
          clear hB1 ho
          go_wp2_with fail
          refine (wordLength_any x gs _ w1 hn HO.out).mono ?_
          rintro e w2 ⟨rfl, rfl⟩
          go_wp2_with fail
          refine (HIP.out _).mono ?_
          rintro e w2 ⟨rfl, rfl⟩
          have ho1 := HO.out
          unfold OwnsI at ho1
          rw [lens_len] at ho1
          obtain ⟨Ax, cx, rfl⟩ := own_slice ho1
          obtain ⟨L, rfl, _, hL⟩ := own_addr ho1 hg0
          have HLC : Hid (∀ k, k < gs.length → w2.cell? ⟨L, k, none⟩ = some (.int .i64 ((lens gs).getD k 0))) := Lib.hid (fun k hk => by rw [ho1.cellAt k (by omega)]; exact iv_at (by rw [lens_len]; exact hk))
          have z0 := HV01.out.cell.1
          have hs2 : w.heap.size + 1 < w2.heap.size := HV1.out.lt
          clear ho1
          go_wp2_with fail
          refine (HCO.out _ _ L cx _ (HR.out.kept HB1.out) rfl hL HLC.out).mono ?_
          rintro e w4 ⟨y, rfl, hy, hB4⟩
          have HB4 := Lib.hid (HB1.out.trans (hB4.mono HB1.out.size))
          have HV4 := Lib.hid (HV1.out.kept hB4)
          have z4 := (HV01.out.kept hB4).cell.1
          unfold OwnsI at hy
          rw [← HM.out] at hy
          obtain ⟨Ay, cy, rfl⟩ := own_slice hy
          have HY := Lib.hid hy
          have hs4 : w2.heap.size ≤ w4.heap.size := hB4.size
          clear hB4 z0 hy hL
          go_wp2_with fail
          refine (clone_any _ gs _ hn (HR.out.kept HB4.out)).mono ?_
          rintro e w5 ⟨y5, rfl, ho5, hB5⟩
          obtain ⟨A5, c5, rfl⟩ := own_slice ho5
          have HY5 := Lib.hid (own_below HY.out hB5 (Nat.le_refl _))
          have HO5 := Lib.hid (own_lower ho5 hs4)
          have HV5 := Lib.hid (HV4.out.kept hB5)
          have hs5 : w2.heap.size ≤ w5.heap.size := Nat.le_trans hs4 hB5.size
          have HB5 := Lib.hid (HB4.out.trans (hB5.mono HB4.out.size))
          clear hB5 ho5
          go_wp2_with fail
          have hCH := chainedG_any A5 Ay c5 cy w2.heap.size cov gs w5 HC2.out hn400 hs5 HO5.out (by rw [← HM.out]; exact HY5.out)
          rw [← HM.out] at hCH
          have HCH := Lib.hid hCH
          clear hCH
          refine HCH.out.mono ?_
          rintro e w6 ⟨y6, rfl, ho6, hB6⟩
          have HO6 := Lib.hid ho6
          have HV6 : Hid (Var w6 (w.heap.size + 1) (.slice none 0 0) 26) := Lib.hid ((hB6.block (w.heap.size + 1) hs2).trans HV5.out)
          have HB6 := Lib.hid (HB5.out.trans (hB6.mono (by omega)))
          have hs6 : w2.heap.size ≤ w6.heap.size := Nat.le_trans hs5 hB6.size
          clear hB6 ho6
          go_wp2_with fail
          refine (HHT.out _ _ _ (by rw [← HM.out]; exact HO6.out)).mono ?_
          rintro e w7 ⟨y7, rfl, ho7, hB7⟩
          have HO7 := Lib.hid ho7
          have HV7 := Lib.hid (HV6.out.kept hB7)
          have HB7 := Lib.hid (HB6.out.trans (hB7.mono HB6.out.size))
          clear hB7 ho7
          go_wp2_with fail
          refine (HLM.out _ _ (Rules.of_own HO7.out)).mono ?_
          rintro e w8 ⟨rfl, hB8⟩
          have HLO := Lib.hid (lim_own (own_below HO7.out hB8 (Nat.le_refl _)))
          obtain ⟨Al, cl, hl⟩ := own_slice HLO.out
          rw [hl] at HLO ⊢
          obtain ⟨x0, x1⟩ := (HV7.out.kept hB8).cell
          have HB8 := Lib.hid (HB7.out.trans (hB8.mono HB7.out.size))
          have HNE : Hid ((Value.slice Al (limG ts).length cl).ownBlock ≠ some (w.heap.size + 1)) := Lib.hid (fun e => by have h7 := (HLO.out.lt _ e).1; omega)
          have HLO2 := Lib.hid (own_lower HLO.out (show w.heap.size ≤ w6.heap.size by omega))
          clear hB8 hl
          go_wp2_with fail
          refine bodyPost_ret (v := .tuple #[.agg #[.slice Al (limG ts).length cl], .int .i64 (limC ts)]) (by simp [results, Try.results72, go_sem, x0]) rfl ⟨_, rfl, ?_, HB8.out.setCell (by simp) _⟩
          exact World.ownsRow.kept HLO2.out (only_setCell (World.grownBy.refl w8 (some (w.heap.size + 1))) (p := ⟨w.heap.size + 1, 0, none⟩) (.inl rfl) _) (.inr HNE.out)
end Go.Proofs.Ytlgpleeanmeenaa
namespace Go.Proofs.Ytlgpleeanmeenaa
open Go.RowKit
set_option linter.unusedVariables false
namespace Wd
/-- the letter with a number -/
def ltC (k : Nat) : UInt8 := UInt8.ofNat (97 + k)
/-- the number of a letter -/
def noC (c : UInt8) : Nat := c.toNat - 97
theorem noC_lt {c : UInt8} (h : lt c = true) : noC c < 4 := by have := of_lt h; unfold noC; omega
theorem ltC_noC {c : UInt8} (h : lt c = true) : ltC (noC c) = c := by
  have := of_lt h
  unfold ltC noC
  apply UInt8.toNat_inj.1
  simp
  omega
theorem ltC_toNat {k : Nat} (h : k < 4) : (ltC k).toNat = 97 + k := by
  unfold ltC
  simp
  omega
def hasC (l : List UInt8) (k : Nat) : Bool := decide (ltC k ∈ l)
/-- the rule of a letter -/
def letR (k : Nat) : Rl := ⟨⟨#[ltC k]⟩, 0, 0⟩
/-- the rules of the letters up to a number -/
def letG (l : List UInt8) : Nat → List Rl
  | 0 => []
  | k + 1 => if hasC l k then letG l k ++ [letR k] else letG l k
theorem letG_len (l : List UInt8) : ∀ k, (letG l k).length ≤ k
  | 0 => Nat.le_refl _
  | k + 1 => by
    have := letG_len l k
    rw [letG]
    split
    · rw [List.length_append, List.length_singleton]; omega
    · omega
theorem letG_sum (l : List UInt8) : ∀ k, sumL (letG l k) ≤ k
  | 0 => Nat.le_refl _
  | k + 1 => by
    have := letG_sum l k
    rw [letG]
    split
    · rw [sumL_app, show sumL [letR k] = 1 from rfl]; omega
    · omega
/-- the number of a letter's rule -/
def idxC (l : List UInt8) (k : Nat) : Nat := (letG l k).length
/-- the pairs, so many of them -/
def prsG (l : List UInt8) (m : Nat) : Nat → List Rl
  | 0 => []
  | t + 1 => prsG l m t ++ [pairR (if t = 0 then idxC l (noC (l.getD 0 97)) else m + t - 1) (idxC l (noC (l.getD (t + 1) 97)))]
theorem prsG_len (l : List UInt8) (m : Nat) : ∀ t, (prsG l m t).length = t
  | 0 => rfl
  | t + 1 => by rw [prsG, List.length_append, prsG_len l m t, List.length_singleton]
theorem prsG_sum (l : List UInt8) (m : Nat) : ∀ t, sumL (prsG l m t) = 0
  | 0 => rfl
  | t + 1 => by rw [prsG, sumL_app, prsG_sum l m t]; rfl
def plainG (l : List UInt8) : List Rl := letG l 4 ++ prsG l (letG l 4).length (l.length - 1)
theorem plainG_few {l : List UInt8} (h : l.length ≤ 2000) : FewR (plainG l) := by
  have h1 := letG_len l 4
  have h2 := letG_sum l 4
  unfold FewR plainG
  rw [List.length_append, prsG_len, sumL_app, prsG_sum]
  omega
theorem plainG_long {l : List UInt8} (h0 : okL l = true) (h : 400 < l.length) : gOk (plainG l) = false := by
  apply gOk_long
  have h1 : 0 < (letG l 4).length := by
    have hc := okL_at h0 (i := 0) (by omega)
    have hm : ltC (noC l[0]) ∈ l := by rw [ltC_noC hc]; exact List.getElem_mem _
    have hk := noC_lt hc
    have : ∀ k, noC l[0] < k → 0 < (letG l k).length := by
      intro k
      induction k with
      | zero => intro h; omega
      | succ k ih =>
        intro h
        rw [letG]
        by_cases e : noC l[0] = k
        · rw [if_pos (by unfold hasC; rw [← e]; exact decide_eq_true hm), List.length_append, List.length_singleton]; omega
        · have := ih (by omega)
          split
          · rw [List.length_append]; omega
          · exact this
    exact this 4 hk
  unfold plainG
  rw [List.length_append, prsG_len]
  omega
/-- the answer -/
def gramPlainGrammar (s : ByteArray) : List Rl × Int := if okL s.data.toList then (limG (plainG s.data.toList), limC (plainG s.data.toList)) else ([], 1)
theorem gramPlainGrammar_len (s : ByteArray) : (gramPlainGrammar s).1.length ≤ 1048576 := by
  unfold gramPlainGrammar
  split
  · rename_i h
    show (limG _).length ≤ _
    unfold limG
    split
    · exact (plainG_few (okL_len h)).len
    · simp
  · simp
end Wd
end Go.Proofs.Ytlgpleeanmeenaa
