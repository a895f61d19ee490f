/-
  IsL, FaSz, FaTo, FacM, FgM, GPowM, RuM, RuSz, RuTo, RsM, RuN, Times, RsF, in one text.
-/
import Derived.Test.YtlgpleeanmeenaaKind
import Derived.Test.YtlgpleeanmeenaaGramSz
import Derived.Test.YtlgpleeanmeenaaGramTo
import Derived.Test.YtlgpleeanmeenaaFnExactRunsGrammarK5
import Derived.Test.YtlgpleeanmeenaaFnExactRunsGrammarK6
import Derived.Test.YtlgpleeanmeenaaFnExactRunsGrammarK3
import Derived.Lib.BitFns
import Derived.Laws.BitsAllLaws
import Derived.Laws.BitsLemmas
import Derived.Test.YtlgpleeanmeenaaGramM
import Derived.Test.YtlgpleeanmeenaaMath
import Derived.Lib.Repeat
import Derived.Test.YtlgpleeanmeenaaBase
import Derived.Lib.AppendStr
namespace Go.Proofs.Ytlgpleeanmeenaa
open Go.RowKit
open Wd
set_option linter.unusedVariables false
namespace Wd
/-- is the text a letter? -/
def isL (s : ByteArray) : Bool := decide (s.size = 1) && okL s.data.toList
/-- its number -/
def lNo (s : ByteArray) : Nat := (s.data.toList.headD 97).toNat - 97
theorem isL_byte {s : ByteArray} (h : isL s = true) : ∃ c : UInt8, s = ⟨#[c]⟩ ∧ 97 ≤ (c.toNat : Int) ∧ (c.toNat : Int) ≤ 100 ∧ lNo s = c.toNat - 97 := by
  unfold isL at h
  rw [Bool.and_eq_true, decide_eq_true_iff] at h
  obtain ⟨h1, h2⟩ := h
  obtain ⟨⟨l⟩⟩ := s
  match l, h1 with
  | [c], _ =>
    have h3 := of_lt (okL_at h2 (i := 0) (by simp))
    exact ⟨c, rfl, by simpa using h3.1, by simpa using h3.2, rfl⟩
theorem lNo_lt {s : ByteArray} (h : isL s = true) : lNo s < 4 := by
  obtain ⟨c, _, h1, h2, h3⟩ := isL_byte h
  omega
end Wd
theorem isLetter_all (s : ByteArray) (w : World) (hs : s.size ≤ maxLen) :
    Calls Try.prog 139 #[.string s] w fun e w' => e = .returned (.bool (isL s)) ∧ w = w' := by
  unfold maxLen at hs
  by_cases h1 : s.size = 1
  · exact (isLetter_any s (by omega) w).mono fun e w' he => he
  · have hz : ((s.size : Int) == 1) = false := by rw [beq_eq_false_iff_ne]; omega
    have H1 := Lib.hid h1
    clear h1
    go_enter Try.func139, Try.ntmps139
    go_wp2
    go_ret
    exact ⟨ret_bool (by unfold isL; simp [H1.out]), rfl⟩
theorem l05Letter_any (s : ByteArray) (w : World) (hs : s.size ≤ maxLen) :
    Calls Try.prog 141 #[.string s] w fun e w' => e = .returned (.bool (isL s)) ∧ w = w' := by
  have c1 := fun W => specOk s W hs
  have hx : isL s = (decide (s.size = 1) && okL s.data.toList) := rfl
  unfold maxLen at hs
  by_cases h1 : s.size = 1
  · have hz : ((s.size : Int) == 1) = true := by rw [beq_iff_eq]; omega
    generalize okL s.data.toList = b at c1 hx
    have HX := Lib.hid hx
    have C1 := Lib.hid c1
    have H1 := Lib.hid h1
    clear hx c1 h1
    go_enter Try.func141, Try.ntmps141
    go_wp2_with fail
    refine (C1.out _).mono ?_
    rintro e w' ⟨rfl, rfl⟩
    go_wp2_with fail
    go_ret
    exact ⟨ret_bool (by rw [HX.out]; simp [H1.out]), rfl⟩
  · have hz : ((s.size : Int) == 1) = false := by rw [beq_eq_false_iff_ne]; omega
    have HX := Lib.hid hx
    have H1 := Lib.hid h1
    clear hx c1 h1
    go_enter Try.func141, Try.ntmps141
    go_wp2_with fail
    go_ret
    exact ⟨ret_bool (by rw [HX.out]; simp [H1.out]), rfl⟩
end Go.Proofs.Ytlgpleeanmeenaa
namespace Go.Proofs.Ytlgpleeanmeenaa
open Go.RowKit
open Wd
set_option linter.unusedVariables false

theorem szFactor_any (x : Rl) (left : Int) (w : World) (hs : x.L.size ≤ maxLen) (h0 : 0 ≤ left) (h1 : left ≤ 1048576) :
    Calls Try.prog 64 #[agg3 x, .int .i64 left] w fun e w' => e = .returned (.int .i64 (if left - x.L.size < 0 then -1 else left - x.L.size)) ∧ Below w.heap.size w w' := by
  obtain ⟨L, l, r⟩ := x
  simp only at hs ⊢
  unfold maxLen at hs
  by_cases h : left - (L.size : Int) < 0
  all_goals
    go_enter Try.func64, Try.ntmps64
    go_wp2
    go_ret
    refine ⟨ret_int ?_, (Below.refl _ _).alloc (Nat.le_refl _) _⟩
    first | (rw [if_pos h]; done) | (rw [if_neg h]; done) | (rw [if_pos (by omega)]; done) | (rw [if_neg (by omega)]; done) | simp

set_option maxHeartbeats 800000 in
theorem szFactorS_any (A : Option Addr) (len cap : Nat) (gs : List Rl) (left : Int) (w : World) (hl : len ≤ maxLen) (h : InRules w A len gs) (h0 : 0 ≤ left) (h1 : left ≤ 1048576) :
    Calls Try.prog 14 #[.slice A len cap, .int .i64 left] w fun e w' => e = .returned (.int .i64 (purse left gs)) ∧ Below w.heap.size w w' := by
  unfold maxLen at hl
  obtain ⟨hlen, hin⟩ := h
  by_cases hbig : left - (len : Int) < 0
  · have hp := purse_no (left := left) (gs := gs) (by omega)
    have HP := Lib.hid hp
    clear hp hin hlen
    go_enter Try.func14, Try.ntmps14
    go_wp2
    go_ret
    exact ⟨ret_int HP.out.symm, Below.refl _ _⟩
  · have HI := Lib.hid hin
    have HLN := Lib.hid hlen
    clear hin hlen
    go_enter Try.func14, Try.ntmps14
    go_wp2
    go_loopw [1, 5] (fun p i wr => ∃ k : Nat, k ≤ len ∧ i = .int .i64 k ∧ p = .int .i64 (left - len - sumL (gs.take k)) ∧ 0 ≤ left - (len : Int) - sumL (gs.take k) ∧ Below w.heap.size w wr) (fun _ i _ => len - (intOf i).toNat)
    case atStart => exact ⟨0, Nat.zero_le _, rfl, by simp [sumL], by simp [sumL]; omega, Below.refl _ _⟩
    case round =>
      obtain ⟨k, hk, rfl, rfl, hpos, hB⟩ := hrel
      by_cases hlt : k < len
      · have hkg : k < gs.length := by rw [HLN.out]; exact hlt
        rcases HI.out with hn | ⟨x, rfl, hc⟩
        · rw [hn] at hkg; simp at hkg
        obtain ⟨⟨c0, c1, c2⟩, hsz⟩ := hc k hkg
        have d0 := (hB.cell (lt_of_cell c0)).trans c0
        have d1 := (hB.cell (lt_of_cell c1)).trans c1
        have d2 := (hB.cell (lt_of_cell c2)).trans c2
        clear c0 c1 c2 hc
        rw [add_next _ _ _ (by omega)] at d1 d2
        have hs := sumL_take gs k hkg
        have HZ := Lib.hid (fun W => szFactor_any gs[k] (left - (len : Int) - sumL (gs.take k)) W hsz hpos (by omega))
        have HBD := Lib.hid (fun (h : left - (len : Int) - sumL (gs.take k) - gs[k].L.size < 0) => purse_bad (left := left) (gs := gs) hkg (by rw [HLN.out]; exact h))
        have HS := Lib.hid hs
        have HB := Lib.hid hB
        clear hs hsz hB
        by_cases hneg : left - (len : Int) - sumL (gs.take k) - gs[k].L.size < 0
        · have HN := Lib.hid hneg
          clear hneg
          go_wp2_with fail
          refine (HZ.out _).mono ?_; rintro e w' ⟨rfl, hB'⟩
          rw [if_pos HN.out]
          have HB' := Lib.hid hB'
          clear hB'
          go_wp2
          go_ret
          exact ⟨ret_int (HBD.out HN.out).symm, HB.out.trans (HB'.out.mono HB.out.size)⟩
        · have HN := Lib.hid hneg
          clear hneg
          go_wp2_with fail
          refine (HZ.out _).mono ?_; rintro e w' ⟨rfl, hB'⟩
          rw [if_neg (Int.not_lt.2 HN.out)]
          have HB' := Lib.hid hB'
          have hnn : 0 ≤ left - (len : Int) - sumL (gs.take k) - gs[k].L.size := by have := HN.out; omega
          clear hB'
          go_wp2
          go_roundw
          case rel => exact ⟨k + 1, by omega, by go_num, by rw [HS.out]; go_num, by rw [HS.out]; omega, HB.out.trans (HB'.out.mono HB.out.size)⟩
          case measure => simp [intOf]; omega
      · have hp : purse left gs = left - len - sumL (gs.take k) := by
          have hg := HLN.out
          rw [List.take_of_length_le (by omega)] at hpos ⊢
          rw [purse_ok (by omega), hg]
        have HP := Lib.hid hp
        clear hp
        go_wp2
        go_ret
        exact ⟨ret_int HP.out.symm, hB⟩
end Go.Proofs.Ytlgpleeanmeenaa
namespace Go.Proofs.Ytlgpleeanmeenaa
open Go.RowKit
open Wd
set_option linter.unusedVariables false

theorem Try.info_factor : (Try.prog.info? 92).map (fun i => (i.zero, i.size, i.bytes)) = some (some (.agg #[.string ⟨#[]⟩, .int .i64 0, .int .i64 0]), 3, 32) := by kernel_rfl
/-- factors of the call's own -/
abbrev OwnsF (w : World) (B : Nat) (v : Value) (gs : List Rl) : Prop := w.ownsRow B 92 3 v gs.length (rv gs)
theorem toFactor_any (x : Rl) (w : World) : Calls Try.prog 69 #[agg3 x] w fun e w' => e = .returned (agg3 x) ∧ Below w.heap.size w w' := by
  obtain ⟨L, l, r⟩ := x
  go_enter Try.func69, Try.ntmps69
  go_wp2
  refine bodyPost_ret (v := .agg #[.string L, .int .i64 l, .int .i64 r]) (by simp [results, Try.results69, go_sem]) rfl ⟨rfl, ?_⟩
  exact (((Below.refl _ _).alloc (Nat.le_refl _) _).alloc (by simp) _).alloc (by simp; omega) _

set_option maxRecDepth 100000 in
set_option maxHeartbeats 1600000 in
theorem toFactorS_any (A : Option Addr) (len cap : Nat) (gs : List Rl) (w : World) (hl : len ≤ 1048576) (h : InRules w A len gs) :
    Calls Try.prog 16 #[.slice A len cap] w fun e w' => ∃ v, e = .returned v ∧ OwnsF w' w.heap.size v gs ∧ Below w.heap.size w w' := by
  obtain ⟨i0, hi, hz0, hz1, hz2⟩ := info_parts Try.info_factor
  obtain ⟨hlen, hin⟩ := h
  have HI := Lib.hid hin
  have HLN := Lib.hid hlen
  clear hin hlen
  go_enter Try.func16, Try.ntmps16
  go_wp2_with (refine wpList_make_full _ rfl _ _ 29 rfl w.heap.size 92 i0 (.agg #[.string ⟨#[]⟩, .int .i64 0, .int .i64 0]) 3 Try.underlying29 hi hz0 hz1 .i64 .i64 _ _ len rfl rfl rfl rfl (by rw [hz2]; omega) (by unfold maxLen; omega) (Nat.le_refl _) ?_)
  intro w1 hown hg
  have hB1 := below_of_grown hg
  rw [made_zr, show List.replicate len zr = outK gs 0 from by rw [outK_zero, HLN.out]] at hown
  obtain ⟨B, hBe⟩ : ∃ B, B = w.heap.size := ⟨_, rfl⟩
  rw [← hBe] at hown ⊢
  have HBE := Lib.hid hBe
  clear hg hBe
  go_wp2
  go_loopw [4] (fun i wr => ∃ k : Nat, k ≤ len ∧ i = .int .i64 k ∧ wr.ownsRow B 92 3 (.slice (some ⟨B, 0, none⟩) len len) len (rv (outK gs k)) ∧ Below w.heap.size w wr) (fun i _ => len - (intOf i).toNat)
  case atStart => exact ⟨0, Nat.zero_le _, rfl, hown, hB1⟩
  case round =>
    obtain ⟨k, hk, rfl, hown, hB⟩ := hrel
    by_cases hlt : k < len
    · have hkg : k < gs.length := by rw [HLN.out]; exact hlt
      rcases HI.out with hn | ⟨x, rfl, hc⟩
      · rw [hn] at hkg; simp at hkg
      obtain ⟨⟨c0, c1, c2⟩, hsz⟩ := hc k hkg
      have d0 := (hB.cell (lt_of_cell c0)).trans c0
      have d1 := (hB.cell (lt_of_cell c1)).trans c1
      have d2 := (hB.cell (lt_of_cell c2)).trans c2
      rw [add_next _ _ _ (by omega)] at d1 d2
      clear c0 c1 c2 hc hsz
      go_wp2_with fail
      refine (toFactor_any gs[k] _).mono ?_; rintro e w' ⟨rfl, hB'⟩
      have hown' := own_below hown hB' (Nat.le_refl _)
      have hB2 := hB.trans (hB'.mono hB.size)
      have hkl : k < (outK gs k).length := by rw [outK_len _ _ (by omega)]; exact hkg
      have hz : (outK gs k)[k] = zr := by have := outK_get gs k hkg; rw [List.getElem?_eq_getElem hkl] at this; simpa using this
      have e0 : w'.cell? ⟨B, k * 3, none⟩ = some (.string ⟨#[]⟩) := by rw [hown'.cellAt (k * 3) (by omega)]; have := rv_get _ k hkl 0 (by omega); rw [hz] at this; exact this
      have e1 : w'.cell? ⟨B, k * 3 + 1, none⟩ = some (.int .i64 0) := by rw [hown'.cellAt (k * 3 + 1) (by omega)]; have := rv_get _ k hkl 1 (by omega); rw [hz] at this; exact this
      have e2 : w'.cell? ⟨B, k * 3 + 2, none⟩ = some (.int .i64 0) := by rw [hown'.cellAt (k * 3 + 2) (by omega)]; have := rv_get _ k hkl 2 (by omega); rw [hz] at this; exact this
      have f0 : w'.frozen? ⟨B, k * 3, none⟩ = false := hown'.frozenAt _
      have f1 : w'.frozen? ⟨B, k * 3 + 1, none⟩ = false := hown'.frozenAt _
      have f2 : w'.frozen? ⟨B, k * 3 + 2, none⟩ = false := hown'.frozenAt _
      have HO := Lib.hid hown'
      clear hown hown' hz hkl
      go_wp2
      go_roundw
      case rel =>
        refine ⟨k + 1, by omega, by go_num, ?_, ((hB2.setCell (by rw [HBE.out]; exact Nat.le_refl _) _).setCell (by rw [HBE.out]; exact Nat.le_refl _) _).setCell (by rw [HBE.out]; exact Nat.le_refl _) _⟩
        rw [← outK_set gs k hkg]
        exact own_set3 HO.out k (by rw [outK_len _ _ (by omega)]; exact hkg) _
      case measure => simp [intOf]; omega
    · have hown' : OwnsF wr w.heap.size (.slice (some ⟨B, 0, none⟩) len len) gs := by
        have hg := HLN.out
        rw [show k = gs.length from by omega, outK_all, HBE.out] at hown
        unfold OwnsF
        rw [hg, HBE.out]
        exact hown
      have HO := Lib.hid hown'
      clear hown hown'
      go_wp2
      go_ret
      exact ⟨_, rfl, HO.out, hB⟩

end Go.Proofs.Ytlgpleeanmeenaa
namespace Go.Proofs.Ytlgpleeanmeenaa
open Go.RowKit
open Wd
set_option linter.unusedVariables false
namespace Wd
/-- may a factor come behind so many letters? -/
def facFits (x : Rl) (n : Int) : Bool :=
  if x.L.size = 0 then decide (0 ≤ x.l) && (decide (1 ≤ x.r) && decide (x.r ≤ n - x.l)) else isL x.L && (decide (x.l = 0) && decide (x.r = 0))
/-- how many letters it adds -/
def facLn (x : Rl) : Int := if x.L.size = 0 then x.r else 1
def facF : List Rl → Int → Option Int
  | [], n => some n
  | x :: xs, n => if facFits x n = true then (if n + facLn x ≤ 1000000000000000 then facF xs (n + facLn x) else none) else none
def facR (gs : List Rl) : Option Int := if gs.length ≤ 120 then facF gs 0 else none
/-- are the factors valid? -/
def facOk (gs : List Rl) : Bool := (facR gs).isSome
/-- the length of their word -/
def facN (gs : List Rl) : Int := (facR gs).getD 0
/-- the answer of FactorsLength -/
def facAns (gs : List Rl) : Int × Int := if facOk gs = true then (facN gs, 0) else (0, 1)
theorem facF_drop {gs : List Rl} {k : Nat} (n : Int) (h : k < gs.length) : facF (gs.drop k) n = if facFits gs[k] n = true then (if n + facLn gs[k] ≤ 1000000000000000 then facF (gs.drop (k + 1)) (n + facLn gs[k]) else none) else none := by
  rw [List.drop_eq_getElem_cons h]; rfl
theorem facF_end {gs : List Rl} {k : Nat} (n : Int) (h : gs.length ≤ k) : facF (gs.drop k) n = some n := by
  rw [List.drop_of_length_le h]; rfl
theorem facLn_bd {x : Rl} {n : Int} (h : facFits x n = true) (hn : 0 ≤ n) : 1 ≤ facLn x ∧ facLn x ≤ n + 1 := by
  unfold facFits at h
  unfold facLn
  split
  · next h0 =>
    rw [if_pos h0] at h
    simp only [Bool.and_eq_true, decide_eq_true_iff] at h
    omega
  · omega
theorem facR_long {gs : List Rl} (h : 120 < gs.length) : facR gs = none := by unfold facR; rw [if_neg (by omega)]
theorem facR_short {gs : List Rl} (h : gs.length ≤ 120) : facR gs = facF (gs.drop 0) 0 := by unfold facR; rw [if_pos h]; rfl
theorem fac_no {gs : List Rl} (h : facR gs = none) : facOk gs = false ∧ facN gs = 0 := by unfold facOk facN; rw [h]; exact ⟨rfl, rfl⟩
theorem fac_yes {gs : List Rl} {n : Int} (h : facR gs = some n) : facOk gs = true ∧ facN gs = n := by unfold facOk facN; rw [h]; exact ⟨rfl, rfl⟩
/-- factors with numbers of the program's width -/
def WfF (gs : List Rl) : Prop := ∀ k (h : k < gs.length), (-9223372036854775808 ≤ gs[k].l ∧ gs[k].l ≤ 9223372036854775807) ∧ (-9223372036854775808 ≤ gs[k].r ∧ gs[k].r ≤ 9223372036854775807)
end Wd
end Go.Proofs.Ytlgpleeanmeenaa
namespace Go.Proofs.Ytlgpleeanmeenaa
open Go.RowKit
set_option linter.unusedVariables false
namespace Wd
/-- the grammar of a factor, behind those before it -/
def fgPc (fs : List Rl) (k : Nat) (g : List Rl) : List Rl × Int :=
  match fs[k]? with
  | some x => if x.L.size = 0 then gramPartGrammar g x.l (x.l + x.r) else gramPlainGrammar x.L
  | none => ([], 0)
/-- the grammar so far has the word of the factors before -/
def fgInv (fs : List Rl) (k : Nat) (g : List Rl) : Prop := facF (fs.drop k) (wordLen g) = some (facN fs)
/-- the answer of FactorsGrammar -/
def gramFactorsGrammar (fs : List Rl) : List Rl × Int := if facOk fs = true then jpF (fgPc fs) fs.length 0 [] else ([], 1)
theorem fg_start {fs : List Rl} (h : facOk fs = true) : fgInv fs 0 [] := by
  unfold fgInv
  rw [wordLen_zero rfl]
  unfold facOk at h
  unfold facN
  rw [Option.isSome_iff_exists] at h
  obtain ⟨m, hm⟩ := h
  rw [hm]
  unfold facR at hm
  split at hm
  · exact hm
  · cases hm
theorem lim_yes {z : List Rl} (h : limC z = 0) : gOk z = true ∧ limG z = z := by
  unfold limC limG at *
  split at h
  · next h0 => exact ⟨h0, by rw [if_pos h0]⟩
  · cases h
/-- one factor's step: it fits, and what its grammar is -/
theorem fg_step {fs : List Rl} {k : Nat} {g : List Rl} (hk : k < fs.length) (hin : fgInv fs k g) : facFits fs[k] (wordLen g) = true ∧ wordLen g + facLn fs[k] ≤ 1000000000000000 ∧ facF (fs.drop (k + 1)) (wordLen g + facLn fs[k]) = some (facN fs) := by
  unfold fgInv at hin
  rw [facF_drop _ hk] at hin
  split at hin
  · next h1 =>
    split at hin
    · next h2 => exact ⟨h1, h2, hin⟩
    · cases hin
  · cases hin
theorem fg_pair {fs : List Rl} {k : Nat} {g : List Rl} (hk : k < fs.length) (hin : fgInv fs k g) (h0 : fs[k].L.size = 0) : 0 ≤ fs[k].l ∧ 1 ≤ fs[k].r ∧ fs[k].l + fs[k].r ≤ wordLen g := by
  have h := (fg_step hk hin).1
  unfold facFits at h
  rw [if_pos h0] at h
  simp only [Bool.and_eq_true, decide_eq_true_iff] at h
  omega
theorem fg_let {fs : List Rl} {k : Nat} {g : List Rl} (hk : k < fs.length) (hin : fgInv fs k g) (h0 : fs[k].L.size ≠ 0) : fs[k].L.size = 1 ∧ okL fs[k].L.data.toList = true := by
  have h := (fg_step hk hin).1
  unfold facFits at h
  rw [if_neg h0] at h
  simp only [Bool.and_eq_true, decide_eq_true_iff, isL] at h
  exact h.1
/-- the grammar of a letter is that letter -/
theorem plain_one {L : ByteArray} (h1 : L.size = 1) (h2 : okL L.data.toList = true) : plainG L.data.toList = [⟨L, 0, 0⟩] := by
  obtain ⟨⟨l⟩⟩ := L
  match l, h1 with
  | [c], _ =>
    have hc : lt c = true := by
      simp only [okL, Bool.and_eq_true] at h2
      simpa using h2.2
    have hd := of_lt hc
    obtain ⟨d, hd1, hd2⟩ : ∃ d : Nat, d < 4 ∧ c = UInt8.ofNat (97 + d) := ⟨c.toNat - 97, by omega, by
      rw [show 97 + (c.toNat - 97) = c.toNat from by omega]; simp⟩
    subst hd2
    match d, hd1 with
    | 0, _ => rfl
    | 1, _ => rfl
    | 2, _ => rfl
    | 3, _ => rfl
theorem fg_gOk {fs : List Rl} {k : Nat} {g : List Rl} (hk : k < fs.length) (hok : gOk g = true) (hin : fgInv fs k g) (hc : (fgPc fs k g).2 = 0) : gOk (fgPc fs k g).1 = true ∧ wordLen (fgPc fs k g).1 = facLn fs[k] := by
  unfold fgPc at *
  rw [List.getElem?_eq_getElem hk] at *
  simp only at *
  by_cases h0 : fs[k].L.size = 0
  · obtain ⟨p1, p2, p3⟩ := fg_pair hk hin h0
    rw [if_pos h0] at *
    have hp : inPart fs[k].l (fs[k].l + fs[k].r) (wordLen g) = true := inPart_iff.2 ⟨p1, by omega, p3⟩
    unfold gramPartGrammar at *
    rw [if_pos hok, if_pos hp] at *
    simp only at *
    obtain ⟨a, b⟩ := lim_yes hc
    have hg : 0 < g.length := by
      rcases Nat.eq_zero_or_pos g.length with h | h
      · rw [wordLen_zero h] at p3; omega
      · exact h
    rw [b]
    refine ⟨a, ?_⟩
    rw [(trim_word (cut_fits hok hg _ _)).2.2, cut_wordLen hok p1 (by omega) p3]
    unfold facLn
    rw [if_pos h0]
    omega
  · obtain ⟨l1, l2⟩ := fg_let hk hin h0
    rw [if_neg h0] at *
    unfold gramPlainGrammar at *
    rw [if_pos l2] at *
    simp only at *
    obtain ⟨a, b⟩ := lim_yes hc
    rw [b]
    refine ⟨a, ?_⟩
    rw [plain_one l1 l2]
    unfold facLn
    rw [if_neg h0]
    have : (lens [(⟨fs[k].L, 0, 0⟩ : Rl)]).getD 0 0 = 1 := vals_letter (fun a b => a + b) [(⟨fs[k].L, 0, 0⟩ : Rl)] 0 (by simp) h0
    exact this
theorem join_word {g h : List Rl} (hg : gOk g = true) (hh : gOk h = true) : wordLen (joinG g h) = wordLen g + wordLen h := by
  unfold joinG
  split
  · next h0 => rw [wordLen_zero h0]; omega
  · split
    · next h1 => rw [wordLen_zero h1]; omega
    · next h0 h1 => exact jn_wordLen (gOk_iff.1 hg).2.1 (gOk_iff.1 hh).2.1 (by omega) (by omega)
theorem fg_next {fs : List Rl} {k : Nat} {g : List Rl} (hk : k < fs.length) (hok : gOk g = true) (hin : fgInv fs k g) (hc : (fgPc fs k g).2 = 0) (hj : gOk (joinG g (fgPc fs k g).1) = true) : fgInv fs (k + 1) (trimG (joinG g (fgPc fs k g).1)) := by
  obtain ⟨a, b⟩ := fg_gOk hk hok hin hc
  unfold fgInv
  rw [(trim_ok hj).2, join_word hok a, b]
  exact (fg_step hk hin).2.2
/-- a join is valid where it has few rules -/
theorem fg_join {fs : List Rl} {k : Nat} {g : List Rl} (hk : k < fs.length) (hok : gOk g = true) (hin : fgInv fs k g) (hc : (fgPc fs k g).2 = 0) : gOk (joinG g (fgPc fs k g).1) = decide ((joinG g (fgPc fs k g).1).length ≤ 400) := by
  obtain ⟨a, b⟩ := fg_gOk hk hok hin hc
  have hs := (fg_step hk hin).2.1
  generalize (fgPc fs k g).1 = nx at *
  by_cases hl : (joinG g nx).length ≤ 400
  · rw [decide_eq_true hl]
    unfold joinG at hl ⊢
    split
    · exact a
    · split
      · exact hok
      · next h0 h1 =>
        refine jn_ok hok a (by omega) (by omega) (by omega) ?_
        rw [if_neg h0, if_neg h1] at hl
        simp at hl
        omega
  · rw [decide_eq_false hl]
    exact gOk_long (by omega)
end Wd
end Go.Proofs.Ytlgpleeanmeenaa
namespace Go.Proofs.Ytlgpleeanmeenaa
open Go.RowKit
set_option linter.unusedVariables false
namespace Wd
theorem aux_iff : ∀ (f x k : Nat), x < 2 ^ f → (x / 2 ^ k = 0 ↔ Lib.bitLenAux f x ≤ k)
  | 0, x, k, h => by
    have : x = 0 := by simp at h; exact h
    subst this; simp [Lib.bitLenAux]
  | f + 1, x, k, h => by
    rw [Lib.bitLenAux]
    by_cases h0 : x = 0
    · subst h0; simp
    · rw [if_neg h0]
      cases k with
      | zero => simp; exact h0
      | succ k =>
        have h2 : x / 2 < 2 ^ f := by rw [Nat.pow_succ] at h; omega
        have ih := aux_iff f (x / 2) k h2
        rw [show x / 2 ^ (k + 1) = x / 2 / 2 ^ k from by rw [Nat.pow_succ, Nat.mul_comm, Nat.div_div_eq_div_mul], ih]
        omega
theorem bitLen_iff {t k : Nat} (ht : t ≤ 1000000000000000) : t / 2 ^ k = 0 ↔ Lib.bitLen t ≤ k := aux_iff 64 t k (by omega)
theorem bitLen_bd {t : Nat} (ht : t ≤ 1000000000000000) : Lib.bitLen t ≤ 50 := (bitLen_iff ht).1 (Nat.div_eq_of_lt (by omega))
theorem bitLen_pos {t : Nat} (ht : t ≤ 1000000000000000) (h0 : 0 < t) : 1 ≤ Lib.bitLen t := by
  rcases Nat.eq_zero_or_pos (Lib.bitLen t) with h | h
  · have := (bitLen_iff (k := 0) ht).2 (by omega)
    simp at this; omega
  · exact h
/-- the digit of a number -/
def bitOf (t k : Nat) : Bool := decide (t / 2 ^ k % 2 = 1)
/-- what is added for a digit -/
def pNews (n root : Nat) (b : Bool) : List Rl := if b then [pairR (n - 1) (n - 1), pairR n root] else [pairR (n - 1) (n - 1)]
/-- the digits below a number, from above on -/
def powFrom (t root : Nat) : Nat → List Rl → List Rl
  | 0, rs => rs
  | d + 1, rs => powFrom t root d (rs ++ pNews rs.length root (bitOf t d))
theorem powFrom_len (t root : Nat) : ∀ d rs, (powFrom t root d rs).length ≤ rs.length + 2 * d
  | 0, rs => by simp [powFrom]
  | d + 1, rs => by
    have := powFrom_len t root d (rs ++ pNews rs.length root (bitOf t d))
    rw [powFrom]
    have h2 : (pNews rs.length root (bitOf t d)).length ≤ 2 := by unfold pNews; split <;> simp
    rw [List.length_append] at this
    omega
theorem pNews_sum (n root : Nat) (b : Bool) : sumL (pNews n root b) = 0 := by unfold pNews; split <;> rfl
theorem powFrom_sum (t root : Nat) : ∀ d rs, sumL (powFrom t root d rs) = sumL rs
  | 0, rs => rfl
  | d + 1, rs => by rw [powFrom, powFrom_sum t root d, sumL_app, pNews_sum]; rfl
/-- the rules of a power -/
def powG (gs : List Rl) (t : Nat) : List Rl := powFrom t (gs.length - 1) (Lib.bitLen t - 1) gs
theorem bit_and (t k : Nat) (ht : t ≤ 1000000000000000) : bits .and .i64 ((t / 2 ^ k : Nat) : Int) 1 = (if bitOf t k then 1 else 0 : Int) := by
  have hq : t / 2 ^ k ≤ 1000000000000000 := Nat.le_trans (Nat.div_le_self _ _) ht
  unfold bitOf
  generalize t / 2 ^ k = q at *
  show IntKind.i64.wrap ((BitVec.ofInt 64 (q : Int) &&& BitVec.ofInt 64 1).toNat : Int) = _
  have h1 : (BitVec.ofInt 64 (q : Int)).toNat = q := by rw [BitVec.ofInt_natCast, BitVec.toNat_ofNat]; exact Nat.mod_eq_of_lt (by omega)
  have h2 : (BitVec.ofInt 64 (1 : Int)).toNat = 1 := rfl
  rw [BitVec.toNat_and, h1, h2, Nat.and_one_is_mod, IntKind.wrap_i64]
  have h3 : q % 2 = 0 ∨ q % 2 = 1 := by omega
  rcases h3 with h3 | h3 <;> rw [h3] <;> simp
end Wd
end Go.Proofs.Ytlgpleeanmeenaa
namespace Go.Proofs.Ytlgpleeanmeenaa
open Go.RowKit
open Wd
set_option linter.unusedVariables false
namespace Wd
/-- a run as it is read -/
structure Ru where
  L : ByteArray
  l : Int
/-- its cells -/
def uc (x : Ru) : List Value := [.string x.L, .int .i64 x.l]
/-- those of a list -/
def uv (gs : List Ru) : List Value := gs.flatMap uc
theorem uv_len (gs : List Ru) : (uv gs).length = gs.length * 2 := by
  induction gs with
  | nil => rfl
  | cons x gs ih => simp only [uv, List.flatMap_cons, List.length_append, List.length_cons] at ih ⊢; simp only [uc, List.length_cons, List.length_nil]; omega
theorem uv_app (gs hs : List Ru) : uv (gs ++ hs) = uv gs ++ uv hs := by simp [uv]
theorem uv_one (x : Ru) : uv [x] = uc x := by simp [uv]
theorem uv_get (gs : List Ru) (k : Nat) (h : k < gs.length) (j : Nat) (hj : j < 2) : (uv gs)[k * 2 + j]? = (uc gs[k])[j]? := by
  induction gs generalizing k with
  | nil => simp at h
  | cons x gs ih =>
    have hx : (uc x).length = 2 := rfl
    cases k with
    | zero =>
      rw [show uv (x :: gs) = uc x ++ uv gs from rfl, List.getElem?_append_left (by omega)]
      simp
    | succ k =>
      rw [show uv (x :: gs) = uc x ++ uv gs from rfl, List.getElem?_append_right (by omega), show (k + 1) * 2 + j - (uc x).length = k * 2 + j from by omega]
      simpa using ih k (by simpa using h)
/-- where the rules lie that a slice value holds -/
def Runs (w : World) (v : Value) (gs : List Ru) : Prop :=
  ∃ A c, v = .slice A gs.length c ∧ (gs = [] ∨ ∃ g, A = some ⟨g, 0, none⟩ ∧ g < w.heap.size ∧ ∀ j u, (uv gs)[j]? = some u → w.cell? ⟨g, j, none⟩ = some u)
theorem Runs.kept {w w' : World} {v : Value} {gs : List Ru} (h : Runs w v gs) (hb : Below w.heap.size w w') : Runs w' v gs := by
  obtain ⟨A, c, hv, h | ⟨g, hA, hg, hc⟩⟩ := h
  · exact ⟨A, c, hv, .inl h⟩
  · exact ⟨A, c, hv, .inr ⟨g, hA, Nat.lt_of_lt_of_le hg hb.size, fun j u hu => (hb.cell (p := ⟨g, j, none⟩) hg).trans (hc j u hu)⟩⟩
/-- the two cells of a run -/
theorem runs_cells {w : World} {gs : List Ru} {g k : Nat} (hc : ∀ j u, (uv gs)[j]? = some u → w.cell? ⟨g, j, none⟩ = some u) (h : k < gs.length) :
    w.cell? ⟨g, k * 2, none⟩ = some (.string gs[k].L) ∧ w.cell? ⟨g, k * 2 + 1, none⟩ = some (.int .i64 gs[k].l) :=
  ⟨hc _ _ (uv_get gs k h 0 (by omega)), hc _ _ (uv_get gs k h 1 (by omega))⟩
theorem Runs.of_own {w : World} {B e : Nat} {v : Value} {gs : List Ru} (h : w.ownsRow B e 2 v gs.length (uv gs)) : Runs w v gs := by
  rcases h.2 with ⟨rfl, h0⟩ | ⟨g, cap, cur, rfl, hb, hg, _⟩
  · exact ⟨none, 0, by rw [h0], .inl (List.eq_nil_of_length_eq_zero h0)⟩
  · exact ⟨_, _, rfl, .inr ⟨g, rfl, (Array.getElem?_eq_some_iff.1 hg).1, fun j u hu => by have := h.cells (g := g) rfl j u hu; unfold Addr.add at this; split at this <;> simp_all⟩⟩
/-- a slice of rules that came in -/
def InRuns (w : World) (A : Option Addr) (len : Nat) (gs : List Ru) : Prop :=
  gs.length = len ∧ (gs = [] ∨ ∃ x, A = some x ∧ ∀ i (h : i < gs.length), (w.cell? (x.add (i * 2)) = some (.string gs[i].L) ∧ w.cell? (x.add (i * 2 + 1)) = some (.int .i64 gs[i].l)) ∧ gs[i].L.size ≤ maxLen)
theorem InRuns.kept {w w' : World} {A : Option Addr} {len : Nat} {gs : List Ru} (h : InRuns w A len gs) (hb : Below w.heap.size w w') : InRuns w' A len gs := by
  obtain ⟨hl, h | ⟨x, hA, hc⟩⟩ := h
  · exact ⟨hl, .inl h⟩
  · refine ⟨hl, .inr ⟨x, hA, fun i hi => ?_⟩⟩
    obtain ⟨⟨h0, h1⟩, h3⟩ := hc i hi
    exact ⟨⟨(hb.cell (lt_of_cell h0)).trans h0, (hb.cell (lt_of_cell h1)).trans h1⟩, h3⟩
/-- the letters of all -/
def sumU (gs : List Ru) : Nat := (gs.map fun x => x.L.size).sum
theorem sumU_take (gs : List Ru) (k : Nat) (h : k < gs.length) : sumU (gs.take (k + 1)) = sumU (gs.take k) + gs[k].L.size := by
  rw [List.take_succ_eq_append_getElem h]; simp only [sumU, List.map_append, List.sum_append, List.map_cons, List.map_nil, List.sum_cons, List.sum_nil]; omega
theorem sumU_le (gs : List Ru) (k : Nat) : sumU (gs.take k) ≤ sumU gs := by
  have : sumU gs = sumU (gs.take k) + sumU (gs.drop k) := by
    conv => lhs; rw [← List.take_append_drop k gs]
    simp only [sumU, List.map_append, List.sum_append]
  omega
theorem sumU_at (gs : List Ru) (k : Nat) (h : k < gs.length) : gs[k].L.size ≤ sumU gs := by
  have h1 := sumU_take gs k h
  have h2 := sumU_le gs (k + 1)
  omega
/-- what is left of a purseU, -1 if it does not do -/
def purseU (left : Int) (gs : List Ru) : Int := if (gs.length : Int) + (sumU gs : Int) ≤ left then left - gs.length - sumU gs else -1
theorem purseU_ok {left : Int} {gs : List Ru} (h : (gs.length : Int) + (sumU gs : Int) ≤ left) : purseU left gs = left - gs.length - sumU gs := if_pos h
theorem purseU_no {left : Int} {gs : List Ru} (h : ¬ (gs.length : Int) + (sumU gs : Int) ≤ left) : purseU left gs = -1 := if_neg h
theorem purseU_bad {left : Int} {gs : List Ru} {k : Nat} (hk : k < gs.length) (h : left - gs.length - sumU (gs.take k) - gs[k].L.size < 0) : purseU left gs = -1 := by
  have h1 := sumU_take gs k hk
  have h2 := sumU_le gs (k + 1)
  exact purseU_no (by omega)
/-- not too much in all -/
def FewU (gs : List Ru) : Prop := gs.length + sumU gs ≤ 1048576
theorem FewU.len {gs : List Ru} (h : FewU gs) : gs.length ≤ 1048576 := by unfold FewU at h; omega
theorem FewU.at_ {gs : List Ru} (h : FewU gs) (k : Nat) (hk : k < gs.length) : gs[k].L.size ≤ maxLen := by
  have := sumU_at gs k hk
  unfold FewU at h; unfold maxLen; omega
theorem purse_fewU {gs : List Ru} (h : ¬ purseU 1048576 gs < 0) : FewU gs := by
  unfold purseU at h
  unfold FewU
  split at h <;> omega
end Wd
/-- a run as a value -/
abbrev agg2u (x : Ru) : Value := .agg #[.string x.L, .int .i64 x.l]
end Go.Proofs.Ytlgpleeanmeenaa
namespace Go.Proofs.Ytlgpleeanmeenaa
open Go.RowKit
open Wd
set_option linter.unusedVariables false
theorem szRun_any (x : Ru) (left : Int) (w : World) (hs : x.L.size ≤ maxLen) (h0 : 0 ≤ left) (h1 : left ≤ 1048576) :
    Calls Try.prog 88 #[agg2u x, .int .i64 left] w fun e w' => e = .returned (.int .i64 (if left - x.L.size < 0 then -1 else left - x.L.size)) ∧ Below w.heap.size w w' := by
  obtain ⟨L, l⟩ := x
  simp only at hs ⊢
  unfold maxLen at hs
  by_cases h : left - (L.size : Int) < 0
  all_goals
    go_enter Try.func88, Try.ntmps88
    go_wp2
    go_ret
    refine ⟨ret_int ?_, (Below.refl _ _).alloc (Nat.le_refl _) _⟩
    first | (rw [if_pos h]; done) | (rw [if_neg h]; done) | (rw [if_pos (by omega)]; done) | (rw [if_neg (by omega)]; done) | simp

set_option maxHeartbeats 800000 in
theorem szRunS_any (A : Option Addr) (len cap : Nat) (gs : List Ru) (left : Int) (w : World) (hl : len ≤ maxLen) (h : InRuns w A len gs) (h0 : 0 ≤ left) (h1 : left ≤ 1048576) :
    Calls Try.prog 32 #[.slice A len cap, .int .i64 left] w fun e w' => e = .returned (.int .i64 (purseU left gs)) ∧ Below w.heap.size w w' := by
  unfold maxLen at hl
  obtain ⟨hlen, hin⟩ := h
  by_cases hbig : left - (len : Int) < 0
  · have hp := purseU_no (left := left) (gs := gs) (by omega)
    have HP := Lib.hid hp
    clear hp hin hlen
    go_enter Try.func32, Try.ntmps32
    go_wp2
    go_ret
    exact ⟨ret_int HP.out.symm, Below.refl _ _⟩
  · have HI := Lib.hid hin
    have HLN := Lib.hid hlen
    clear hin hlen
    go_enter Try.func32, Try.ntmps32
    go_wp2
    go_loopw [1, 5] (fun p i wr => ∃ k : Nat, k ≤ len ∧ i = .int .i64 k ∧ p = .int .i64 (left - len - sumU (gs.take k)) ∧ 0 ≤ left - (len : Int) - sumU (gs.take k) ∧ Below w.heap.size w wr) (fun _ i _ => len - (intOf i).toNat)
    case atStart => exact ⟨0, Nat.zero_le _, rfl, by simp [sumU], by simp [sumU]; omega, Below.refl _ _⟩
    case round =>
      obtain ⟨k, hk, rfl, rfl, hpos, hB⟩ := hrel
      by_cases hlt : k < len
      · have hkg : k < gs.length := by rw [HLN.out]; exact hlt
        rcases HI.out with hn | ⟨x, rfl, hc⟩
        · rw [hn] at hkg; simp at hkg
        obtain ⟨⟨c0, c1⟩, hsz⟩ := hc k hkg
        have d0 := (hB.cell (lt_of_cell c0)).trans c0
        have d1 := (hB.cell (lt_of_cell c1)).trans c1
        clear c0 c1 hc
        rw [add_next _ _ _ (by omega)] at d1
        have hs := sumU_take gs k hkg
        have HZ := Lib.hid (fun W => szRun_any gs[k] (left - (len : Int) - sumU (gs.take k)) W hsz hpos (by omega))
        have HBD := Lib.hid (fun (h : left - (len : Int) - sumU (gs.take k) - gs[k].L.size < 0) => purseU_bad (left := left) (gs := gs) hkg (by rw [HLN.out]; exact h))
        have HS := Lib.hid hs
        have HB := Lib.hid hB
        clear hs hsz hB
        by_cases hneg : left - (len : Int) - sumU (gs.take k) - gs[k].L.size < 0
        · have HN := Lib.hid hneg
          clear hneg
          go_wp2_with fail
          refine (HZ.out _).mono ?_; rintro e w' ⟨rfl, hB'⟩
          rw [if_pos HN.out]
          have HB' := Lib.hid hB'
          clear hB'
          go_wp2
          go_ret
          exact ⟨ret_int (HBD.out HN.out).symm, HB.out.trans (HB'.out.mono HB.out.size)⟩
        · have HN := Lib.hid hneg
          clear hneg
          go_wp2_with fail
          refine (HZ.out _).mono ?_; rintro e w' ⟨rfl, hB'⟩
          rw [if_neg (Int.not_lt.2 HN.out)]
          have HB' := Lib.hid hB'
          have hnn : 0 ≤ left - (len : Int) - sumU (gs.take k) - gs[k].L.size := by have := HN.out; omega
          clear hB'
          go_wp2
          go_roundw
          case rel => exact ⟨k + 1, by omega, by go_num, by rw [HS.out]; go_num, by rw [HS.out]; omega, HB.out.trans (HB'.out.mono HB.out.size)⟩
          case measure => simp [intOf]; omega
      · have hp : purseU left gs = left - len - sumU (gs.take k) := by
          have hg := HLN.out
          rw [List.take_of_length_le (by omega)] at hpos ⊢
          rw [purseU_ok (by omega), hg]
        have HP := Lib.hid hp
        clear hp
        go_wp2
        go_ret
        exact ⟨ret_int HP.out.symm, hB⟩
end Go.Proofs.Ytlgpleeanmeenaa
namespace Go.Proofs.Ytlgpleeanmeenaa
open Go.RowKit
open Wd
set_option linter.unusedVariables false
theorem Try.info_run : (Try.prog.info? 73).map (fun i => (i.zero, i.size, i.bytes)) = some (some (.agg #[.string ⟨#[]⟩, .int .i64 0]), 2, 24) := by kernel_rfl
namespace Wd
def zu : Ru := ⟨⟨#[]⟩, 0⟩
theorem uv_set (gs : List Ru) (k : Nat) (x : Ru) (h : k < gs.length) :
    ((uv gs).set (k * 2) (.string x.L)).set (k * 2 + 1) (.int .i64 x.l) = uv (gs.set k x) := by
  induction gs generalizing k with
  | nil => simp at h
  | cons y gs ih =>
    cases k with
    | zero => rfl
    | succ k =>
      have h1 := ih k (by simpa using h)
      have e : uv (y :: gs) = .string y.L :: .int .i64 y.l :: uv gs := rfl
      have e2 : uv ((y :: gs).set (k + 1) x) = .string y.L :: .int .i64 y.l :: uv (gs.set k x) := rfl
      rw [e, e2, ← h1, show (k + 1) * 2 = k * 2 + 1 + 1 from by omega]
      simp only [List.set_cons_succ]
/-- the first k rules, and zeros behind them -/
def outU (gs : List Ru) (k : Nat) : List Ru := gs.take k ++ List.replicate (gs.length - k) zu
theorem outU_len (gs : List Ru) (k : Nat) (h : k ≤ gs.length) : (outU gs k).length = gs.length := by simp [outU]; omega
theorem outU_set (gs : List Ru) (k : Nat) (h : k < gs.length) : (outU gs k).set k gs[k] = outU gs (k + 1) := by
  unfold outU
  have h1 : (gs.take k).length = k := by simp; omega
  rw [List.set_append_right _ _ (by omega), h1, Nat.sub_self, show gs.length - k = (gs.length - (k + 1)) + 1 from by omega, List.replicate_succ, List.set_cons_zero, List.take_succ_eq_append_getElem h, List.append_assoc]
  rfl
theorem outU_zero (gs : List Ru) : outU gs 0 = List.replicate gs.length zu := by simp [outU]
theorem outU_all (gs : List Ru) : outU gs gs.length = gs := by simp [outU]
theorem outU_get (gs : List Ru) (k : Nat) (h : k < gs.length) : (outU gs k)[k]? = some zu := by
  have h1 : (gs.take k).length = k := by simp; omega
  rw [outU, List.getElem?_append_right (by omega), h1, Nat.sub_self, List.getElem?_replicate, if_pos (by omega)]
theorem made_zu (n : Nat) : (madeCells #[.string ⟨#[]⟩, .int .i64 0] (n * 2)).toList = uv (List.replicate n zu) := by
  apply List.ext_getElem
  · rw [uv_len]; simp [madeCells]
  · intro i h1 h2
    have hi : i < n * 2 := by simpa [madeCells] using h1
    have hk : i / 2 < n := by omega
    have h3 := uv_get (List.replicate n zu) (i / 2) (by simpa using hk) (i % 2) (by omega)
    rw [show i / 2 * 2 + i % 2 = i from by omega, List.getElem?_eq_getElem h2] at h3
    rw [List.getElem_replicate, show uc zu = [Value.string ⟨#[]⟩, .int .i64 0] from rfl] at h3
    have h4 : (madeCells #[.string ⟨#[]⟩, .int .i64 0] (n * 2)).toList[i] = (#[.string ⟨#[]⟩, .int .i64 0] : Array Value)[i % 2]! := by simp [madeCells]
    rw [h4]
    have h5 : i % 2 = 0 ∨ i % 2 = 1 := by omega
    rcases h5 with h5 | h5 <;> rw [h5] at h3 ⊢ <;> simpa using h3.symm
end Wd
/-- runs of the call's own -/
abbrev OwnsU (w : World) (B : Nat) (v : Value) (gs : List Ru) : Prop := w.ownsRow B 73 2 v gs.length (uv gs)
theorem own_set2u {w : World} {C e B n c : Nat} {gs : List Ru} (h : w.ownsRow C e 2 (.slice (some ⟨B, 0, none⟩) n c) n (uv gs)) (k : Nat) (hk : k < gs.length) (x : Ru) :
    ((w.setCell ⟨B, k * 2, none⟩ (.string x.L)).setCell ⟨B, k * 2 + 1, none⟩ (.int .i64 x.l)).ownsRow C e 2 (.slice (some ⟨B, 0, none⟩) n c) n (uv (gs.set k x)) := by
  have h1 := ((h.stored (k * 2) (.string x.L)).1.stored (k * 2 + 1) (.int .i64 x.l)).1
  rw [uv_set gs k x hk] at h1
  exact h1
theorem toRun_any (x : Ru) (w : World) : Calls Try.prog 90 #[agg2u x] w fun e w' => e = .returned (agg2u x) ∧ Below w.heap.size w w' := by
  obtain ⟨L, l⟩ := x
  go_enter Try.func90, Try.ntmps90
  go_wp2
  refine bodyPost_ret (v := .agg #[.string L, .int .i64 l]) (by simp [results, Try.results90, go_sem]) rfl ⟨rfl, ?_⟩
  exact (((Below.refl _ _).alloc (Nat.le_refl _) _).alloc (by simp) _).alloc (by simp; omega) _

set_option maxRecDepth 100000 in
set_option maxHeartbeats 1600000 in
theorem toRunS_any (A : Option Addr) (len cap : Nat) (gs : List Ru) (w : World) (hl : len ≤ 1048576) (h : InRuns w A len gs) :
    Calls Try.prog 34 #[.slice A len cap] w fun e w' => ∃ v, e = .returned v ∧ OwnsU w' w.heap.size v gs ∧ Below w.heap.size w w' := by
  obtain ⟨i0, hi, hz0, hz1, hz2⟩ := info_parts Try.info_run
  obtain ⟨hlen, hin⟩ := h
  have HI := Lib.hid hin
  have HLN := Lib.hid hlen
  clear hin hlen
  go_enter Try.func34, Try.ntmps34
  go_wp2_with (refine wpList_make_full _ rfl _ _ 39 rfl w.heap.size 73 i0 (.agg #[.string ⟨#[]⟩, .int .i64 0]) 2 Try.underlying39 hi hz0 hz1 .i64 .i64 _ _ len rfl rfl rfl rfl (by rw [hz2]; omega) (by unfold maxLen; omega) (Nat.le_refl _) ?_)
  intro w1 hown hg
  have hB1 := below_of_grown hg
  rw [made_zu, show List.replicate len zu = outU gs 0 from by rw [outU_zero, HLN.out]] at hown
  obtain ⟨B, hBe⟩ : ∃ B, B = w.heap.size := ⟨_, rfl⟩
  rw [← hBe] at hown ⊢
  have HBE := Lib.hid hBe
  clear hg hBe
  go_wp2
  go_loopw [4] (fun i wr => ∃ k : Nat, k ≤ len ∧ i = .int .i64 k ∧ wr.ownsRow B 73 2 (.slice (some ⟨B, 0, none⟩) len len) len (uv (outU gs k)) ∧ Below w.heap.size w wr) (fun i _ => len - (intOf i).toNat)
  case atStart => exact ⟨0, Nat.zero_le _, rfl, hown, hB1⟩
  case round =>
    obtain ⟨k, hk, rfl, hown, hB⟩ := hrel
    by_cases hlt : k < len
    · have hkg : k < gs.length := by rw [HLN.out]; exact hlt
      rcases HI.out with hn | ⟨x, rfl, hc⟩
      · rw [hn] at hkg; simp at hkg
      obtain ⟨⟨c0, c1⟩, hsz⟩ := hc k hkg
      have d0 := (hB.cell (lt_of_cell c0)).trans c0
      have d1 := (hB.cell (lt_of_cell c1)).trans c1
      rw [add_next _ _ _ (by omega)] at d1
      clear c0 c1 hc hsz
      go_wp2_with fail
      refine (toRun_any gs[k] _).mono ?_; rintro e w' ⟨rfl, hB'⟩
      have hown' := own_below hown hB' (Nat.le_refl _)
      have hB2 := hB.trans (hB'.mono hB.size)
      have hkl : k < (outU gs k).length := by rw [outU_len _ _ (by omega)]; exact hkg
      have hz : (outU gs k)[k] = zu := by have := outU_get gs k hkg; rw [List.getElem?_eq_getElem hkl] at this; simpa using this
      have e0 : w'.cell? ⟨B, k * 2, none⟩ = some (.string ⟨#[]⟩) := by rw [hown'.cellAt (k * 2) (by omega)]; have := uv_get _ k hkl 0 (by omega); rw [hz] at this; exact this
      have e1 : w'.cell? ⟨B, k * 2 + 1, none⟩ = some (.int .i64 0) := by rw [hown'.cellAt (k * 2 + 1) (by omega)]; have := uv_get _ k hkl 1 (by omega); rw [hz] at this; exact this
      have f0 : w'.frozen? ⟨B, k * 2, none⟩ = false := hown'.frozenAt _
      have f1 : w'.frozen? ⟨B, k * 2 + 1, none⟩ = false := hown'.frozenAt _
      have HO := Lib.hid hown'
      clear hown hown' hz hkl
      go_wp2
      go_roundw
      case rel =>
        refine ⟨k + 1, by omega, by go_num, ?_, (hB2.setCell (by rw [HBE.out]; exact Nat.le_refl _) _).setCell (by rw [HBE.out]; exact Nat.le_refl _) _⟩
        rw [← outU_set gs k hkg]
        exact own_set2u HO.out k (by rw [outU_len _ _ (by omega)]; exact hkg) _
      case measure => simp [intOf]; omega
    · have hown' : OwnsU wr w.heap.size (.slice (some ⟨B, 0, none⟩) len len) gs := by
        have hg := HLN.out
        rw [show k = gs.length from by omega, outU_all, HBE.out] at hown
        unfold OwnsU
        rw [hg, HBE.out]
        exact hown
      have HO := Lib.hid hown'
      clear hown hown'
      go_wp2
      go_ret
      exact ⟨_, rfl, HO.out, hB⟩

end Go.Proofs.Ytlgpleeanmeenaa
namespace Go.Proofs.Ytlgpleeanmeenaa
open Go.RowKit
set_option linter.unusedVariables false
namespace Wd
def oneB (c : UInt8) : ByteArray := ⟨#[c]⟩
/-- the last count one more -/
def incL (rs : List Ru) : List Ru := match rs[rs.length - 1]? with
  | some x => rs.set (rs.length - 1) ⟨x.L, x.l + 1⟩
  | none => rs
/-- the runs of the first k letters -/
def rsK (l : List UInt8) : Nat → List Ru
  | 0 => []
  | k + 1 => if 0 < k ∧ l.getD k 0 = l.getD (k - 1) 0 then incL (rsK l k) else rsK l k ++ [⟨oneB (l.getD k 0), 1⟩]
theorem incL_len (rs : List Ru) : (incL rs).length = rs.length := by
  unfold incL
  split
  · simp
  · rfl
theorem incL_at {rs : List Ru} (h : 0 < rs.length) : incL rs = rs.set (rs.length - 1) ⟨(rs[rs.length - 1]'(by omega)).L, (rs[rs.length - 1]'(by omega)).l + 1⟩ := by
  unfold incL
  rw [List.getElem?_eq_getElem (by omega)]
theorem incL_snoc (rs : List Ru) (x : Ru) : incL (rs ++ [x]) = rs ++ [⟨x.L, x.l + 1⟩] := by
  unfold incL
  have : (rs ++ [x]).length - 1 = rs.length := by simp
  rw [this]
  simp
theorem rsK_len (l : List UInt8) : ∀ k, (rsK l k).length ≤ k
  | 0 => by simp [rsK]
  | k + 1 => by
    have := rsK_len l k
    unfold rsK
    split
    · rw [incL_len]; omega
    · simp; omega
theorem rsK_pos (l : List UInt8) : ∀ k, 0 < k → 0 < (rsK l k).length
  | 0, h => by omega
  | k + 1, _ => by
    unfold rsK
    split
    · next h => rw [incL_len]; exact rsK_pos l k h.1
    · simp
theorem rsK_cnt (l : List UInt8) : ∀ k, ∀ x ∈ rsK l k, 1 ≤ x.l ∧ x.l ≤ k
  | 0, x, h => by simp [rsK] at h
  | k + 1, x, h => by
    have ih := rsK_cnt l k
    unfold rsK at h
    split at h
    · unfold incL at h
      split at h
      · next y hy =>
        rcases List.mem_or_eq_of_mem_set h with h | rfl
        · have := ih x h; omega
        · have := ih y (List.mem_of_getElem? hy)
          simp only
          omega
      · have := ih x h; omega
    · rcases List.mem_append.1 h with h | h
      · have := ih x h; omega
      · simp at h
        subst h
        simp only
        omega
theorem uv_set1 (gs : List Ru) (k : Nat) (h : k < gs.length) (y : Int) : (uv gs).set (k * 2 + 1) (.int .i64 y) = uv (gs.set k ⟨gs[k].L, y⟩) := by
  have h1 := uv_set gs k ⟨gs[k].L, y⟩ h
  simp only at h1
  rw [← h1]
  congr 1
  have h2 := uv_get gs k h 0 (by omega)
  apply List.ext_getElem?
  intro i
  rw [List.getElem?_set]
  split
  · next e =>
    subst e
    have hl : k * 2 < (uv gs).length := by rw [uv_len]; omega
    rw [if_pos hl]
    rw [Nat.add_zero] at h2
    rw [h2]
    rfl
  · rfl
/-- the run of a part -/
def runP (l : List UInt8) (p : Nat × Nat) : Ru := ⟨oneB (l.getD p.1 0), ((p.2 - p.1 : Nat) : Int)⟩
/-- between two places: the parts cut off, and where the next one begins -/
def GInv (l : List UInt8) (e s : Nat) (G : List (Nat × Nat)) : Prop :=
  s < e ∧ e ≤ l.length ∧ (∀ j, s ≤ j → j < e → l.getD j 0 = l.getD s 0) ∧ rsK l e = G.map (runP l) ++ [runP l (s, e)] ∧ (∀ p ∈ G, p.1 < p.2 ∧ p.2 ≤ l.length) ∧ G.length ≤ s
theorem GInv.start {l : List UInt8} (h : 0 < l.length) : GInv l 1 0 [] := by
  refine ⟨by omega, by omega, fun j h1 h2 => ?_, ?_, by simp, by simp⟩
  · obtain rfl : j = 0 := by omega
    rfl
  · simp [rsK, runP]
theorem GInv.same {l : List UInt8} {e s : Nat} {G : List (Nat × Nat)} (h : GInv l e s G) (he : e < l.length) (hq : l.getD e 0 = l.getD s 0) : GInv l (e + 1) s G := by
  obtain ⟨h1, h2, h3, h4, h5, h6⟩ := h
  refine ⟨by omega, by omega, fun j a b => ?_, ?_, h5, h6⟩
  · by_cases hj : j = e
    · subst hj; exact hq
    · exact h3 j a (by omega)
  · have hp : l.getD e 0 = l.getD (e - 1) 0 := by rw [hq, h3 (e - 1) (by omega) (by omega)]
    show (if 0 < e ∧ l.getD e 0 = l.getD (e - 1) 0 then incL (rsK l e) else _) = _
    rw [if_pos ⟨by omega, hp⟩, h4, incL_snoc]
    congr 2
    unfold runP
    simp only
    congr 1
    omega
theorem GInv.cut {l : List UInt8} {e s : Nat} {G : List (Nat × Nat)} (h : GInv l e s G) (he : e < l.length) (hq : l.getD e 0 ≠ l.getD s 0) : GInv l (e + 1) e (G ++ [(s, e)]) := by
  obtain ⟨h1, h2, h3, h4, h5, h6⟩ := h
  refine ⟨by omega, by omega, fun j a b => ?_, ?_, fun p hp => ?_, ?_⟩
  · obtain rfl : j = e := by omega
    rfl
  · have hp : ¬ l.getD e 0 = l.getD (e - 1) 0 := by rw [h3 (e - 1) (by omega) (by omega)]; exact hq
    show (if 0 < e ∧ l.getD e 0 = l.getD (e - 1) 0 then _ else rsK l e ++ [⟨oneB (l.getD e 0), 1⟩]) = _
    rw [if_neg (fun hh => hp hh.2), h4]
    simp [runP]
  · rcases List.mem_append.1 hp with hp | hp
    · exact h5 p hp
    · simp at hp
      subst hp
      exact ⟨h1, h2⟩
  · rw [List.length_append]
    simp
    omega
theorem GInv.last {l : List UInt8} {s : Nat} {G : List (Nat × Nat)} (h : GInv l l.length s G) : rsK l l.length = (G ++ [(s, l.length)]).map (runP l) ∧ (∀ p ∈ G ++ [(s, l.length)], p.1 < p.2 ∧ p.2 ≤ l.length) ∧ (G ++ [(s, l.length)]).length ≤ l.length := by
  obtain ⟨h1, h2, h3, h4, h5, h6⟩ := h
  refine ⟨by rw [h4]; simp, fun p hp => ?_, by rw [List.length_append]; simp; omega⟩
  rcases List.mem_append.1 hp with hp | hp
  · exact h5 p hp
  · simp at hp
    subst hp
    exact ⟨h1, h2⟩
/-- the answer -/
def rsA (s : ByteArray) : List Ru × Int := if okL s.data.toList = true then (rsK s.data.toList s.size, 0) else ([], 1)
theorem rsA_len (s : ByteArray) : (rsA s).1.length ≤ 1000000 := by
  unfold rsA
  split
  · next h =>
    have h1 := rsK_len s.data.toList s.size
    have h2 : s.size ≤ 2000 := by
      rcases Nat.lt_or_ge 2000 s.size with h' | h'
      · rw [okL_long (by simpa using h')] at h; cases h
      · exact h'
    simp only
    omega
  · simp
end Wd
open Wd
theorem news2 (w : World) (x : Ru) (t : TypeId) : ∀ j u, (uc x)[j]? = some u → (w.alloc (.cells #[.string x.L, .int .i64 x.l] t)).cell? ((⟨w.heap.size, 0, none⟩ : Addr).add j) = some u := by
  intro j u hu
  match j, hu with
  | 0, hu => simp [uc] at hu; subst hu; simp [Addr.add]
  | 1, hu => simp [uc] at hu; subst hu; simp [Addr.add]
theorem uc_cell (x : Ru) : ∀ u ∈ uc x, u.oneCell' = true := by
  intro u hu
  simp only [uc, List.mem_cons, List.not_mem_nil, or_false] at hu
  rcases hu with rfl | rfl <;> rfl
end Go.Proofs.Ytlgpleeanmeenaa
namespace Go.Proofs.Ytlgpleeanmeenaa
open Go.RowKit
set_option linter.unusedVariables false
namespace Wd
/-- is it a run of a letter? -/
def runL (x : Ru) : Bool := decide (x.L.size = 1) && okL x.L.data.toList
def runC (x : Ru) : Bool := decide (1 ≤ x.l)
/-- are letters beside each other different? -/
def adjOk (gs : List Ru) : Bool := decide (∀ k (h : k < gs.length), 0 < k → (gs[k].L.toList == gs[k - 1].L.toList) = false)
/-- the first fault -/
def ruF (gs : List Ru) : Int := if gs.all runL = true then (if gs.all runC = true then (if adjOk gs = true then 0 else 4) else 2) else 1
def wordU (gs : List Ru) : List UInt8 := gs.flatMap fun x => Lib.repeatL x.L.data.toList x.l.toNat
def totU (gs : List Ru) : Int := (gs.map (·.l)).sum
/-- the answer -/
def ruA (gs : List Ru) : List UInt8 × Int := if ruF gs = 0 then (if totU gs ≤ 2000 then (wordU gs, 0) else ([], 3)) else ([], ruF gs)
theorem ruF_one {gs : List Ru} {k : Nat} (hk : k < gs.length) (h : runL gs[k] = false) : ruA gs = ([], 1) := by
  have h1 : gs.all runL = false := by
    rw [List.all_eq_false]
    exact ⟨gs[k], List.getElem_mem hk, by rw [h]; decide⟩
  have h2 : ruF gs = 1 := by unfold ruF; rw [h1]; rfl
  unfold ruA
  rw [h2]
  rfl
theorem all_of {p : Ru → Bool} {gs : List Ru} (h : ∀ j (hj : j < gs.length), p gs[j] = true) : gs.all p = true := by
  rw [List.all_eq_true]
  intro x hx
  obtain ⟨j, hj, rfl⟩ := List.mem_iff_getElem.1 hx
  exact h j hj
theorem ruF_two {gs : List Ru} {k : Nat} (hk : k < gs.length) (h0 : ∀ j (hj : j < gs.length), runL gs[j] = true) (h : runC gs[k] = false) : ruA gs = ([], 2) := by
  have h1 : gs.all runC = false := by
    rw [List.all_eq_false]
    exact ⟨gs[k], List.getElem_mem hk, by rw [h]; decide⟩
  have h2 : ruF gs = 2 := by unfold ruF; rw [all_of h0, h1]; rfl
  unfold ruA
  rw [h2]
  rfl
theorem ruF_four {gs : List Ru} {k : Nat} (hk : k < gs.length) (hp : 0 < k) (h0 : ∀ j (hj : j < gs.length), runL gs[j] = true) (h1 : ∀ j (hj : j < gs.length), runC gs[j] = true) (h : (gs[k].L.toList == gs[k - 1].L.toList) = true) : ruA gs = ([], 4) := by
  have h3 : adjOk gs = false := decide_eq_false fun hh => by
    have := hh k hk hp
    rw [h] at this
    cases this
  have h2 : ruF gs = 4 := by unfold ruF; rw [all_of h0, all_of h1, h3]; rfl
  unfold ruA
  rw [h2]
  rfl
theorem ruF_none {gs : List Ru} (h0 : ∀ j (hj : j < gs.length), runL gs[j] = true) (h1 : ∀ j (hj : j < gs.length), runC gs[j] = true) (h2 : ∀ j (hj : j < gs.length), 0 < j → (gs[j].L.toList == gs[j - 1].L.toList) = false) : ruF gs = 0 := by
  have h3 : adjOk gs = true := decide_eq_true h2
  unfold ruF
  rw [all_of h0, all_of h1, h3]
  rfl
theorem totU_app (a b : List Ru) : totU (a ++ b) = totU a + totU b := by
  unfold totU
  rw [List.map_append, List.sum_append]
theorem totU_one (x : Ru) : totU [x] = x.l := by simp [totU]
theorem wordU_app (a b : List Ru) : wordU (a ++ b) = wordU a ++ wordU b := by
  unfold wordU
  rw [List.flatMap_append]
theorem wordU_one (x : Ru) : wordU [x] = Lib.repeatL x.L.data.toList x.l.toNat := by simp [wordU]
theorem totU_take {gs : List Ru} {k : Nat} (hk : k < gs.length) : totU (gs.take (k + 1)) = totU (gs.take k) + gs[k].l := by
  rw [List.take_succ_eq_append_getElem hk, totU_app, totU_one]
theorem wordU_take {gs : List Ru} {k : Nat} (hk : k < gs.length) : wordU (gs.take (k + 1)) = wordU (gs.take k) ++ Lib.repeatL gs[k].L.data.toList gs[k].l.toNat := by
  rw [List.take_succ_eq_append_getElem hk, wordU_app, wordU_one]
theorem totU_pos : ∀ (gs : List Ru), (∀ x ∈ gs, 1 ≤ x.l) → 0 ≤ totU gs
  | [], _ => by simp [totU]
  | x :: gs, h => by
    have h1 := totU_pos gs (fun y hy => h y (List.mem_cons_of_mem _ hy))
    have h2 := h x List.mem_cons_self
    have : totU (x :: gs) = x.l + totU gs := by simp [totU]
    omega
theorem totU_le {gs : List Ru} (h : ∀ j (hj : j < gs.length), runC gs[j] = true) (k : Nat) : 0 ≤ totU (gs.take k) ∧ totU (gs.take k) ≤ totU gs := by
  have hm : ∀ x ∈ gs, 1 ≤ x.l := fun x hx => by
    obtain ⟨j, hj, rfl⟩ := List.mem_iff_getElem.1 hx
    exact of_decide_eq_true (h j hj)
  have h1 := totU_pos (gs.take k) (fun x hx => hm x (List.mem_of_mem_take hx))
  have h2 := totU_pos (gs.drop k) (fun x hx => hm x (List.mem_of_mem_drop hx))
  have h3 : totU gs = totU (gs.take k) + totU (gs.drop k) := by
    conv => lhs; rw [← List.take_append_drop k gs, totU_app]
  omega
theorem wordU_len {gs : List Ru} (h0 : ∀ j (hj : j < gs.length), runL gs[j] = true) (h1 : ∀ j (hj : j < gs.length), runC gs[j] = true) : ∀ k, k ≤ gs.length → ((wordU (gs.take k)).length : Int) = totU (gs.take k)
  | 0, _ => by simp [wordU, totU]
  | k + 1, hk => by
    have hk' : k < gs.length := by omega
    have ih := wordU_len h0 h1 k (by omega)
    have hl : gs[k].L.size = 1 := by
      have := h0 k hk'
      unfold runL at this
      rw [Bool.and_eq_true, decide_eq_true_iff] at this
      exact this.1
    have hc : 1 ≤ gs[k].l := of_decide_eq_true (h1 k hk')
    rw [wordU_take hk', totU_take hk', List.length_append, Lib.repeatL_length]
    have : gs[k].L.data.toList.length = 1 := by simpa using hl
    rw [this, Nat.mul_one]
    omega
/-- too long -/
theorem ruA_long {gs : List Ru} {k : Nat} (hk : k < gs.length) (h0 : ruF gs = 0) (h1 : ∀ j (hj : j < gs.length), runC gs[j] = true) (h : 2000 < totU (gs.take k) + gs[k].l) : ruA gs = ([], 3) := by
  have := (totU_le h1 (k + 1)).2
  rw [totU_take hk] at this
  unfold ruA
  rw [if_pos h0, if_neg (by omega)]
theorem ruA_all {gs : List Ru} (h0 : ruF gs = 0) (h : totU (gs.take gs.length) ≤ 2000) : ruA gs = (wordU (gs.take gs.length), 0) := by
  rw [List.take_of_length_le (Nat.le_refl _)] at *
  unfold ruA
  rw [if_pos h0, if_pos h]
theorem ba_app (l m : List UInt8) : (⟨l.toArray⟩ : ByteArray) ++ ⟨m.toArray⟩ = ⟨(l ++ m).toArray⟩ := ByteArray.ext (Array.toList_inj.1 (by simp))
end Wd
end Go.Proofs.Ytlgpleeanmeenaa
namespace Go.Proofs.Ytlgpleeanmeenaa
open Go.RowKit
open Wd
set_option linter.unusedVariables false

namespace Wd
theorem repeatL_snoc (l : List UInt8) : ∀ c, Lib.repeatL l (c + 1) = Lib.repeatL l c ++ l
  | 0 => by simp [Lib.repeatL]
  | c + 1 => by
    have := repeatL_snoc l c
    show l ++ Lib.repeatL l (c + 1) = (l ++ Lib.repeatL l c) ++ l
    rw [this, List.append_assoc]
theorem strCells_bv (s : ByteArray) : Lib.strCells s = bv s.data.toList := rfl
theorem mul_step {a k c : Nat} (h : k < c) (hc : a * c ≤ 1000000) : a * k + a ≤ 1000000 := by
  have : a * (k + 1) ≤ a * c := Nat.mul_le_mul_left a (by omega)
  rw [Nat.mul_succ] at this
  omega
theorem fits_times {a c : Nat} (ha : 0 < a) (h : a * c ≤ 2000) : ¬ (2000 / (a : Int) < (c : Int)) := by
  have h1 : c ≤ 2000 / a := (Nat.le_div_iff_mul_le ha).2 (by rw [Nat.mul_comm]; exact h)
  have h2 : ((2000 / a : Nat) : Int) = 2000 / (a : Int) := by simp
  omega
theorem not_fits_of {a c : Nat} (ha : 0 < a) (h : 2000 < a * c) : 2000 / (a : Int) < (c : Int) := by
  have h1 : ¬ c ≤ 2000 / a := by
    intro hc
    have := (Nat.le_div_iff_mul_le ha).1 hc
    rw [Nat.mul_comm] at this
    omega
  have h2 : ((2000 / a : Nat) : Int) = 2000 / (a : Int) := by simp
  omega
end Wd

set_option maxHeartbeats 400000 in
theorem specTimes (s : ByteArray) (c : Nat) (w : World) (hs : s.size * c ≤ 1000000) (h1 : s.size ≤ 1000000) (h2 : c ≤ 1000000) :
    Calls Try.prog 89 #[.string s, .int .i64 c] w fun e w' => e = .returned (.string ⟨(Lib.repeatL s.data.toList c).toArray⟩) ∧ Below w.heap.size w w' := by
  obtain ⟨i0, hi, hz0, hz1, hz2⟩ := info_parts Try.info_u8
  go_enter Try.func89, Try.ntmps89
  go_wp2
  go_loopw [5, 6] (fun v i wr => ∃ k n : Nat, k ≤ c ∧ n = s.size * k ∧ i = .int .i64 k ∧ wr.ownsRow w.heap.size 5 1 v n (bv (Lib.repeatL s.data.toList k)) ∧ Below w.heap.size w wr)
    (fun _ i _ => c - (intOf i).toNat)
  case atStart => exact ⟨0, 0, Nat.zero_le _, rfl, rfl, World.ownsRow_lit w #[] 0 (Nat.le_refl _) (by decide) rfl, (Below.refl _ _).alloc (Nat.le_refl _) _⟩
  case round =>
    obtain ⟨k, n, hk, hn, rfl, hown, hB⟩ := hrel
    have hsz := hB.size
    by_cases hlt : k < c
    · have hst := mul_step hlt hs
      have hn1 : n + s.size ≤ 1000000 := by omega
      have HN := Lib.hid hn
      clear hn hst
      go_wp2_with (first | (at_builtin; refine Lib.wpList_append_own_string _ rfl _ _ 69 9 rfl w.heap.size 5 i0 Try.underlying69 Try.underlying9 hi hz0 hz1 hz2 _ _ _ rfl hown s rfl ?c1 ?c2 ?c3 ?_))
      case c1 => unfold maxLen; omega
      case c2 => omega
      case c3 => omega
      intro v' w1 hown' hgrow _
      have hb1 : Below w.heap.size w w1 := hB.grown hgrow hsz (fun q hq => (hown.lt q hq).1)
      have hown1 : w1.ownsRow w.heap.size 5 1 v' (n + s.size) (bv (Lib.repeatL s.data.toList (k + 1))) := by
        rw [repeatL_snoc, bv_app]; exact hown'
      clear hown' hgrow hown hB
      go_wp2
      go_roundw
      case rel => exact ⟨k + 1, n + s.size, by omega, by rw [Nat.mul_succ, HN.out], by go_num, hown1, hb1⟩
      case measure => simp [intOf]; omega
    · have hkc : k = c := by omega
      have hconv := conv_owned (P := Try.prog) (src := 69) (dst := 9) hown Try.underlying69 Try.underlying5 Try.underlying9
      rw [hkc] at hconv
      clear hown hn
      have HK := Lib.hid hkc
      clear hkc
      go_wp2
      go_ret
      exact ⟨rfl, hB⟩

end Go.Proofs.Ytlgpleeanmeenaa
namespace Go.Proofs.Ytlgpleeanmeenaa
open Go.RowKit
set_option linter.unusedVariables false
namespace Wd
/-- letters beside each other differ -/
def AdjP (ls : List ByteArray) : Prop := ∀ j a b, ls[j]? = some a → ls[j + 1]? = some b → b ≠ a
theorem AdjP.snoc {ls : List ByteArray} {c : ByteArray} (h : AdjP ls) (hc : ∀ d, ls.getLast? = some d → c ≠ d) : AdjP (ls ++ [c]) := by
  intro j a b ha hb
  by_cases hj : j + 1 < ls.length
  · rw [List.getElem?_append_left hj] at hb
    rw [List.getElem?_append_left (by omega)] at ha
    exact h j a b ha hb
  · have hl : j + 1 < (ls ++ [c]).length := (List.getElem?_eq_some_iff.1 hb).1
    have hj2 : j + 1 = ls.length := by simp at hl; omega
    rw [List.getElem?_append_right (by omega), hj2, Nat.sub_self] at hb
    simp at hb
    subst hb
    rw [List.getElem?_append_left (by omega)] at ha
    refine hc a ?_
    rw [List.getLast?_eq_getElem?, show ls.length - 1 = j from by omega]
    exact ha
structure RGood (l : List UInt8) (k : Nat) (rs : List Ru) : Prop where
  one : ∀ x ∈ rs, ∃ c ∈ l, x.L = oneB c
  cnt : ∀ x ∈ rs, 1 ≤ x.l
  word : wordU rs = l.take k
  tot : totU rs = k
  adj : AdjP (rs.map (·.L))
  last : 0 < k → (rs.map (·.L)).getLast? = some (oneB (l.getD (k - 1) 0))
theorem oneB_inj {a b : UInt8} (h : oneB a = oneB b) : a = b := by
  unfold oneB at h
  injection h with h
  simpa using h
theorem rgood (l : List UInt8) : ∀ k, k ≤ l.length → RGood l k (rsK l k)
  | 0, _ => ⟨by simp [rsK], by simp [rsK], by simp [rsK, wordU], by simp [rsK, totU], by intro j a b ha hb; simp [rsK] at ha, fun h => by omega⟩
  | k + 1, hk => by
    have ih := rgood l k (by omega)
    have hkl : k < l.length := by omega
    have hgk : l.getD k 0 = l[k] := by rw [List.getD_eq_getElem?_getD, List.getElem?_eq_getElem hkl, Option.getD_some]
    have htk : l.take (k + 1) = l.take k ++ [l[k]] := List.take_succ_eq_append_getElem hkl
    have hcnt := rsK_cnt l (k + 1)
    unfold rsK
    split
    · next h =>
      obtain ⟨h0, heq⟩ := h
      have hp := rsK_pos l k h0
      have hlast := ih.last h0
      rcases List.eq_nil_or_concat (rsK l k) with hn | ⟨init, x, hx⟩
      · rw [hn] at hp; simp at hp
      · rw [List.concat_eq_append] at hx
        have i1 := ih.one
        have i2 := ih.cnt
        have i3 := ih.word
        have i4 := ih.tot
        have i5 := ih.adj
        rw [hx] at i1 i2 i3 i4 i5 hlast ⊢
        rw [incL_snoc]
        have hxl := i2 x (by simp)
        have hxL : x.L = oneB l[k] := by
          rw [List.map_append, List.map_cons, List.map_nil, List.getLast?_append] at hlast
          simp at hlast
          rw [hlast, ← hgk, heq, List.getD_eq_getElem?_getD]
        have hmap : (init ++ [(⟨x.L, x.l + 1⟩ : Ru)]).map (fun y : Ru => y.L) = (init ++ [x]).map (fun y : Ru => y.L) := by simp
        refine ⟨fun y hy => ?_, fun y hy => ?_, ?_, ?_, ?_, fun _ => ?_⟩
        · rcases List.mem_append.1 hy with hy | hy
          · exact i1 y (List.mem_append_left _ hy)
          · simp at hy
            subst hy
            exact ⟨l[k], List.getElem_mem hkl, hxL⟩
        · rcases List.mem_append.1 hy with hy | hy
          · exact i2 y (List.mem_append_left _ hy)
          · simp at hy
            subst hy
            simp only
            omega
        · rw [wordU_app, wordU_one] at i3 ⊢
          rw [htk, ← i3]
          simp only
          rw [show (x.l + 1).toNat = x.l.toNat + 1 from by omega, repeatL_snoc, List.append_assoc]
          congr 1
          congr 1
          rw [hxL]
          rfl
        · rw [totU_app, totU_one] at i4 ⊢
          simp only
          omega
        · rw [hmap]; exact i5
        · rw [hmap]
          rw [Nat.add_sub_cancel, hgk, List.map_append, List.map_cons, List.map_nil, List.getLast?_append]
          simp [hxL]
    · next h =>
      refine ⟨fun y hy => ?_, fun y hy => ?_, ?_, ?_, ?_, fun _ => ?_⟩
      · rcases List.mem_append.1 hy with hy | hy
        · exact ih.one y hy
        · simp at hy
          subst hy
          exact ⟨l[k], List.getElem_mem hkl, by simp only; rw [← hgk, List.getD_eq_getElem?_getD]⟩
      · rcases List.mem_append.1 hy with hy | hy
        · exact ih.cnt y hy
        · simp at hy
          subst hy
          simp
      · rw [wordU_app, wordU_one, htk, ih.word, hgk]
        simp [Lib.repeatL, oneB]
      · rw [totU_app, totU_one, ih.tot]
        simp
      · rw [List.map_append]
        refine ih.adj.snoc (fun d hd => ?_)
        intro e
        rcases Nat.eq_zero_or_pos k with h0 | h0
        · subst h0
          simp [rsK] at hd
        · rw [ih.last h0] at hd
          injection hd with hd
          rw [← hd] at e
          exact h ⟨h0, oneB_inj e⟩
      · rw [Nat.add_sub_cancel, List.map_append, List.getLast?_append]
        simp
theorem rs_all (l : List UInt8) : RGood l l.length (rsK l l.length) := rgood l l.length (Nat.le_refl _)
/-- the word of the runs of a word is the word -/
theorem runs_back {s : ByteArray} (h : okL s.data.toList = true) : ruA (rsK s.data.toList s.size) = (s.data.toList, 0) := by
  have hs : s.size = s.data.toList.length := by simp
  have hg := rs_all s.data.toList
  rw [hs]
  have hs2 : s.data.toList.length ≤ 2000 := by
    rcases Nat.lt_or_ge 2000 s.data.toList.length with h' | h'
    · rw [okL_long h'] at h; cases h
    · exact h'
  have h1 : ∀ j (hj : j < (rsK s.data.toList s.data.toList.length).length), runL (rsK s.data.toList s.data.toList.length)[j] = true := fun j hj => by
    obtain ⟨c, hc, hL⟩ := hg.one _ (List.getElem_mem hj)
    unfold runL
    rw [hL]
    have hlt : lt c = true := by
      simp only [okL, Bool.and_eq_true, List.all_eq_true] at h
      exact h.2 c hc
    simp [oneB, okL, hlt]
    rfl
  have h2 : ∀ j (hj : j < (rsK s.data.toList s.data.toList.length).length), runC (rsK s.data.toList s.data.toList.length)[j] = true := fun j hj => decide_eq_true (hg.cnt _ (List.getElem_mem hj))
  have h3 : ∀ j (hj : j < (rsK s.data.toList s.data.toList.length).length), 0 < j → ((rsK s.data.toList s.data.toList.length)[j].L.toList == (rsK s.data.toList s.data.toList.length)[j - 1].L.toList) = false := fun j hj h0 => by
    rw [beq_eq_false_iff_ne, ByteArray.toList_eq, ByteArray.toList_eq]
    intro e
    have := hg.adj (j - 1) (rsK s.data.toList s.data.toList.length)[j - 1].L (rsK s.data.toList s.data.toList.length)[j].L (by rw [List.getElem?_map, List.getElem?_eq_getElem (by omega)]; rfl) (by rw [show j - 1 + 1 = j from by omega, List.getElem?_map, List.getElem?_eq_getElem hj]; rfl)
    exact this (ByteArray.ext (Array.toList_inj.1 e))
  unfold ruA
  rw [if_pos (ruF_none h1 h2 h3), hg.tot, if_pos (by omega), hg.word, List.take_length]
end Wd
end Go.Proofs.Ytlgpleeanmeenaa
