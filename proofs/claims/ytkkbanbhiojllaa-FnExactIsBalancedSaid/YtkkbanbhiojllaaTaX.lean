/-
  Walks: spec.l05Letter, impl.isLetter at any text; spec.RankOf.
-/
import Derived.Test.YtkkbanbhiojllaaTaR
import Derived.Test.YtkkbanbhiojllaaGramLen
import Derived.Deep.RegionHeld3
import Derived.Deep.Cut
namespace Go.Proofs.Ytkkbanbhiojllaa
open Go.RowKit
open Wd
set_option linter.unusedVariables false
namespace Wd
/-- is the text a letter? -/
def isL (s : ByteArray) : Bool := decide (s.size = 1) && okL s.data.toList
/-- its number -/
def lNo (s : ByteArray) : Nat := (s.data.toList.headD 97).toNat - 97
theorem isL_byte {s : ByteArray} (h : isL s = true) : ∃ c : UInt8, s = ⟨#[c]⟩ ∧ 97 ≤ (c.toNat : Int) ∧ (c.toNat : Int) ≤ 100 ∧ lNo s = c.toNat - 97 := by
  unfold isL at h
  rw [Bool.and_eq_true, decide_eq_true_iff] at h
  obtain ⟨h1, h2⟩ := h
  obtain ⟨⟨l⟩⟩ := s
  match l, h1 with
  | [c], _ =>
    have h3 := of_lt (okL_at h2 (i := 0) (by simp))
    exact ⟨c, rfl, by simpa using h3.1, by simpa using h3.2, rfl⟩
theorem lNo_lt {s : ByteArray} (h : isL s = true) : lNo s < 4 := by
  obtain ⟨c, _, h1, h2, h3⟩ := isL_byte h
  omega
/-- how many of the first letters are a letter -/
def rankG (gs : List Rl) (s : ByteArray) (n : Int) : Int × Int :=
  if gOk gs = true ∧ isL s = true then (if 0 ≤ n ∧ n ≤ wordLen gs then (rankF gs (taAt gs) (lNo s) gs.length (gs.length - 1) n, 0) else (0, 2)) else (0, 1)
end Wd
theorem isLetter_all (s : ByteArray) (w : World) (hs : s.size ≤ maxLen) :
    Calls Try.prog 53 #[.string s] w fun e w' => e = .returned (.bool (isL s)) ∧ w = w' := by
  unfold maxLen at hs
  by_cases h1 : s.size = 1
  · exact (isLetter_any s (by omega) w).mono fun e w' he => he
  · have hz : ((s.size : Int) == 1) = false := by rw [beq_eq_false_iff_ne]; omega
    have H1 := Lib.hid h1
    clear h1
    go_enter Try.func53, Try.ntmps53
    go_wp2
    go_ret
    exact ⟨ret_bool (by unfold isL; simp [H1.out]), rfl⟩
theorem l05Letter_any (s : ByteArray) (w : World) (hs : s.size ≤ maxLen) :
    Calls Try.prog 50 #[.string s] w fun e w' => e = .returned (.bool (isL s)) ∧ w = w' := by
  have c1 := fun W => specOk s W hs
  have hx : isL s = (decide (s.size = 1) && okL s.data.toList) := rfl
  unfold maxLen at hs
  by_cases h1 : s.size = 1
  · have hz : ((s.size : Int) == 1) = true := by rw [beq_iff_eq]; omega
    generalize okL s.data.toList = b at c1 hx
    have HX := Lib.hid hx
    have C1 := Lib.hid c1
    have H1 := Lib.hid h1
    clear hx c1 h1
    go_enter Try.func50, Try.ntmps50
    go_wp2_with fail
    refine (C1.out _).mono ?_
    rintro e w' ⟨rfl, rfl⟩
    go_wp2_with fail
    go_ret
    exact ⟨ret_bool (by rw [HX.out]; simp [H1.out]), rfl⟩
  · have hz : ((s.size : Int) == 1) = false := by rw [beq_eq_false_iff_ne]; omega
    have HX := Lib.hid hx
    have H1 := Lib.hid h1
    clear hx c1 h1
    go_enter Try.func50, Try.ntmps50
    go_wp2_with fail
    go_ret
    exact ⟨ret_bool (by rw [HX.out]; simp [H1.out]), rfl⟩
theorem sLetter_any (c : UInt8) (h1 : 97 ≤ (c.toNat : Int)) (h2 : (c.toNat : Int) ≤ 100) (W : World) :
    Calls Try.prog 51 #[.int .u8 ((((⟨#[c]⟩ : ByteArray)[0]'(Nat.zero_lt_one)).toNat : Nat) : Int)] W fun e w' => e = .returned (.int .i64 ((c.toNat - 97 : Nat) : Int)) ∧ w' = W := by
  show Calls Try.prog 51 #[.int .u8 ((c.toNat : Nat) : Int)] W _
  have := letterN_any (c.toNat - 97) (by omega) W
  rwa [show 97 + (c.toNat - 97) = c.toNat from by omega] at this
set_option maxRecDepth 100000 in
set_option maxHeartbeats 3200000 in
theorem specRankOf (v : Value) (gs : List Rl) (s : ByteArray) (n : Int) (w : World) (hf : FewR gs) (hr : Rules w v gs) (hs : s.size ≤ maxLen) (hn : -9223372036854775808 ≤ n ∧ n ≤ 9223372036854775807) :
    Calls Try.prog 32 #[.agg #[v], .string s, .int .i64 n] w fun e w' => e = .returned (.tuple #[.int .i64 (rankG gs s n).1, .int .i64 (rankG gs s n).2]) ∧ Below w.heap.size w w' := by
  have hg := rules_gpT hr 33
  have h1 := l02Ok_any w.heap.size gs _ hf hg
  have HG := Lib.hid hg
  have hb := (Below.refl _ w).alloc (Nat.le_refl _) (.cells #[v] 33)
  have HLE := Lib.hid (fun W => l05Letter_any s W hs)
  have HIN := Lib.hid (fun W => in_any n 0 (wordLen gs) W)
  obtain ⟨A, c, rfl, _⟩ := hr
  have HB := Lib.hid hb
  have HN := Lib.hid hn
  unfold rankG
  cases hok : gOk gs
  · rw [hok] at h1
    rw [if_neg (by simp)]
    have H1 := Lib.hid h1
    clear h1 hok hg hb hn
    go_enter Try.func32, Try.ntmps32
    go_wp2_with fail
    refine H1.out.mono ?_
    rintro e w1 ⟨rfl, hB1⟩
    have HB1 := Lib.hid (HB.out.trans (hB1.mono (by simp)))
    clear hB1
    go_wp2_with fail
    go_ret2
    exact ⟨rfl, HB1.out⟩
  · rw [hok] at h1
    have H1 := Lib.hid h1
    have HOK := Lib.hid hok
    have hfs : (fits gs && small gs) = true := by rw [(gOk_iff.1 hok).2.1, (gOk_iff.1 hok).2.2]; rfl
    have HLN := Lib.hid (fun W (hW : GP W w.heap.size gs) => l02Length_any w.heap.size gs W hf hW hfs)
    have HLS := Lib.hid (fun W (hW : GP W w.heap.size gs) => lengths_any w.heap.size gs W hf hW)
    cases hl : isL s
    · rw [hl] at HLE
      rw [if_neg (by simp)]
      clear h1 hok hg hl hb hn
      go_enter Try.func32, Try.ntmps32
      go_wp2_with fail
      refine H1.out.mono ?_
      rintro e w1 ⟨rfl, hB1⟩
      have HB1 := Lib.hid (HB.out.trans (hB1.mono (by simp)))
      clear hB1
      go_wp2_with fail
      refine (HLE.out _).mono ?_
      rintro e w2 ⟨rfl, rfl⟩
      go_wp2_with fail
      go_ret2
      exact ⟨rfl, HB1.out⟩
    · rw [hl] at HLE
      rw [if_pos ⟨rfl, rfl⟩]
      obtain ⟨bt, rfl, hb1, hb2, hno⟩ := isL_byte hl
      have HL4 := Lib.hid (fun W => sLetter_any bt hb1 hb2 W)
      have hl4 := lNo_lt hl
      by_cases hin : 0 ≤ n ∧ n ≤ wordLen gs
      · rw [if_pos hin]
        rw [show (decide (0 ≤ n) && decide (n ≤ wordLen gs)) = true from by simp [hin]] at HIN
        have HRK := Lib.hid (fun W lv yv (h : SpT W w.heap.size lv yv gs) => l05Rank_any w.heap.size lv yv gs (lNo ⟨#[bt]⟩) n W hok hl4 hin h)
        have HCT := Lib.hid (fun W (h : GP W w.heap.size gs) => l05Counts_any w.heap.size gs W hok h)
        rw [hno] at HRK hl4 ⊢
        generalize bt.toNat - 97 = l at *
        generalize rankF gs (taAt gs) l gs.length (gs.length - 1) n = R at *
        clear h1 hok hg hl hb hno hin hb1 hb2
        go_enter Try.func32, Try.ntmps32
        go_wp2_with fail
        refine H1.out.mono ?_
        rintro e w1 ⟨rfl, hB1⟩
        have HB1 := Lib.hid (HB.out.trans (hB1.mono (by simp)))
        have HG1 := Lib.hid (HG.out.kept hB1)
        clear hB1
        go_wp2_with fail
        refine (HLE.out _).mono ?_
        rintro e w2 ⟨rfl, rfl⟩
        go_wp2_with fail
        refine (HLN.out _ HG1.out).mono ?_
        rintro e w3 ⟨rfl, hB3⟩
        have HB3 := Lib.hid (HB1.out.trans (hB3.mono HB1.out.size))
        have HG3 := Lib.hid (HG1.out.kept hB3)
        clear hB3
        go_wp2_with fail
        refine (HIN.out _).mono ?_
        rintro e w4 ⟨rfl, rfl⟩
        go_wp2_with fail
        refine (HLS.out _ HG3.out).mono ?_
        rintro e w5 ⟨x, rfl, ho5, hB5⟩
        have ho5 := ho5 HOK.out
        have HB5 := Lib.hid (HB3.out.trans (hB5.mono HB3.out.size))
        have HG5 := Lib.hid (HG3.out.kept hB5)
        have HO5 : Hid (w5.ownsRow w3.heap.size 2 1 x gs.length (iv (lens gs))) := Lib.hid (by unfold OwnsI at ho5; rw [lens_len] at ho5; exact ho5)
        obtain ⟨Ax, cx, rfl⟩ := own_slice ho5
        obtain ⟨gv, hgv, _⟩ := HG5.out
        have HGV := Lib.hid hgv
        have HCM := Lib.hid (fun m => HCT.out (w5.drewN m) (HG5.out.kept (below_drewN (Below.refl _ w5) m)))
        clear hB5 ho5
        go_upto_region 6 with fail
        go_region_held3 (fun w' => w'.cell? ⟨w.heap.size, 0, none⟩ = some gv)
          (first | go_keep | exact HS6.out | exact HS7.out)
          (first
            | (go_at_call 61
               refine (HCM.out _).mono ?_
               rintro e w6 ⟨y, rfl, U, hm, hB6⟩
               have hB6 : Below w5.heap.size w5 w6 := below_undrew hB6
               have HB6 := Lib.hid hB6
               have HS6 := Lib.hid ((hB6.cell (lt_of_cell HGV.out)).trans HGV.out)
               have HSP := Lib.hid (SpT.mk (HG5.out.kept hB6) ⟨_, own_below HO5.out hB6 (Nat.le_refl _)⟩ ⟨_, _, hm⟩)
               clear hm hB6)
            | (go_at_call 51
               refine (HL4.out _).mono ?_
               rintro e w9 ⟨rfl, rfl⟩)
            | (go_at_call 62
               refine (HRK.out _ _ _ HSP.out).mono ?_
               rintro e w7 ⟨rfl, hB7⟩
               have HB7 := Lib.hid (HB6.out.trans (hB7.mono HB6.out.size))
               have HS7 := Lib.hid ((hB7.cell (lt_of_cell HS6.out)).trans HS6.out)
               clear hB7))
        all_goals
          have HB9 := Lib.hid (HB5.out.trans (HB7.out.mono HB5.out.size))
          go_wp2_with fail
          go_ret2
          exact ⟨rfl, HB9.out⟩
      · rw [if_neg hin]
        rw [show (decide (0 ≤ n) && decide (n ≤ wordLen gs)) = false from by rw [← Bool.not_eq_true, Bool.and_eq_true, decide_eq_true_iff, decide_eq_true_iff]; exact hin] at HIN
        clear h1 hok hg hl hb hno hin hb1 hb2 hl4
        go_enter Try.func32, Try.ntmps32
        go_wp2_with fail
        refine H1.out.mono ?_
        rintro e w1 ⟨rfl, hB1⟩
        have HB1 := Lib.hid (HB.out.trans (hB1.mono (by simp)))
        have HG1 := Lib.hid (HG.out.kept hB1)
        clear hB1
        go_wp2_with fail
        refine (HLE.out _).mono ?_
        rintro e w2 ⟨rfl, rfl⟩
        go_wp2_with fail
        refine (HLN.out _ HG1.out).mono ?_
        rintro e w3 ⟨rfl, hB3⟩
        have HB3 := Lib.hid (HB1.out.trans (hB3.mono HB1.out.size))
        clear hB3
        go_wp2_with fail
        refine (HIN.out _).mono ?_
        rintro e w4 ⟨rfl, rfl⟩
        go_wp2_with fail
        go_ret2
        exact ⟨rfl, HB3.out⟩
end Go.Proofs.Ytkkbanbhiojllaa
