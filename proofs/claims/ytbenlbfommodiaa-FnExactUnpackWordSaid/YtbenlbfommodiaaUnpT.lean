/-
  Walks: spec.UnpackPart, spec.UnpackWord, impl.UnpackWord; UnpackPart's contracts as the law asks them.
-/
import Derived.Test.YtbenlbfommodiaaUnpJ
import Derived.Test.YtbenlbfommodiaaUnpS
import Derived.Deep.RegionHeld3
namespace Go.Proofs.Ytbenlbfommodiaa
open Go.RowKit
open Wd
set_option linter.unusedVariables false

set_option maxRecDepth 100000 in
set_option maxHeartbeats 1600000 in
theorem specUnpackPart0 (v : Value) (gs : List Rl) (i j : Int) (w : World) (hf : FewR gs) (hr : Rules w v gs) :
    Calls Try.prog 29 #[.agg #[v], .int .i64 i, .int .i64 j] w fun e w' => e = .returned (.tuple #[.string (strUnpackPart gs i j).1, .int .i64 (strUnpackPart gs i j).2]) ∧ Below w.heap.size w w' := by
  have hg := rules_gpT hr 45
  have h1 := l02Part_any w.heap.size gs i j _ hf hg
  have HG := Lib.hid hg
  obtain ⟨A, c, rfl, _⟩ := hr
  have HB := Lib.hid ((Below.refl _ w).alloc (Nat.le_refl _) (.cells #[.slice A gs.length c] 45))
  have hwl : (lens gs).getD (gs.length - 1) 0 = wordLen gs := rfl
  unfold partC at h1
  unfold strUnpackPart
  rw [hwl]
  cases hok : gOk gs
  · rw [hok, if_neg (by simp)] at h1
    have H1 := Lib.hid h1
    clear h1 hok hg hwl
    go_enter Try.func29, Try.ntmps29
    go_wp2_with fail
    refine H1.out.mono ?_
    rintro e w1 ⟨rfl, hB1⟩
    have HB1 := Lib.hid (HB.out.trans (hB1.mono (by simp)))
    clear hB1
    go_wp2_with fail
    go_ret2
    exact ⟨rfl, HB1.out⟩
  · rw [hok, if_pos rfl] at h1
    rw [if_pos rfl]
    cases hp : inPartS i j (wordLen gs)
    · rw [hp, if_neg (by simp)] at h1
      rw [if_neg (fun h => by have := inPart_iff.2 h; rw [show inPart i j (wordLen gs) = inPartS i j (wordLen gs) from rfl, hp] at this; cases this)]
      have H1 := Lib.hid h1
      clear h1 hok hg hwl hp
      go_enter Try.func29, Try.ntmps29
      go_wp2_with fail
      refine H1.out.mono ?_
      rintro e w1 ⟨rfl, hB1⟩
      have HB1 := Lib.hid (HB.out.trans (hB1.mono (by simp)))
      clear hB1
      go_wp2_with fail
      go_ret2
      exact ⟨rfl, HB1.out⟩
    · rw [hp, if_pos rfl] at h1
      have hp' : 0 ≤ i ∧ i ≤ j ∧ j ≤ wordLen gs := inPart_iff.1 hp
      have hwb := wordLen_bd' hok
      rw [if_pos hp']
      have H1 := Lib.hid h1
      by_cases hl : 2000 < j - i
      · rw [if_pos hl]
        clear h1 hok hg hwl hp
        go_enter Try.func29, Try.ntmps29
        go_wp2_with fail
        refine H1.out.mono ?_
        rintro e w1 ⟨rfl, hB1⟩
        have HB1 := Lib.hid (HB.out.trans (hB1.mono (by simp)))
        clear hB1
        go_wp2_with fail
        go_ret2
        exact ⟨rfl, HB1.out⟩
      · rw [if_neg hl]
        have hpl : ((partW gs i j).length : Int) = j - i := by
          rcases Nat.eq_zero_or_pos gs.length with h0 | h0
          · have h9 := wordLen_zero h0
            have : (partW gs i j).length = 0 := by
              unfold partW
              rw [List.length_drop, List.length_take]; omega
            omega
          · exact partW_len hok h0 (by rw [hwl]; exact hp')
        have HU := Lib.hid (fun W hG => l02Unpack_any w.heap.size gs i j W hf hG hok hp'.1 hp'.2.1 hp'.2.2 (by omega) hwb.2 hpl)
        clear h1 hok hg hwl hp hpl
        go_enter Try.func29, Try.ntmps29
        go_wp2_with fail
        refine H1.out.mono ?_
        rintro e w1 ⟨rfl, hB1⟩
        have HG1 := Lib.hid (HG.out.kept hB1)
        have HB1 := Lib.hid (HB.out.trans (hB1.mono (by simp)))
        clear hB1
        go_wp2_with fail
        refine (HU.out _ HG1.out).mono ?_
        rintro e w2 ⟨rfl, hB2⟩
        have HB2 := Lib.hid (HB1.out.trans (hB2.mono HB1.out.size))
        clear hB2
        go_wp2_with fail
        go_ret2
        exact ⟨rfl, HB2.out⟩
theorem specUnpackPart (v : Value) (gs : List Rl) (i j : Int) (w : World) (hf : FewR gs) (hr : Rules w v gs) (b1 : -9223372036854775808 ≤ i ∧ i ≤ 9223372036854775807) (b2 : -9223372036854775808 ≤ j ∧ j ≤ 9223372036854775807) :
    Calls Try.prog 29 #[.agg #[v], .int .i64 i, .int .i64 j] w fun e w' => e = .returned (.tuple #[.string (strUnpackPart gs i j).1, .int .i64 (strUnpackPart gs i j).2]) ∧ Below w.heap.size w w' := specUnpackPart0 v gs i j w hf hr

/-- the answer of UnpackWord -/
def strUnpackWord (gs : List Rl) : ByteArray × Int := if gOk gs then strUnpackPart gs 0 (wordLen gs) else (⟨#[]⟩, 1)
theorem strWord_ok {gs : List Rl} (hok : gOk gs = true) : strUnpackWord gs = if 2000 < wordLen gs then (⟨#[]⟩, 3) else (⟨(partW gs 0 (wordLen gs)).toArray⟩, 0) := by
  have hwb := wordLen_bd' hok
  unfold strUnpackWord strUnpackPart
  rw [hok, if_pos rfl, if_pos rfl, if_pos ⟨by omega, hwb.1, Int.le_refl _⟩, Int.sub_zero]

set_option maxRecDepth 100000 in
set_option maxHeartbeats 1600000 in
theorem specUnpackWord (v : Value) (gs : List Rl) (w : World) (hf : FewR gs) (hr : Rules w v gs) :
    Calls Try.prog 33 #[.agg #[v]] w fun e w' => e = .returned (.tuple #[.string (strUnpackWord gs).1, .int .i64 (strUnpackWord gs).2]) ∧ Below w.heap.size w w' := by
  have hg := rules_gpT hr 45
  have h1 := l02Ok_any w.heap.size gs _ hf hg
  have H2 := Lib.hid (fun W (hW : GP W w.heap.size gs) hok => l02Length_any w.heap.size gs W hf hW hok)
  have HG := Lib.hid hg
  obtain ⟨A, c, rfl, _⟩ := hr
  have HB := Lib.hid ((Below.refl _ w).alloc (Nat.le_refl _) (.cells #[.slice A gs.length c] 45))
  cases hok : gOk gs
  · rw [show strUnpackWord gs = (⟨#[]⟩, 1) from by unfold strUnpackWord; rw [hok]; rfl]
    rw [hok] at h1
    have H1 := Lib.hid h1
    clear h1 hok hg
    go_enter Try.func33, Try.ntmps33
    go_wp2_with fail
    refine H1.out.mono ?_
    rintro e w1 ⟨rfl, hB1⟩
    have HB1 := Lib.hid (HB.out.trans (hB1.mono (by simp)))
    clear hB1
    go_wp2_with fail
    go_ret2
    exact ⟨rfl, HB1.out⟩
  · rw [strWord_ok hok]
    rw [hok] at h1
    have H1 := Lib.hid h1
    have HFS := Lib.hid (gOk_fs hok)
    have hwb := wordLen_bd' hok
    by_cases hl : 2000 < wordLen gs
    · rw [if_pos hl]
      generalize wordLen gs = wl at *
      clear h1 hok hg
      go_enter Try.func33, Try.ntmps33
      go_wp2_with fail
      refine H1.out.mono ?_
      rintro e w1 ⟨rfl, hB1⟩
      have HG1 := Lib.hid (HG.out.kept hB1)
      have HB1 := Lib.hid (HB.out.trans (hB1.mono (by simp)))
      clear hB1
      go_wp2_with fail
      refine (H2.out _ HG1.out HFS.out).mono ?_
      rintro e w2 ⟨rfl, hB2⟩
      have HB2 := Lib.hid (HB1.out.trans (hB2.mono HB1.out.size))
      clear hB2
      go_wp2_with fail
      go_ret2
      exact ⟨rfl, HB2.out⟩
    · rw [if_neg hl]
      have hpl : ((partW gs 0 (wordLen gs)).length : Int) = wordLen gs - 0 := by
        rcases Nat.eq_zero_or_pos gs.length with h0 | h0
        · have h9 := wordLen_zero h0
          have : (partW gs 0 (wordLen gs)).length = 0 := by
            unfold partW
            rw [List.length_drop, List.length_take]; omega
          omega
        · exact partW_len hok h0 ⟨Int.le_refl _, hwb.1, Int.le_refl _⟩
      have HU := Lib.hid (fun W hG => l02Unpack_any w.heap.size gs 0 (wordLen gs) W hf hG hok (Int.le_refl _) hwb.1 (Int.le_refl _) (by omega) hwb.2 hpl)
      generalize wordLen gs = wl at *
      clear h1 hok hg hpl
      go_enter Try.func33, Try.ntmps33
      go_wp2_with fail
      refine H1.out.mono ?_
      rintro e w1 ⟨rfl, hB1⟩
      have HG1 := Lib.hid (HG.out.kept hB1)
      have HB1 := Lib.hid (HB.out.trans (hB1.mono (by simp)))
      clear hB1
      go_wp2_with fail
      refine (H2.out _ HG1.out HFS.out).mono ?_
      rintro e w2 ⟨rfl, hB2⟩
      have HG2 := Lib.hid (HG1.out.kept hB2)
      have HB2 := Lib.hid (HB1.out.trans (hB2.mono HB1.out.size))
      clear hB2
      go_wp2_with fail
      refine (HU.out _ HG2.out).mono ?_
      rintro e w3 ⟨rfl, hB3⟩
      have HB3 := Lib.hid (HB2.out.trans (hB3.mono HB2.out.size))
      clear hB3
      go_wp2_with fail
      go_ret2
      exact ⟨rfl, HB3.out⟩

set_option maxRecDepth 100000 in
set_option maxHeartbeats 3200000 in
theorem implUnpackWord (v : Value) (gs : List Rl) (w : World) (hf : FewR gs) (hr : Rules w v gs) :
    Calls Try.prog 34 #[.agg #[v]] w fun e w' => e = .returned (.tuple #[.string (strUnpackWord gs).1, .int .i64 (strUnpackWord gs).2]) ∧ Below w.heap.size w w' := by
  have hb := (Below.refl _ w).alloc (Nat.le_refl _) (.cells #[v] 45)
  have h1 := len.vlen_any v gs _ hf (hr.kept hb)
  unfold LensPost at h1
  have HR := Lib.hid hr
  have HB := Lib.hid hb
  have hn := hf.len
  have HU := Lib.hid (fun W n hR => implUnpackPart v gs 0 n W hf hR)
  have HWL := Lib.hid (fun x B W (hx : OwnsI W B x (lens gs)) => wordLength_any x gs B W hn hx)
  have HC := Lib.hid (cell_new w v 45)
  obtain ⟨A, c, rfl, _⟩ := hr
  unfold strUnpackWord
  cases hok : gOk gs
  · rw [hok] at h1
    have H1 := Lib.hid h1
    clear h1 hok hb
    go_enter Try.func34, Try.ntmps34
    go_wp2_with fail
    refine H1.out.mono ?_
    rintro e w1 ⟨x, rfl, _, hB1⟩
    have HB1 := Lib.hid (HB.out.trans (hB1.mono (by simp)))
    clear hB1
    go_wp2_with fail
    go_ret2
    exact ⟨rfl, HB1.out⟩
  · rw [if_pos rfl]
    rw [hok] at h1
    have H1 := Lib.hid h1
    generalize wordLen gs = wl at *
    clear h1 hok hb
    go_enter Try.func34, Try.ntmps34
    go_wp2_with fail
    refine H1.out.mono ?_
    rintro e w1 ⟨x, rfl, ho, hB1⟩
    have HB1 := Lib.hid (HB.out.trans (hB1.mono (by simp)))
    have HC1 := Lib.hid ((hB1.cell (p := ⟨w.heap.size, 0, none⟩) (by simp)).trans HC.out)
    have HO := Lib.hid (ho trivial)
    have hc1 := HC1.out
    obtain ⟨Ax, cx, rfl⟩ := own_slice HO.out
    have HLW : Hid (∀ m, Calls Try.prog 78 #[.slice Ax (lens gs).length cx] (w1.drewN m) fun e w' => e = .returned (.int .i64 wl) ∧ w' = w1.drewN m) := Lib.hid (fun m => (HWL.out _ _ (w1.drewN m) HO.out).mono fun e w' h => ⟨h.1, h.2.symm⟩)
    have HU1 := Lib.hid (fun m => HU.out (w1.drewN m) wl (HR.out.kept (below_drewN HB1.out m)))
    clear hB1 ho
    go_wp2_with fail
    go_region_held3 (fun w' => w'.cell? ⟨w.heap.size, 0, none⟩ = some (.slice A gs.length c)) (first | go_keep | exact HC1.out | exact HC3.out)
      (first
        | (go_at_call 78; refine (HLW.out _).mono ?_; rintro e w2 ⟨rfl, rfl⟩)
        | (go_at_call 31; refine (HU1.out _).mono ?_; rintro e w3 ⟨rfl, hB3⟩; have HC3 := Lib.hid (((below_undrew hB3).cell (p := ⟨w.heap.size, 0, none⟩) (lt_of_cell HC1.out)).trans HC1.out); have HB3 := Lib.hid (HB1.out.trans ((below_undrew hB3).mono HB1.out.size))))
    go_wp2_with fail
    go_ret2
    exact ⟨rfl, HB3.out⟩
theorem implUnpackPart' (v : Value) (gs : List Rl) (i j : Int) (w : World) (hf : FewR gs) (hr : Rules w v gs) (b1 : -9223372036854775808 ≤ i ∧ i ≤ 9223372036854775807) (b2 : -9223372036854775808 ≤ j ∧ j ≤ 9223372036854775807) :
    Calls Try.prog 31 #[.agg #[v], .int .i64 i, .int .i64 j] w fun e w' => e = .returned (.tuple #[.string (strUnpackPart gs i j).1, .int .i64 (strUnpackPart gs i j).2]) ∧ Below w.heap.size w w' := implUnpackPart v gs i j w hf hr
end Go.Proofs.Ytbenlbfommodiaa
