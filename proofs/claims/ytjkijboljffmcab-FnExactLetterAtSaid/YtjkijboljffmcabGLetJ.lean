/-
  Walk: impl.LetterAt at every place.
-/
import Derived.Test.YtjkijboljffmcabGLetI
namespace Go.Proofs.Ytjkijboljffmcab
open Go.RowKit
open Wd
set_option linter.unusedVariables false

set_option maxHeartbeats 1600000 in
theorem implLetterAt (v : Value) (gs : List Rl) (i : Int) (w : World) (hf : FewR gs) (hr : Rules w v gs) (hbd : -9223372036854775808 ≤ i ∧ i ≤ 9223372036854775807) :
    Calls Try.prog 30 #[.agg #[v], .int .i64 i] w fun e w' => e = .returned (.tuple #[.string (letAns gs i).1, .int .i64 (letAns gs i).2]) ∧ Below w.heap.size w w' := by
  have hr0 := hr
  obtain ⟨A, c, rfl, _⟩ := hr
  have hb := (Below.refl _ w).alloc (Nat.le_refl _) (.cells #[.slice A gs.length c] 29)
  have h1 := len.vlen_any (.slice A gs.length c) gs _ hf (hr0.kept hb)
  have HB := Lib.hid hb
  have hn := hf.len
  unfold LensPost at h1
  cases hok : gOk gs
  · rw [letAns_bad hok]
    rw [hok] at h1
    have H1 := Lib.hid h1
    clear h1 hb hok hr0
    go_enter Try.func30, Try.ntmps30
    go_wp2_with fail
    refine H1.out.mono ?_
    rintro e w1 ⟨x, rfl, _, hB1⟩
    have HB1 := Lib.hid (HB.out.trans (hB1.mono (by simp)))
    clear hB1
    go_wp2_with fail
    go_ret2
    exact ⟨rfl, HB1.out⟩
  · by_cases hin : 0 ≤ i ∧ i < wordLen gs
    · obtain ⟨m, hm⟩ : ∃ m, gs.length = m + 1 := ⟨gs.length - 1, by
        rcases Nat.eq_zero_or_pos gs.length with h0 | h0
        · rw [wordLen_zero h0] at hin; omega
        · omega⟩
      exact implLetterAt_in A c m gs i w hf hr0 hok hin hm
    · rw [letAns_out hok hin]
      rw [hok] at h1
      have H1 := Lib.hid h1
      have HWLEN := Lib.hid (fun x B W (hx : OwnsI W B x (lens gs)) => wordLength_any x gs B W hn hx)
      by_cases hneg : i < 0
      · clear h1 hb hok hr0 hin
        go_enter Try.func30, Try.ntmps30
        go_wp2_with fail
        refine H1.out.mono ?_
        rintro e w1 ⟨x, rfl, _, hB1⟩
        have HB1 := Lib.hid (HB.out.trans (hB1.mono (by simp)))
        clear hB1
        go_wp2_with fail
        go_ret2
        exact ⟨rfl, HB1.out⟩
      · have hge : wordLen gs ≤ i := by omega
        generalize wordLen gs = wl at *
        clear h1 hb hok hr0 hin
        go_enter Try.func30, Try.ntmps30
        go_wp2_with fail
        refine H1.out.mono ?_
        rintro e w1 ⟨x, rfl, ho, hB1⟩
        have HO := Lib.hid (ho trivial)
        have HB1 := Lib.hid (HB.out.trans (hB1.mono (by simp)))
        clear hB1 ho
        go_wp2_with fail
        refine (HWLEN.out x _ _ HO.out).mono ?_
        rintro e w2 ⟨rfl, rfl⟩
        go_wp2_with fail
        go_ret2
        exact ⟨rfl, HB1.out⟩
end Go.Proofs.Ytjkijboljffmcab
