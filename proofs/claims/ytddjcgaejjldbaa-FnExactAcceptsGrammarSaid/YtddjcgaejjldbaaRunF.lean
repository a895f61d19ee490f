/-
  Walks: the walk's end, impl.RunGrammar.
-/
import Derived.Test.YtddjcgaejjldbaaRunE
namespace Go.Proofs.Ytddjcgaejjldbaa
open Go.RowKit
open Wd
set_option linter.unusedVariables false
set_option maxRecDepth 100000 in
set_option maxHeartbeats 3200000 in
theorem end_any (wv gv : Value) (gs : List Rl) (nx : List (List Int)) (s : Int) (lo : Nat) (w : World) (hok : gOk gs = true) (hr : Rules w gv gs) (hW : IsW w lo wv gv gs nx s) (hs : 0 ≤ s ∧ s < 24) :
    Calls Try.prog 95 #[wv] w fun e w' => e = .returned (.int .i64 (endS nx gs s)) ∧ Below w.heap.size w w' := by
  have HA := Lib.hid (fun W (hb : Below w.heap.size w W) => after_full wv gv gs nx s lo W hok (hr.kept hb) (hW.kept hb) hs)
  obtain ⟨A2, c2, A3, c3, hwv⟩ := hW.shape
  obtain ⟨lv, mv, hwv2, h2, h3⟩ := hW
  rw [hwv] at hwv2
  injection hwv2 with hwv2
  injection hwv2 with hwv2
  injection hwv2 with _ hwv2
  injection hwv2 with hl hwv2
  subst hwv
  subst hl
  obtain ⟨Ag, cg, rfl, hRx⟩ := hr
  have HWL := Lib.hid (fun W (hb : Below w.heap.size w W) => wordLen_any _ (lens gs) (by rw [lens_len]; exact gOk_len hok) W ((IsL.of_own h2).kept hb))
  have hwl : (lens gs).getD ((lens gs).length - 1) 0 = wordLen gs := by rw [lens_len]; rfl
  have hb := (Below.refl _ w).alloc (Nat.le_refl _) (.cells #[.slice Ag gs.length cg, .slice A2 (lens gs).length c2, .slice A3 gs.length c3, .int .i64 s] 122)
  have hP : B4 (w.alloc (.cells #[.slice Ag gs.length cg, .slice A2 (lens gs).length c2, .slice A3 gs.length c3, .int .i64 s] 122)) w.heap.size _ _ _ _ _ := B4.new w _ _ _ _ _
  rw [hwl] at HWL
  have HB := Lib.hid hb
  have HP := Lib.hid hP
  obtain ⟨⟨p0, p1, p2, p3⟩, _⟩ := blk4_cells hP
  generalize endS nx gs s = z at *
  generalize wordLen gs = n at *
  clear hok hs hRx h2 h3 hwv2 hwl
  go_enter Try.func95, Try.ntmps95
  go_upto_region 1 with fail
  generalize w.alloc (.cells #[.slice Ag gs.length cg, .slice A2 (lens gs).length c2, .slice A3 gs.length c3, .int .i64 s] 122) = w1 at *
  have HC1 := Lib.hid (And.intro p0 (And.intro p1 (And.intro p2 p3)))
  have HWL1 := Lib.hid (fun m => HWL.out (w1.drewN m) (below_drewN HB.out m))
  have HA1 := Lib.hid (fun m => HA.out (w1.drewN m) (below_drewN HB.out m))
  clear hb hP
  go_region_held3 (fun w' => w'.cell? ⟨w.heap.size, 0, none⟩ = some (.slice Ag gs.length cg) ∧ w'.cell? ⟨w.heap.size, 1, none⟩ = some (.slice A2 (lens gs).length c2) ∧ w'.cell? ⟨w.heap.size, 2, none⟩ = some (.slice A3 gs.length c3) ∧ w'.cell? ⟨w.heap.size, 3, none⟩ = some (.int .i64 s))
    (first | go_keep | exact HC1.out | exact HC9.out)
    (first
      | (go_at_call 101
         refine (HWL1.out _).mono ?_
         rintro e w8 ⟨rfl, rfl⟩)
      | (go_at_call 102
         refine (HA1.out _).mono ?_
         rintro e w9 ⟨rfl, hB9⟩
         have hB9 := below_undrew hB9
         have HB9 := Lib.hid (HB.out.trans (hB9.mono HB.out.size))
         have HC9 := Lib.hid (blk4_cells (HP.out.kept hB9)).1
         clear hB9))
  all_goals
    clear p0 p1 p2 p3
    go_wp2_with fail
    go_ret
    exact ⟨rfl, HB9.out⟩
set_option maxRecDepth 100000 in
set_option maxHeartbeats 3200000 in
theorem implRunGrammar (av : Value) (x : Au) (s : Int) (gv : Value) (gs : List Rl) (w : World) (hf : FewA x) (hx : IsAu w av x) (hfr : FewR gs) (hr : Rules w gv gs) :
    Calls Try.prog 36 #[av, .int .i64 s, .agg #[gv]] w fun e w' => e = .returned (.tuple #[.int .i64 (runG x s gs).1, .int .i64 (runG x s gs).2]) ∧ Below w.heap.size w w' := by
  have HIS := Lib.hid (fun W (hb : Below w.heap.size w W) => hx.kept hb)
  have HRU := Lib.hid (fun W (hb : Below w.heap.size w W) => hr.kept hb)
  obtain ⟨st, go, fin, nx⟩ := x
  obtain ⟨f, n, rfl, hF, hN⟩ := hx
  simp only at hF hN
  have hb : Below w.heap.size w ((w.alloc (.cells #[.int .i64 st, .int .i64 go, f, n] 39)).alloc (.cells #[gv] 58)) := ((Below.refl _ w).alloc (Nat.le_refl _) _).alloc (by simp) _
  have hP : B4 ((w.alloc (.cells #[.int .i64 st, .int .i64 go, f, n] 39)).alloc (.cells #[gv] 58)) w.heap.size (.int .i64 st) (.int .i64 go) f n 39 := (B4.new w _ _ _ _ _).alloc _
  have hg : ((w.alloc (.cells #[.int .i64 st, .int .i64 go, f, n] 39)).alloc (.cells #[gv] 58)).cell? ⟨w.heap.size + 1, 0, none⟩ = some gv := by
    have := cell_new (w.alloc (.cells #[.int .i64 st, .int .i64 go, f, n] 39)) gv 58
    rwa [show (w.alloc (.cells #[.int .i64 st, .int .i64 go, f, n] 39)).heap.size = w.heap.size + 1 from by simp] at this
  have HWO := Lib.hid (walkOfAuto_any _ ⟨st, go, fin, nx⟩ gv gs _ hf (HIS.out _ hb) hfr (HRU.out _ hb))
  have HB := Lib.hid hb
  have HP := Lib.hid hP
  have HI := Lib.hid (fun W => isOf_any s st W)
  obtain ⟨Af, cf, rfl⟩ := hF.shape
  obtain ⟨An, cn, rfl, hNx⟩ := hN
  obtain ⟨Ag, cg, rfl, hRx⟩ := hr
  obtain ⟨⟨p0, p1, p2, p3⟩, _⟩ := blk4_cells hP
  clear hb hP hF hNx hRx
  unfold runG
  cases hall : (aOk ⟨st, go, fin, nx⟩ && gOk gs)
  · rw [hall] at HWO
    rw [if_neg (by intro h; rw [h.1, h.2] at hall; cases hall)]
    clear hall
    go_enter Try.func36, Try.ntmps36
    go_wp2_with fail
    refine HWO.out.mono ?_
    rintro e w3 ⟨wv, rfl, _, hz, hB3⟩
    have hz := hz trivial
    subst hz
    have HB3 := Lib.hid (HB.out.trans (hB3.mono HB.out.size))
    unfold zeroW
    clear hB3
    go_wp2_with fail
    go_ret2
    exact ⟨rfl, HB3.out.alloc HB3.out.size _⟩
  · rw [hall] at HWO
    rw [Bool.and_eq_true] at hall
    rw [if_pos hall]
    obtain ⟨⟨h1, h24⟩, hrow, hlen⟩ := aOk_parts hall.1
    simp only at h1 h24
    by_cases hs : 0 ≤ s ∧ s < st
    · rw [if_pos hs]
      rw [decide_eq_true hs] at HI
      have HE := Lib.hid (fun W wv lo (hb : Below w.heap.size w W) hW => end_any wv (.slice Ag gs.length cg) gs nx s lo W hall.2 (HRU.out W hb) hW (by omega))
      clear hall hrow hlen hs
      go_enter Try.func36, Try.ntmps36
      go_wp2_with fail
      refine HWO.out.mono ?_
      rintro e w3 ⟨wv, rfl, hyes, _, hB3⟩
      have hw3 := hyes trivial
      have HB3 := Lib.hid (HB.out.trans (hB3.mono HB.out.size))
      have HP3 := Lib.hid (HP.out.kept hB3)
      have HW3 := Lib.hid hw3
      obtain ⟨A2, c2, A3, c3, rfl⟩ := hw3.shape
      clear hyes hw3 hB3 p0 p1 p2 p3 hg
      obtain ⟨⟨p0, p1, p2, p3⟩, _⟩ := blk4_cells HP3.out
      have hPl : w.heap.size < w3.heap.size := HP3.out.lt
      have hb4 := (Below.refl _ w3).alloc (Nat.le_refl _) (.cells #[.slice Ag gs.length cg, .slice A2 (lens gs).length c2, .slice A3 gs.length c3, .int .i64 s] 122)
      have HW4 : Hid (IsW (w3.alloc (.cells #[.slice Ag gs.length cg, .slice A2 (lens gs).length c2, .slice A3 gs.length c3, .int .i64 s] 122)) _ (.agg #[.slice Ag gs.length cg, .slice A2 (lens gs).length c2, .slice A3 gs.length c3, .int .i64 s]) (.slice Ag gs.length cg) gs nx s) := Lib.hid (by
        obtain ⟨lv, mv, hv, h2, h3⟩ := HW3.out.kept hb4
        injection hv with hv
        injection hv with hv
        injection hv with _ hv
        injection hv with hl hv
        injection hv with hm hv
        subst hl hm
        exact ⟨_, _, rfl, h2, h3⟩)
      have HB4 := Lib.hid (HB3.out.trans (hb4.mono HB3.out.size))
      clear hb4
      go_wp2_with fail
      refine (HI.out _).mono ?_
      rintro e w5 ⟨rfl, rfl⟩
      go_wp2_with fail
      refine (HE.out _ _ _ HB4.out HW4.out).mono ?_
      rintro e w6 ⟨rfl, hB6⟩
      have HB6 := Lib.hid (HB4.out.trans (hB6.mono HB4.out.size))
      clear hB6 hPl
      go_wp2_with fail
      go_ret2
      exact ⟨rfl, HB6.out⟩
    · rw [if_neg hs]
      rw [decide_eq_false hs] at HI
      clear hall hrow hlen hs
      go_enter Try.func36, Try.ntmps36
      go_wp2_with fail
      refine HWO.out.mono ?_
      rintro e w3 ⟨wv, rfl, hyes, _, hB3⟩
      have hw3 := hyes trivial
      have HB3 := Lib.hid (HB.out.trans (hB3.mono HB.out.size))
      have HP3 := Lib.hid (HP.out.kept hB3)
      obtain ⟨A2, c2, A3, c3, rfl⟩ := hw3.shape
      clear hyes hw3 hB3 p0 p1 p2 p3 hg
      obtain ⟨⟨p0, p1, p2, p3⟩, _⟩ := blk4_cells HP3.out
      have hPl : w.heap.size < w3.heap.size := HP3.out.lt
      have HB4 := Lib.hid (HB3.out.alloc HB3.out.size (.cells #[.slice Ag gs.length cg, .slice A2 (lens gs).length c2, .slice A3 gs.length c3, .int .i64 s] 122))
      go_wp2_with fail
      refine (HI.out _).mono ?_
      rintro e w5 ⟨rfl, rfl⟩
      clear hPl
      go_wp2_with fail
      go_ret2
      exact ⟨rfl, HB4.out⟩
end Go.Proofs.Ytddjcgaejjldbaa
