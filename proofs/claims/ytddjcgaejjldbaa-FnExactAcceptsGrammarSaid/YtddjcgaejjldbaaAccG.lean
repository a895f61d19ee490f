/-
  Walks: spec.AcceptsGrammar, impl.AcceptsGrammar.
-/
import Derived.Test.YtddjcgaejjldbaaRunF
import Derived.Test.YtddjcgaejjldbaaNotI
import Derived.Deep.RegionLaw
namespace Go.Proofs.Ytddjcgaejjldbaa
open Go.RowKit
open Wd
set_option linter.unusedVariables false
namespace Wd
def accG (x : Au) (gs : List Rl) : Bool × Int := if aOk x = true ∧ gOk gs = true then (hasN x.fin (endS x.nx gs x.go), 0) else (false, 1)
end Wd
theorem aOk_go {x : Au} (h : aOk x = true) : 0 ≤ x.go ∧ x.go < x.st := by
  unfold aOk at h
  simp only [Bool.and_eq_true, decide_eq_true_iff] at h
  have := h.1.1.2
  omega
set_option maxRecDepth 100000 in
set_option maxHeartbeats 3200000 in
theorem specAcceptsGrammar (av : Value) (x : Au) (gv : Value) (gs : List Rl) (w : World) (hf : FewA x) (hx : IsAu w av x) (hfr : FewR gs) (hr : Rules w gv gs) :
    Calls Try.prog 40 #[av, .agg #[gv]] w fun e w' => e = .returned (.tuple #[.bool (accG x gs).1, .int .i64 (accG x gs).2]) ∧ Below w.heap.size w w' := by
  obtain ⟨st, go, fin, nx⟩ := x
  obtain ⟨f, n, rfl, hF, hN⟩ := hx
  simp only at hF hN
  have hb : Below w.heap.size w ((w.alloc (.cells #[.int .i64 st, .int .i64 go, f, n] 39)).alloc (.cells #[gv] 58)) := ((Below.refl _ w).alloc (Nat.le_refl _) _).alloc (by simp) _
  have hP : B4 ((w.alloc (.cells #[.int .i64 st, .int .i64 go, f, n] 39)).alloc (.cells #[gv] 58)) w.heap.size (.int .i64 st) (.int .i64 go) f n 39 := (B4.new w _ _ _ _ _).alloc _
  have hG : GP ((w.alloc (.cells #[.int .i64 st, .int .i64 go, f, n] 39)).alloc (.cells #[gv] 58)) (w.heap.size + 1) gs := by
    have := rules_gpT (hr.kept ((Below.refl _ w).alloc (Nat.le_refl _) (.cells #[.int .i64 st, .int .i64 go, f, n] 39))) 58
    rwa [show (w.alloc (.cells #[.int .i64 st, .int .i64 go, f, n] 39)).heap.size = w.heap.size + 1 from by simp] at this
  have HC := Lib.hid (l04Ok_any w.heap.size f n ⟨st, go, fin, nx⟩ _ hP (hF.kept hb) (hN.kept hb) hf)
  have HG := Lib.hid (fun W h => l02Ok_any (w.heap.size + 1) gs W hfr h)
  have HGP := Lib.hid hG
  have HB := Lib.hid hb
  have HP := Lib.hid hP
  have hff := hf.fin
  have HN := Lib.hid (fun W (hW : Below w.heap.size w W) => hN.kept hW)
  have HF := Lib.hid (fun W (hW : Below w.heap.size w W) => hF.kept hW)
  obtain ⟨Af, cf, rfl⟩ := hF.shape
  obtain ⟨An, cn, rfl, hNx⟩ := hN
  obtain ⟨Ag, cg, rfl, hRx⟩ := hr
  clear hb hP hG hF hNx hRx
  unfold accG
  cases ha : aOk ⟨st, go, fin, nx⟩
  · rw [ha] at HC
    rw [if_neg (by simp)]
    clear ha
    go_enter Try.func40, Try.ntmps40
    go_wp2_with fail
    refine HC.out.mono ?_
    rintro e w3 ⟨rfl, hD⟩
    have HB3 := Lib.hid (HB.out.trans (hD.below _))
    clear hD
    go_wp2_with fail
    go_ret2
    exact ⟨rfl, HB3.out⟩
  · rw [ha] at HC
    obtain ⟨⟨h1, h24⟩, hrow, hlen⟩ := aOk_parts ha
    have hgo := aOk_go ha
    simp only at h1 h24 hrow hlen hgo
    cases hok : gOk gs
    · rw [if_neg (by simp)]
      have HG2 : Hid (∀ W, GP W (w.heap.size + 1) gs → Calls Try.prog 89 #[.pointer (some ⟨w.heap.size + 1, 0, none⟩)] W fun e w' => e = .returned (.bool false) ∧ Below W.heap.size W w') := Lib.hid (fun W h => by have := HG.out W h; rwa [hok] at this)
      clear ha hok hrow hlen
      go_enter Try.func40, Try.ntmps40
      go_wp2_with fail
      refine HC.out.mono ?_
      rintro e w3 ⟨rfl, hD⟩
      have HB3 := Lib.hid (HB.out.trans (hD.below _))
      have HG3 := Lib.hid (HGP.out.kept (hD.below _))
      clear hD
      go_wp2_with fail
      refine (HG2.out _ HG3.out).mono ?_
      rintro e w4 ⟨rfl, hB4⟩
      have HB4 := Lib.hid (HB3.out.trans (hB4.mono HB3.out.size))
      clear hB4
      go_wp2_with fail
      go_ret2
      exact ⟨rfl, HB4.out⟩
    · rw [if_pos ⟨rfl, rfl⟩]
      have HG2 : Hid (∀ W, GP W (w.heap.size + 1) gs → Calls Try.prog 89 #[.pointer (some ⟨w.heap.size + 1, 0, none⟩)] W fun e w' => e = .returned (.bool true) ∧ Below W.heap.size W w') := Lib.hid (fun W h => by have := HG.out W h; rwa [hok] at this)
      have hfit := (gOk_iff.1 hok).2.1
      have hn400 := gOk_len hok
      have HE := Lib.hid (fun W (hb : Below w.heap.size w W) hg => l04End_any _ nx st (w.heap.size + 1) gs go W h1 h24 hrow hlen (HN.out W hb) hfit hn400 hg hgo)
      have HH := Lib.hid (fun W (hb : Below w.heap.size w W) => has_any _ fin (endS nx gs go) W hff (HF.out W hb))
      clear ha hok hrow hlen hfit
      show Calls _ _ _ _ fun e w' => e = .returned (.tuple #[.bool (hasN fin (endS nx gs go)), .int .i64 0]) ∧ Below w.heap.size w w'
      generalize hasN fin (endS nx gs go) = r at *
      generalize endS nx gs go = z at *
      go_enter Try.func40, Try.ntmps40
      go_wp2_with fail
      refine HC.out.mono ?_
      rintro e w3 ⟨rfl, hD⟩
      have HB3 := Lib.hid (HB.out.trans (hD.below _))
      have HG3 := Lib.hid (HGP.out.kept (hD.below _))
      have HP3 := Lib.hid (HP.out.kept (hD.below _))
      clear hD
      go_wp2_with fail
      refine (HG2.out _ HG3.out).mono ?_
      rintro e w4 ⟨rfl, hB4⟩
      have HB4 := Lib.hid (HB3.out.trans (hB4.mono HB3.out.size))
      have HP4 := Lib.hid (HP3.out.kept hB4)
      have HG4 := Lib.hid (HG3.out.kept hB4)
      obtain ⟨⟨p0, p1, p2, p3⟩, _⟩ := blk4_cells HP4.out
      clear hB4
      have HC4 := Lib.hid (And.intro p1 (And.intro p2 p3))
      go_upto_region 3 with fail
      go_region_held3 (fun w' => w'.cell? ⟨w.heap.size, 1, none⟩ = some (.int .i64 go) ∧ w'.cell? ⟨w.heap.size, 2, none⟩ = some (.slice Af fin.length cf) ∧ w'.cell? ⟨w.heap.size, 3, none⟩ = some (.slice An nx.length cn))
        (first | exact HC4.out | exact HC9.out | exact HC10.out | go_keep)
        (first
          | (go_at_call 91
             refine (HE.out _ ?_ ?_).mono ?_
             (first | exact HB4.out | exact below_drewN HB4.out 1 | exact below_drewN HB4.out _)
             (first | exact HG4.out | exact HG4.out.kept (below_drewN (Below.refl _ w4) 1))
             rintro e w9 ⟨rfl, hB9⟩
             try have hB9 := below_undrew hB9
             have HB9 := Lib.hid (HB4.out.trans (hB9.mono HB4.out.size))
             have HP9 := Lib.hid (HP4.out.kept hB9)
             have HC9 := Lib.hid (And.intro (blk4_cells HP9.out).1.2.1 (And.intro (blk4_cells HP9.out).1.2.2.1 (blk4_cells HP9.out).1.2.2.2))
             clear hB9)
          | (go_at_call 73
             refine (HH.out _ ?_).mono ?_
             (first | exact HB9.out | exact below_drewN HB9.out 1 | exact below_drewN HB9.out _)
             rintro e w10 ⟨rfl, rfl⟩
             have HC10 := Lib.hid HC9.out))
      all_goals
        clear p0 p1 p2 p3
        go_wp2_with fail
        go_ret2
        exact ⟨rfl, HB9.out⟩
set_option maxRecDepth 100000 in
set_option maxHeartbeats 6400000 in
theorem implAcceptsGrammar (av : Value) (x : Au) (gv : Value) (gs : List Rl) (w : World) (hf : FewA x) (hx : IsAu w av x) (hfr : FewR gs) (hr : Rules w gv gs) :
    Calls Try.prog 41 #[av, .agg #[gv]] w fun e w' => e = .returned (.tuple #[.bool (accG x gs).1, .int .i64 (accG x gs).2]) ∧ Below w.heap.size w w' := by
  have HIS := Lib.hid (fun W (hb : Below w.heap.size w W) => hx.kept hb)
  have HRU := Lib.hid (fun W (hb : Below w.heap.size w W) => hr.kept hb)
  obtain ⟨st, go, fin, nx⟩ := x
  obtain ⟨f, n, rfl, hF, hN⟩ := hx
  simp only at hF hN
  have hb : Below w.heap.size w ((w.alloc (.cells #[.int .i64 st, .int .i64 go, f, n] 39)).alloc (.cells #[gv] 58)) := ((Below.refl _ w).alloc (Nat.le_refl _) _).alloc (by simp) _
  have hP : B4 ((w.alloc (.cells #[.int .i64 st, .int .i64 go, f, n] 39)).alloc (.cells #[gv] 58)) w.heap.size (.int .i64 st) (.int .i64 go) f n 39 := (B4.new w _ _ _ _ _).alloc _
  have hg : ((w.alloc (.cells #[.int .i64 st, .int .i64 go, f, n] 39)).alloc (.cells #[gv] 58)).cell? ⟨w.heap.size + 1, 0, none⟩ = some gv := by
    have := cell_new (w.alloc (.cells #[.int .i64 st, .int .i64 go, f, n] 39)) gv 58
    rwa [show (w.alloc (.cells #[.int .i64 st, .int .i64 go, f, n] 39)).heap.size = w.heap.size + 1 from by simp] at this
  have HWO := Lib.hid (walkOfAuto_any _ ⟨st, go, fin, nx⟩ gv gs _ hf (HIS.out _ hb) hfr (HRU.out _ hb))
  have HB := Lib.hid hb
  have HP := Lib.hid hP
  have hff := hf.fin
  have HF := Lib.hid (fun W (hW : Below w.heap.size w W) => hF.kept hW)
  obtain ⟨Af, cf, rfl⟩ := hF.shape
  obtain ⟨An, cn, rfl, hNx⟩ := hN
  obtain ⟨Ag, cg, rfl, hRx⟩ := hr
  obtain ⟨⟨p0, p1, p2, p3⟩, _⟩ := blk4_cells hP
  have HFI : Hid (∀ W, Calls Try.prog 76 #[.agg #[.int .i64 st, .int .i64 go, .slice Af fin.length cf, .slice An nx.length cn]] W fun e w' => ∃ Pf, e = .returned (.func (.func 127) #[] #[.pointer (some ⟨Pf, 0, none⟩)]) ∧ B4 w' Pf (.int .i64 st) (.int .i64 go) (.slice Af fin.length cf) (.slice An nx.length cn) 39 ∧ Below W.heap.size W w') := Lib.hid (fun W => (isFinal_any _ _ _ _ _ _ _ _ _ _ rfl rfl _ _ rfl rfl W).mono (fun e w' ⟨he, hw⟩ => ⟨_, he, by rw [hw]; exact B4.new W _ _ _ _ _, by rw [hw]; exact (Below.refl _ W).alloc (Nat.le_refl _) _⟩))
  clear hb hP hF hNx hRx
  unfold accG
  cases hall : (aOk ⟨st, go, fin, nx⟩ && gOk gs)
  · rw [hall] at HWO
    rw [if_neg (by intro h; rw [h.1, h.2] at hall; cases hall)]
    clear hall
    go_enter Try.func41, Try.ntmps41
    go_wp2_with fail
    refine HWO.out.mono ?_
    rintro e w3 ⟨wv, rfl, _, hz, hB3⟩
    have hz := hz trivial
    subst hz
    have HB3 := Lib.hid (HB.out.trans (hB3.mono HB.out.size))
    unfold zeroW
    clear hB3
    go_wp2_with fail
    go_ret2
    exact ⟨rfl, HB3.out.alloc HB3.out.size _⟩
  · rw [hall] at HWO
    rw [Bool.and_eq_true] at hall
    rw [if_pos hall]
    obtain ⟨⟨h1, h24⟩, hrow, hlen⟩ := aOk_parts hall.1
    have hgo := aOk_go hall.1
    simp only at h1 h24 hgo
    have HE := Lib.hid (fun W wv (hb : Below w.heap.size w W) (hW : ∃ lo, IsW W lo wv (.slice Ag gs.length cg) gs nx go) => (by obtain ⟨lo, hW⟩ := hW; exact end_any wv (.slice Ag gs.length cg) gs nx go lo W hall.2 (HRU.out W hb) hW (by omega) : Calls Try.prog 95 #[wv] W fun e w' => e = .returned (.int .i64 (endS nx gs go)) ∧ Below W.heap.size W w'))
    have HH := Lib.hid (fun W Pf (hb : Below w.heap.size w W) hP => final_any (endS nx gs go) Pf (.int .i64 st) (.int .i64 go) (.slice Af fin.length cf) (.slice An nx.length cn) fin W hff hP (HF.out W hb))
    clear hall hrow hlen hgo
    show Calls _ _ _ _ fun e w' => e = .returned (.tuple #[.bool (hasN fin (endS nx gs go)), .int .i64 0]) ∧ Below w.heap.size w w'
    generalize hasN fin (endS nx gs go) = r at *
    generalize endS nx gs go = z at *
    go_enter Try.func41, Try.ntmps41
    go_wp2_with fail
    refine HWO.out.mono ?_
    rintro e w3 ⟨wv, rfl, hyes, _, hB3⟩
    have hw3 := hyes trivial
    have HB3 := Lib.hid (HB.out.trans (hB3.mono HB.out.size))
    have HP3 := Lib.hid (HP.out.kept hB3)
    have HW3 := Lib.hid hw3
    obtain ⟨A2, c2, A3, c3, rfl⟩ := hw3.shape
    clear hyes hw3 hB3 p0 p1 p2 p3 hg
    have hb4 := (Below.refl _ w3).alloc (Nat.le_refl _) (.cells #[.slice Ag gs.length cg, .slice A2 (lens gs).length c2, .slice A3 gs.length c3, .int .i64 go] 122)
    have HW4 := Lib.hid (HW3.out.kept hb4)
    have HB4 := Lib.hid (HB3.out.trans (hb4.mono HB3.out.size))
    have HP4 := Lib.hid (HP3.out.kept hb4)
    have HQ4 : Hid (B4 (w3.alloc (.cells #[.slice Ag gs.length cg, .slice A2 (lens gs).length c2, .slice A3 gs.length c3, .int .i64 go] 122)) w3.heap.size _ _ _ _ _) := Lib.hid (B4.new w3 _ _ _ _ _)
    clear hb4
    go_upto_region 4 with fail
    obtain ⟨Qb, hQb⟩ : ∃ Qb, Qb = w3.heap.size := ⟨_, rfl⟩
    rw [← hQb] at HQ4 ⊢
    generalize w3.alloc (.cells #[.slice Ag gs.length cg, .slice A2 (lens gs).length c2, .slice A3 gs.length c3, .int .i64 go] 122) = w4 at *
    clear hQb
    obtain ⟨⟨p0, p1, p2, p3⟩, _⟩ := blk4_cells HP4.out
    obtain ⟨⟨q0, q1, q2, q3⟩, _⟩ := blk4_cells HQ4.out
    have HC4 := Lib.hid (And.intro (And.intro p0 (And.intro p1 (And.intro p2 p3))) (And.intro q0 (And.intro q1 (And.intro q2 q3))))
    go_region_held3 (fun w' => (w'.cell? ⟨w.heap.size, 0, none⟩ = some (.int .i64 st) ∧ w'.cell? ⟨w.heap.size, 1, none⟩ = some (.int .i64 go) ∧ w'.cell? ⟨w.heap.size, 2, none⟩ = some (.slice Af fin.length cf) ∧ w'.cell? ⟨w.heap.size, 3, none⟩ = some (.slice An nx.length cn)) ∧ w'.cell? ⟨Qb, 0, none⟩ = some (.slice Ag gs.length cg) ∧ w'.cell? ⟨Qb, 1, none⟩ = some (.slice A2 (lens gs).length c2) ∧ w'.cell? ⟨Qb, 2, none⟩ = some (.slice A3 gs.length c3) ∧ w'.cell? ⟨Qb, 3, none⟩ = some (.int .i64 go))
      (first | exact HC4.out | exact HC5.out | exact HC6.out | exact HC7.out | go_keep)
      (first
        | (go_at_call 76
           refine (HFI.out _).mono ?_
           rintro e w5 ⟨Pf, rfl, hpf, hB5⟩
           try have hB5 := below_undrew hB5
           have HPF := Lib.hid hpf
           have HB5 := Lib.hid (HB4.out.trans (hB5.mono HB4.out.size))
           have HW5 := Lib.hid (HW4.out.kept hB5)
           have HP5 := Lib.hid (HP4.out.kept hB5)
           have HQ5 := Lib.hid (HQ4.out.kept hB5)
           have HC5 := Lib.hid (And.intro (blk4_cells HP5.out).1 (blk4_cells HQ5.out).1)
           clear hpf hB5)
        | (go_at_call 95
           refine (HE.out _ _ ?_ ?_).mono ?_
           (first | exact HB5.out | exact below_drewN HB5.out 1 | exact below_drewN HB5.out _)
           (first | exact ⟨_, HW5.out⟩ | exact ⟨_, HW5.out.kept (below_drewN (Below.refl _ w5) 1)⟩)
           rintro e w6 ⟨rfl, hB6⟩
           try have hB6 := below_undrew hB6
           have HB6 := Lib.hid (HB5.out.trans (hB6.mono HB5.out.size))
           have HPF6 := Lib.hid (HPF.out.kept hB6)
           have HC6 := Lib.hid (And.intro (blk4_cells (HP5.out.kept hB6)).1 (blk4_cells (HQ5.out.kept hB6)).1)
           clear hB6)
        | (go_at_call 127
           refine (HH.out _ _ ?_ ?_).mono ?_
           (first | exact HB6.out | exact below_drewN HB6.out 1 | exact below_drewN HB6.out _)
           (first | exact HPF6.out | exact HPF6.out.kept (below_drewN (Below.refl _ w6) 1))
           rintro e w7 ⟨rfl, rfl⟩
           have HC7 := Lib.hid HC6.out))
    all_goals
      clear p0 p1 p2 p3 q0 q1 q2 q3
      go_wp2_with fail
      go_ret2
      exact ⟨rfl, HB6.out⟩
end Go.Proofs.Ytddjcgaejjldbaa
