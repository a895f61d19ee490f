/-
  Walk: spec.FirstVisit.
-/
import Derived.Test.YtaffachjopjbgaaFvS
import Derived.Test.YtaffachjopjbgaaRunE
import Derived.Deep.QuietTactic
import Derived.BigQuiet
namespace Go.Proofs.Ytaffachjopjbgaa
open Go.RowKit
open Wd
set_option linter.unusedVariables false
namespace Wd
/-- the answer of FirstVisit -/
def fvA (x : Au) (gs : List Rl) (q : Int) : Int × Int :=
  if aOk x = true ∧ gOk gs = true then (if 0 ≤ q ∧ q ≤ x.st - 1 then (if q = x.go then (0, 0) else
    if gs.length = 0 then (0, 6) else if at2 (firK (fun p => decide (p = q)) x.nx gs gs.length) (gs.length - 1) x.go.toNat < 0 then (0, 6) else (at2 (firK (fun p => decide (p = q)) x.nx gs gs.length) (gs.length - 1) x.go.toNat, 0)) else (0, 2)) else (0, 1)
end Wd
theorem aOk_go2 {x : Au} (h : aOk x = true) : 0 ≤ x.go ∧ x.go < x.st := by
  unfold aOk at h
  simp only [Bool.and_eq_true, decide_eq_true_iff] at h
  have := h.1.1.2
  omega
set_option maxRecDepth 100000 in
set_option maxHeartbeats 12800000 in
theorem specFirstVisit (av : Value) (x : Au) (gv : Value) (gs : List Rl) (q : Int) (w : World) (hf : FewA x) (hx : IsAu w av x) (hfr : FewR gs) (hr : Rules w gv gs) :
    Calls Try.prog 19 #[av, .agg #[gv], .int .i64 q] w fun e w' => e = .returned (.tuple #[.int .i64 (fvA x gs q).1, .int .i64 (fvA x gs q).2]) ∧ Below w.heap.size w w' := by
  obtain ⟨st, go, fin, nx⟩ := x
  obtain ⟨f, n, rfl, hF, hN⟩ := hx
  simp only at hF hN
  have hb : Below w.heap.size w ((w.alloc (.cells #[.int .i64 st, .int .i64 go, f, n] 33)).alloc (.cells #[gv] 37)) := ((Below.refl _ w).alloc (Nat.le_refl _) _).alloc (by simp) _
  have hP : B4 ((w.alloc (.cells #[.int .i64 st, .int .i64 go, f, n] 33)).alloc (.cells #[gv] 37)) w.heap.size (.int .i64 st) (.int .i64 go) f n 33 := (B4.new w _ _ _ _ _).alloc _
  have hG : GP ((w.alloc (.cells #[.int .i64 st, .int .i64 go, f, n] 33)).alloc (.cells #[gv] 37)) (w.heap.size + 1) gs := by
    have := rules_gpT (hr.kept ((Below.refl _ w).alloc (Nat.le_refl _) (.cells #[.int .i64 st, .int .i64 go, f, n] 33))) 37
    rwa [show (w.alloc (.cells #[.int .i64 st, .int .i64 go, f, n] 33)).heap.size = w.heap.size + 1 from by simp] at this
  have HC := Lib.hid (l04Ok_any w.heap.size f n ⟨st, go, fin, nx⟩ _ hP (hF.kept hb) (hN.kept hb) hf)
  have HG := Lib.hid (fun W h => l02Ok_any (w.heap.size + 1) gs W hfr h)
  have HGP := Lib.hid hG
  have HB := Lib.hid hb
  have HP := Lib.hid hP
  have HI := Lib.hid (fun W => inB_any q 0 (st - 1) W)
  have HN := Lib.hid (fun W (hW : Below w.heap.size w W) => hN.kept hW)
  obtain ⟨Af, cf, rfl⟩ := hF.shape
  obtain ⟨An, cn, rfl, hNx⟩ := hN
  obtain ⟨Ag, cg, rfl, hRx⟩ := hr
  clear hb hP hG hF hNx hRx
  unfold fvA
  cases ha : aOk ⟨st, go, fin, nx⟩
  · rw [ha] at HC
    rw [if_neg (by simp)]
    clear ha
    go_enter Try.func19, Try.ntmps19
    go_wp2_with fail
    refine HC.out.mono ?_
    rintro e w3 ⟨rfl, hD⟩
    have HB3 := Lib.hid (HB.out.trans (hD.below _))
    clear hD
    go_wp2_with fail
    go_ret2
    exact ⟨rfl, HB3.out⟩
  · rw [ha] at HC
    obtain ⟨⟨h1, h24⟩, hrow, hlen⟩ := aOk_parts ha
    have hgo := aOk_go2 ha
    simp only at h1 h24 hrow hlen hgo
    cases hok : gOk gs
    · rw [if_neg (by simp)]
      have HG2 : Hid (∀ W, GP W (w.heap.size + 1) gs → Calls Try.prog 79 #[.pointer (some ⟨w.heap.size + 1, 0, none⟩)] W fun e w' => e = .returned (.bool false) ∧ Below W.heap.size W w') := Lib.hid (fun W h => by have := HG.out W h; rwa [hok] at this)
      clear ha hok hrow hlen hgo
      go_enter Try.func19, Try.ntmps19
      go_wp2_with fail
      refine HC.out.mono ?_
      rintro e w3 ⟨rfl, hD⟩
      have HB3 := Lib.hid (HB.out.trans (hD.below _))
      have HG3 := Lib.hid (HGP.out.kept (hD.below _))
      clear hD
      go_wp2_with fail
      refine (HG2.out _ HG3.out).mono ?_
      rintro e w4 ⟨rfl, hB4⟩
      have HB4 := Lib.hid (HB3.out.trans (hB4.mono HB3.out.size))
      clear hB4
      go_wp2_with fail
      go_ret2
      exact ⟨rfl, HB4.out⟩
    · rw [if_pos ⟨rfl, rfl⟩]
      have HG2 : Hid (∀ W, GP W (w.heap.size + 1) gs → Calls Try.prog 79 #[.pointer (some ⟨w.heap.size + 1, 0, none⟩)] W fun e w' => e = .returned (.bool true) ∧ Below W.heap.size W w') := Lib.hid (fun W h => by have := HG.out W h; rwa [hok] at this)
      have hw1 : IntKind.i64.wrap (st - 1) = st - 1 := by rw [IntKind.wrap_i64]; omega
      have HLS : Hid (∀ W, GP W (w.heap.size + 1) gs → Calls Try.prog 81 #[.pointer (some ⟨w.heap.size + 1, 0, none⟩)] W fun e w' => ∃ x, e = .returned (.tuple #[x, .bool true]) ∧ OwnsI w' W.heap.size x (lens gs) ∧ Below W.heap.size W w') := Lib.hid (fun W hg => by
        refine (lengths_any (w.heap.size + 1) gs W hfr hg).mono ?_
        rintro e w' ⟨x, rfl, ho, hB⟩
        rw [hok]
        exact ⟨x, rfl, ho hok, hB⟩)
      have HFI := Lib.hid (fun W lo lv (hb : Below w.heap.size w W) hg ho => l04First_any _ nx st q (w.heap.size + 1) lo lv gs W h1 h24 hrow hlen (HN.out W hb) hok hg ho)
      have hn400 := gOk_len hok
      by_cases hs : 0 ≤ q ∧ q ≤ st - 1
      case neg =>
        rw [if_neg hs]
        rw [decide_eq_false hs] at HI
        clear ha hok hrow hlen hs hgo
        go_enter Try.func19, Try.ntmps19
        go_wp2_with fail
        refine HC.out.mono ?_
        rintro e w3 ⟨rfl, hD⟩
        have HB3 := Lib.hid (HB.out.trans (hD.below _))
        have HG3 := Lib.hid (HGP.out.kept (hD.below _))
        have HP3 := Lib.hid (HP.out.kept (hD.below _))
        clear hD
        go_wp2_with fail
        refine (HG2.out _ HG3.out).mono ?_
        rintro e w4 ⟨rfl, hB4⟩
        have HB4 := Lib.hid (HB3.out.trans (hB4.mono HB3.out.size))
        obtain ⟨⟨p0, p1, p2, p3⟩, _⟩ := blk4_cells (HP3.out.kept hB4)
        clear hB4
        go_wp2_with fail
        refine (HI.out _).mono ?_
        rintro e w6 ⟨rfl, rfl⟩
        go_wp2_with fail
        go_ret2
        exact ⟨rfl, HB4.out⟩
      case pos =>
        rw [if_pos hs]
        rw [decide_eq_true hs] at HI
        by_cases hqg : q = go
        case pos =>
          rw [if_pos hqg]
          subst hqg
          clear ha hok hrow hlen hs hgo
          go_enter Try.func19, Try.ntmps19
          go_wp2_with fail
          refine HC.out.mono ?_
          rintro e w3 ⟨rfl, hD⟩
          have HB3 := Lib.hid (HB.out.trans (hD.below _))
          have HG3 := Lib.hid (HGP.out.kept (hD.below _))
          have HP3 := Lib.hid (HP.out.kept (hD.below _))
          clear hD
          go_wp2_with fail
          refine (HG2.out _ HG3.out).mono ?_
          rintro e w4 ⟨rfl, hB4⟩
          have HB4 := Lib.hid (HB3.out.trans (hB4.mono HB3.out.size))
          obtain ⟨⟨p0, p1, p2, p3⟩, _⟩ := blk4_cells (HP3.out.kept hB4)
          clear hB4
          go_wp2_with fail
          refine (HI.out _).mono ?_
          rintro e w6 ⟨rfl, rfl⟩
          go_wp2_with fail
          go_ret2
          exact ⟨rfl, HB4.out⟩
        case neg =>
          rw [if_neg hqg]
          have hqd : (q == go) = false := by simp [hqg]
          have hgo0 := hgo.1
          have hgo1 := hgo.2
          obtain ⟨gg, rfl⟩ : ∃ n : Nat, go = n := ⟨go.toNat, by omega⟩
          simp only [Int.toNat_natCast]
          have hg24 : gg < 24 := by omega
          have hgN : gg < nx.length := by omega
          have HLN : Hid ((nx.length : Int) = st) := Lib.hid hlen
          obtain ⟨ans, hans⟩ : ∃ ans : Int × Int, ans = (if gs.length = 0 then (0, 6) else if at2 (firK (fun p => decide (p = q)) nx gs gs.length) (gs.length - 1) gg < 0 then (0, 6) else (at2 (firK (fun p => decide (p = q)) nx gs gs.length) (gs.length - 1) gg, 0)) := ⟨_, rfl⟩
          rw [← hans]
          have HA := Lib.hid hans
          clear hans
          clear ha hok hrow hlen hs hgo hqg hgo0 hgo1
          go_enter Try.func19, Try.ntmps19
          go_wp2_with fail
          refine HC.out.mono ?_
          rintro e w3 ⟨rfl, hD⟩
          have HB3 := Lib.hid (HB.out.trans (hD.below _))
          have HG3 := Lib.hid (HGP.out.kept (hD.below _))
          have HP3 := Lib.hid (HP.out.kept (hD.below _))
          clear hD
          go_wp2_with fail
          refine (HG2.out _ HG3.out).mono ?_
          rintro e w4 ⟨rfl, hB4⟩
          have HB4 := Lib.hid (HB3.out.trans (hB4.mono HB3.out.size))
          have HG4 := Lib.hid (HG3.out.kept hB4)
          have HP4 := Lib.hid (HP3.out.kept hB4)
          obtain ⟨⟨p0, p1, p2, p3⟩, _⟩ := blk4_cells HP4.out
          clear hB4
          go_wp2_with fail
          refine (HI.out _).mono ?_
          rintro e w6 ⟨rfl, hw6⟩
          obtain rfl := hw6.symm
          go_wp2_with fail
          refine (HLS.out _ HG4.out).mono ?_
          rintro e w7 ⟨lv, rfl, ho, hB7⟩
          have HB7 := Lib.hid (HB4.out.trans (hB7.mono HB4.out.size))
          have HP7 := Lib.hid (HP4.out.kept hB7)
          have HG7 := Lib.hid (HG4.out.kept hB7)
          have HFC := Lib.hid (HFI.out w7 _ lv HB7.out HG7.out ho)
          obtain ⟨Al, cl, rfl⟩ := own_slice ho
          clear hB7 ho p0 p1 p2 p3
          obtain ⟨⟨p0, p1, p2, p3⟩, _⟩ := blk4_cells HP7.out
          go_wp2_with fail
          refine HFC.out.mono ?_
          rintro e w8 ⟨y, rfl, hll, hB8⟩
          have HB8 := Lib.hid (HB7.out.trans (hB8.mono HB7.out.size))
          have HP8 := Lib.hid (HP7.out.kept hB8)
          clear hB8 p0 p1 p2 p3
          obtain ⟨⟨p0, p1, p2, p3⟩, _⟩ := blk4_cells HP8.out
          have hB9 := HB8.out
          clear HFC HC HG HG2 HLS HFI HN HI
          by_cases h0 : gs.length = 0
          · have HE : Hid (ans = (0, 6)) := Lib.hid (by rw [HA.out, if_pos h0])
            obtain ⟨Ay, cy, rfl, _⟩ := hll
            rw [firN_len, h0]
            clear h0 hn400
            go_upto_region 9 with fail
            go_quiet ((fail))
            go_wp2_with fail
            go_ret2
            exact ⟨by rw [HE.out]; rfl, below_drewN HB8.out _⟩
          · have hA := HA.out
            rw [if_neg h0] at hA
            obtain ⟨m, hm⟩ : ∃ m, gs.length = m + 1 := ⟨gs.length - 1, by omega⟩
            obtain ⟨o1, o2, o3, o4⟩ := firN_get (wa := fun p => decide (p = q)) (nx := nx) (gs := gs) (N := nx.length) (k := gs.length) (j := m) (s := gg) (by omega) hgN (by have := HLN.out; omega)
            obtain ⟨ay, xa, cy1, cy2, rfl, e0, e1⟩ := ll_get hll o1 o2
            rw [o3] at e0
            rw [o4] at e1
            rw [firN_len, hm]
            rw [hm] at e1
            rw [hm, show m + 1 - 1 = m from rfl] at hA
            have hsub : IntKind.i64.wrap (((m + 1 : Nat) : Int) - 1) = (m : Int) := by rw [IntKind.wrap_i64]; omega
            have hsub2 : IntKind.i64.wrap ((m : Int) + 1 - 1) = (m : Int) := by rw [IntKind.wrap_i64]; omega
            have hsub3 : IntKind.i64.wrap (m : Int) = (m : Int) := by rw [IntKind.wrap_i64]; omega
            have hz1 : ((m : Int) + 1 == 0) = false := by simp; omega
            have m0 : (0 : Int) ≤ (m : Int) := by omega
            have m1 : (m : Int) < (m : Int) + 1 := by omega
            have g0 : (0 : Int) ≤ (gg : Int) := by omega
            have g1 : (gg : Int) < (nx.length : Int) := by omega
            generalize at2 (firK (fun p => decide (p = q)) nx gs (m + 1)) m gg = F at *
            clear o1 o2 o3 o4 h0 hll
            go_upto_region 9 with fail
            by_cases hF0 : F < 0
            · rw [if_pos hF0] at hA
              have HE := Lib.hid hA
              have hd : decide (F < 0) = true := decide_eq_true hF0
              clear hF0 hm hA
              go_quiet ((fail))
              go_wp2_with fail
              go_ret2
              exact ⟨by rw [HE.out]; rfl, below_drewN HB8.out _⟩
            · rw [if_neg hF0] at hA
              have HE := Lib.hid hA
              have hd : decide (F < 0) = false := decide_eq_false hF0
              clear hF0 hm hA
              go_quiet ((fail))
              have hB10 := below_drewN hB9 nq
              have p1 : (w8.drewN nq).cell? ⟨w.heap.size, 1, none⟩ = some (.int .i64 (gg : Int)) := p1
              have e0 : (w8.drewN nq).cell? (ay.add m) = some (.slice (some xa) nx.length cy2) := e0
              have e1 : (w8.drewN nq).cell? (xa.add gg) = some (.int .i64 F) := e1
              have HB10 := Lib.hid hB10
              clear p0 p2 p3 hB10 hB9
              generalize w8.drewN nq = w9 at *
              go_upto_region 11 with fail
              go_quiet ((fail))
              go_wp2_with fail
              go_ret2
              exact ⟨by rw [HE.out]; rfl, below_drewN HB10.out _⟩
end Go.Proofs.Ytaffachjopjbgaa
