/-
  Walks: rows of rows, SameAuto of both sides.
-/
import Derived.Test.YtonbjgecdhmjbaaAuSame
namespace Go.Proofs.Ytonbjgecdhmjbaa
open Go.RowKit
open Wd
set_option linter.unusedVariables false
theorem drewN_below' {B : Nat} {w W : World} (h : Below B w W) (q : Nat) : Below B w (W.drewN q) := h.trans (((Drawn.refl W).drewN q).below _)
def sameAu (x y : Au) : Bool := decide (x.st = y.st) && (decide (x.go = y.go) && (decide (x.fin = y.fin) && decide (x.nx = y.nx)))
set_option maxRecDepth 100000 in
set_option maxHeartbeats 1600000 in
theorem rowsS_eq (u v : Value) (xss yss : List (List Int)) (w : World) (hn : xss.length ≤ 1048576) (hr : ∀ r ∈ xss, r.length ≤ 1048576) (hr2 : ∀ r ∈ yss, r.length ≤ 1048576) (hlen : xss.length = yss.length) (h1 : IsLL w u xss) (h2 : IsLL w v yss) :
    Calls Try.prog 110 #[u, v] w fun e w' => e = .returned (.bool (decide (xss = yss))) ∧ Drawn w w' := by
  obtain ⟨A1, c1, rfl, h1⟩ := h1
  obtain ⟨A2, c2, rfl, h2⟩ := h2
  obtain ⟨n, hng⟩ : ∃ n, n = xss.length := ⟨_, rfl⟩
  rw [← hlen, ← hng]
  rw [← hng] at hn
  have HN := Lib.hid hng
  have HL := Lib.hid hlen
  have HR := Lib.hid hr
  have HR2 := Lib.hid hr2
  have H1 := Lib.hid h1
  have H2 := Lib.hid h2
  clear h1 h2 hng hlen hr hr2
  go_enter Try.func110, Try.ntmps110
  go_wp2_with fail
  go_loopw [5] (fun i wr => ∃ k : Nat, k ≤ n ∧ i = .int .i64 k ∧ (∀ j, j < k → xss.getD j [] = yss.getD j []) ∧ Drawn w wr) (fun i _ => n - (intOf i).toNat)
  case atStart => exact ⟨0, Nat.zero_le _, rfl, fun j hj => by omega, Drawn.refl _⟩
  case round =>
    obtain ⟨k, hk, rfl, hall, hD⟩ := hrel
    obtain ⟨wo, rfl⟩ : ∃ wo : World, wo = wr := ⟨_, rfl⟩
    have HA := Lib.hid hall
    have HD := Lib.hid hD
    clear hall
    by_cases hlt : k < n
    · have hkg : k < xss.length := by rw [← HN.out]; exact hlt
      have hkg2 : k < yss.length := by rw [← HL.out]; exact hkg
      rcases H1.out with hn | ⟨x, rfl, hc1⟩
      · rw [hn] at hkg; simp at hkg
      rcases H2.out with hn | ⟨y, rfl, hc2⟩
      · rw [hn] at hkg2; simp at hkg2
      obtain ⟨u1, a1, i1⟩ := hc1 k hkg
      obtain ⟨u2, a2, i2⟩ := hc2 k hkg2
      have a0 : wo.cell? (x.add k) = some u1 := by obtain ⟨m, rfl⟩ := hD; exact a1
      have b0 : wo.cell? (y.add k) = some u2 := by obtain ⟨m, rfl⟩ := hD; exact a2
      have HQ := Lib.hid (fun m => sameS_any u1 u2 xss[k] yss[k] (wo.drewN m) (HR.out _ (List.getElem_mem hkg)) (HR2.out _ (List.getElem_mem hkg2)) (i1.kept ((hD.drewN m).below _)) (i2.kept ((hD.drewN m).below _)))
      have HBAD : Hid (¬ xss[k] = yss[k] → decide (xss = yss) = false) := Lib.hid (fun h => decide_eq_false (fun e => h (by subst e; rfl)))
      have HNX : Hid (xss[k] = yss[k] → ∀ j, j < k + 1 → xss.getD j [] = yss.getD j []) := Lib.hid (fun h j hj => by
        by_cases e : j = k
        · subst e
          rw [List.getD_eq_getElem?_getD, List.getD_eq_getElem?_getD, List.getElem?_eq_getElem hkg, List.getElem?_eq_getElem hkg2]
          exact h
        · exact HA.out j (by omega))
      have hk0 : (0 : Int) ≤ (k : Int) := by omega
      have hk1 : (k : Int) < (n : Int) := by omega
      obtain ⟨A3, c3, rfl⟩ := i1.shape
      obtain ⟨A4, c4, rfl⟩ := i2.shape
      clear hc1 hc2 hD i1 i2 a1 a2
      generalize xss[k] = z at *
      generalize yss[k] = t at *
      clear hkg hkg2
      by_cases he : z = t
      · rw [decide_eq_true he] at HQ
        have HO := Lib.hid (HNX.out he)
        clear he HBAD HNX HA
        generalize z.length = lz at *
        generalize t.length = lt at *
        go_wp2_with fail
        go_quiet ((go_at_call 109; exact Calls.quiet_of (HQ.out _)))
        go_wp2_with fail
        go_roundw
        all_goals first | exact ⟨k + 1, by omega, by go_num, HO.out, HD.out.drewN _⟩ | ((repeat apply Exists.intro); exact ⟨⟨k + 1, by omega, by go_num, HO.out, HD.out.drewN _⟩, rfl⟩) | (simp [intOf]; done) | (simp [intOf]; omega) | omega
      · rw [decide_eq_false he] at HQ
        have HO := Lib.hid (HBAD.out he)
        clear he HBAD HNX HA
        generalize z.length = lz at *
        generalize t.length = lt at *
        go_wp2_with fail
        go_quiet ((go_at_call 109; exact Calls.quiet_of (HQ.out _)))
        go_wp2_with fail
        go_ret
        exact ⟨by rw [HO.out] <;> rfl, HD.out.drewN _⟩
    · obtain rfl : k = n := by omega
      have HT : Hid (decide (xss = yss) = true) := Lib.hid (decide_eq_true (List.ext_getElem HL.out (fun j h1 h2 => by
        have := HA.out j (by rw [HN.out]; exact h1)
        rwa [List.getD_eq_getElem?_getD, List.getD_eq_getElem?_getD, List.getElem?_eq_getElem h1, List.getElem?_eq_getElem h2] at this)))
      clear HA
      go_wp2_with fail
      go_ret
      exact ⟨by rw [HT.out] <;> rfl, HD.out⟩
set_option maxRecDepth 100000 in
set_option maxHeartbeats 1600000 in
theorem rowsS_any (u v : Value) (xss yss : List (List Int)) (w : World) (hn : xss.length ≤ 1048576) (hn2 : yss.length ≤ 1048576) (hr : ∀ r ∈ xss, r.length ≤ 1048576) (hr2 : ∀ r ∈ yss, r.length ≤ 1048576) (h1 : IsLL w u xss) (h2 : IsLL w v yss) :
    Calls Try.prog 110 #[u, v] w fun e w' => e = .returned (.bool (decide (xss = yss))) ∧ Drawn w w' := by
  by_cases hlen : xss.length = yss.length
  · exact rowsS_eq u v xss yss w hn hr hr2 hlen h1 h2
  · rw [decide_eq_false (fun e => hlen (by rw [e]))]
    obtain ⟨A1, c1, rfl, hx1⟩ := h1
    obtain ⟨A2, c2, rfl, hx2⟩ := h2
    clear hx1 hx2
    generalize xss.length = n at *
    generalize yss.length = m at *
    have hne : ((n : Int) != (m : Int)) = true := by simp; omega
    clear hlen
    go_enter Try.func110, Try.ntmps110
    go_wp2_with fail
    go_ret
    exact ⟨rfl, Drawn.refl _⟩
set_option maxRecDepth 100000 in
set_option maxHeartbeats 1600000 in
theorem rowsE_eq (u v : Value) (xss yss : List (List Int)) (w : World) (hn : xss.length ≤ 1048576) (hr : ∀ r ∈ xss, r.length ≤ 1048576) (hr2 : ∀ r ∈ yss, r.length ≤ 1048576) (hlen : xss.length = yss.length) (h1 : IsLL w u xss) (h2 : IsLL w v yss) :
    Calls Try.prog 112 #[u, v, .func (.func 111) #[] #[]] w fun e w' => e = .returned (.bool (decide (xss = yss))) ∧ Drawn w w' := by
  obtain ⟨A1, c1, rfl, h1⟩ := h1
  obtain ⟨A2, c2, rfl, h2⟩ := h2
  obtain ⟨n, hng⟩ : ∃ n, n = xss.length := ⟨_, rfl⟩
  rw [← hlen, ← hng]
  rw [← hng] at hn
  have HN := Lib.hid hng
  have HL := Lib.hid hlen
  have HR := Lib.hid hr
  have HR2 := Lib.hid hr2
  have H1 := Lib.hid h1
  have H2 := Lib.hid h2
  clear h1 h2 hng hlen hr hr2
  go_enter Try.func112, Try.ntmps112
  go_wp2_with fail
  go_loopw [17] (fun i wr => ∃ k : Nat, k ≤ n ∧ i = .int .i64 k ∧ (∀ j, j < k → xss.getD j [] = yss.getD j []) ∧ Drawn w wr) (fun i _ => n - (intOf i).toNat)
  case atStart => exact ⟨0, Nat.zero_le _, rfl, fun j hj => by omega, Drawn.refl _⟩
  case round =>
    obtain ⟨k, hk, rfl, hall, hD⟩ := hrel
    obtain ⟨wo, rfl⟩ : ∃ wo : World, wo = wr := ⟨_, rfl⟩
    have HA := Lib.hid hall
    have HD := Lib.hid hD
    clear hall
    by_cases hlt : k < n
    · have hkg : k < xss.length := by rw [← HN.out]; exact hlt
      have hkg2 : k < yss.length := by rw [← HL.out]; exact hkg
      rcases H1.out with hn | ⟨x, rfl, hc1⟩
      · rw [hn] at hkg; simp at hkg
      rcases H2.out with hn | ⟨y, rfl, hc2⟩
      · rw [hn] at hkg2; simp at hkg2
      obtain ⟨u1, a1, i1⟩ := hc1 k hkg
      obtain ⟨u2, a2, i2⟩ := hc2 k hkg2
      have a0 : wo.cell? (x.add k) = some u1 := by obtain ⟨m, rfl⟩ := hD; exact a1
      have b0 : wo.cell? (y.add k) = some u2 := by obtain ⟨m, rfl⟩ := hD; exact a2
      have HQ := Lib.hid (fun m => sameE_any u1 u2 xss[k] yss[k] (wo.drewN m) (HR.out _ (List.getElem_mem hkg)) (HR2.out _ (List.getElem_mem hkg2)) (i1.kept ((hD.drewN m).below _)) (i2.kept ((hD.drewN m).below _)))
      have HBAD : Hid (¬ xss[k] = yss[k] → decide (xss = yss) = false) := Lib.hid (fun h => decide_eq_false (fun e => h (by subst e; rfl)))
      have HNX : Hid (xss[k] = yss[k] → ∀ j, j < k + 1 → xss.getD j [] = yss.getD j []) := Lib.hid (fun h j hj => by
        by_cases e : j = k
        · subst e
          rw [List.getD_eq_getElem?_getD, List.getD_eq_getElem?_getD, List.getElem?_eq_getElem hkg, List.getElem?_eq_getElem hkg2]
          exact h
        · exact HA.out j (by omega))
      have hk0 : (0 : Int) ≤ (k : Int) := by omega
      have hk1 : (k : Int) < (n : Int) := by omega
      obtain ⟨A3, c3, rfl⟩ := i1.shape
      obtain ⟨A4, c4, rfl⟩ := i2.shape
      clear hc1 hc2 hD i1 i2 a1 a2
      generalize xss[k] = z at *
      generalize yss[k] = t at *
      clear hkg hkg2
      by_cases he : z = t
      · rw [decide_eq_true he] at HQ
        have HO := Lib.hid (HNX.out he)
        clear he HBAD HNX HA
        generalize z.length = lz at *
        generalize t.length = lt at *
        go_wp2_with fail
        refine (HQ.out 0).mono ?_
        rintro e w5 ⟨rfl, q, rfl⟩
        go_wp2_with fail
        go_roundw
        all_goals first | exact ⟨k + 1, by omega, by go_num, HO.out, HD.out.drewN _⟩ | ((repeat apply Exists.intro); exact ⟨⟨k + 1, by omega, by go_num, HO.out, HD.out.drewN _⟩, rfl⟩) | (simp [intOf]; done) | (simp [intOf]; omega) | omega
      · rw [decide_eq_false he] at HQ
        have HO := Lib.hid (HBAD.out he)
        clear he HBAD HNX HA
        generalize z.length = lz at *
        generalize t.length = lt at *
        go_wp2_with fail
        refine (HQ.out 0).mono ?_
        rintro e w5 ⟨rfl, q, rfl⟩
        go_wp2_with fail
        go_ret
        exact ⟨by rw [HO.out] <;> rfl, HD.out.drewN _⟩
    · obtain rfl : k = n := by omega
      have HT : Hid (decide (xss = yss) = true) := Lib.hid (decide_eq_true (List.ext_getElem HL.out (fun j h1 h2 => by
        have := HA.out j (by rw [HN.out]; exact h1)
        rwa [List.getD_eq_getElem?_getD, List.getD_eq_getElem?_getD, List.getElem?_eq_getElem h1, List.getElem?_eq_getElem h2] at this)))
      clear HA
      go_wp2_with fail
      go_ret
      exact ⟨by rw [HT.out] <;> rfl, HD.out⟩
set_option maxRecDepth 100000 in
set_option maxHeartbeats 1600000 in
theorem rowsE_any (u v : Value) (xss yss : List (List Int)) (w : World) (hn : xss.length ≤ 1048576) (hn2 : yss.length ≤ 1048576) (hr : ∀ r ∈ xss, r.length ≤ 1048576) (hr2 : ∀ r ∈ yss, r.length ≤ 1048576) (h1 : IsLL w u xss) (h2 : IsLL w v yss) :
    Calls Try.prog 112 #[u, v, .func (.func 111) #[] #[]] w fun e w' => e = .returned (.bool (decide (xss = yss))) ∧ Drawn w w' := by
  by_cases hlen : xss.length = yss.length
  · exact rowsE_eq u v xss yss w hn hr hr2 hlen h1 h2
  · rw [decide_eq_false (fun e => hlen (by rw [e]))]
    obtain ⟨A1, c1, rfl, hx1⟩ := h1
    obtain ⟨A2, c2, rfl, hx2⟩ := h2
    clear hx1 hx2
    generalize xss.length = n at *
    generalize yss.length = m at *
    have hne : ((n : Int) != (m : Int)) = true := by simp; omega
    clear hlen
    go_enter Try.func112, Try.ntmps112
    go_wp2_with fail
    go_ret
    exact ⟨rfl, Drawn.refl _⟩
set_option maxRecDepth 100000 in
set_option maxHeartbeats 3200000 in
theorem specSameAuto (u v : Value) (x y : Au) (w : World) (hf : FewA x) (hg : FewA y) (h1 : IsAu w u x) (h2 : IsAu w v y) :
    Calls Try.prog 44 #[u, v] w fun e w' => e = .returned (.bool (sameAu x y)) ∧ Below w.heap.size w w' := by
  obtain ⟨f1, n1, rfl, hF1, hN1⟩ := h1
  obtain ⟨f2, n2, rfl, hF2, hN2⟩ := h2
  obtain ⟨st, go, fin, nx⟩ := x
  obtain ⟨st', go', fin', nx'⟩ := y
  simp only at hF1 hN1 hF2 hN2
  have hB0 : Below w.heap.size w ((w.alloc (.cells #[.int .i64 st, .int .i64 go, f1, n1] 61)).alloc (.cells #[.int .i64 st', .int .i64 go', f2, n2] 61)) := ((Below.refl _ w).alloc (Nat.le_refl _) _).alloc (by simp) _
  have b1 := (Below.refl _ (w.alloc (.cells #[.int .i64 st, .int .i64 go, f1, n1] 61))).alloc (Nat.le_refl _) (.cells #[.int .i64 st', .int .i64 go', f2, n2] 61)
  have hP := (b1.block w.heap.size (by simp)).trans (heap_alloc_new w _)
  have hQ := heap_alloc_new (w.alloc (.cells #[.int .i64 st, .int .i64 go, f1, n1] 61)) (.cells #[.int .i64 st', .int .i64 go', f2, n2] 61)
  rw [show (w.alloc (.cells #[.int .i64 st, .int .i64 go, f1, n1] 61)).heap.size = w.heap.size + 1 from by simp] at hQ
  obtain ⟨A1, c1, rfl⟩ := hF1.shape
  obtain ⟨A2, c2, rfl⟩ := hF2.shape
  obtain ⟨A3, c3, rfl, hx3⟩ := id hN1
  obtain ⟨A4, c4, rfl, hx4⟩ := id hN2
  have HF := Lib.hid (fun W (hb : Below w.heap.size w W) => sameS_any _ _ fin fin' W hf.fin hg.fin (hF1.kept hb) (hF2.kept hb))
  have HN := Lib.hid (fun W (hb : Below w.heap.size w W) => rowsS_any _ _ nx nx' W hf.nx hg.nx hf.row hg.row (hN1.kept hb) (hN2.kept hb))
  have HB := Lib.hid hB0
  obtain ⟨⟨p0, p1, p2, p3⟩, _⟩ := blk4_cells hP
  obtain ⟨⟨q0, q1, q2, q3⟩, _⟩ := blk4_cells hQ
  have HCC := Lib.hid (And.intro (blk4_cells hP).1 (blk4_cells hQ).1)
  clear hF1 hF2 hN1 hN2 hP hQ hB0 b1 hf hg hx3 hx4
  unfold sameAu
  simp only
  generalize fin.length = lf at *
  generalize fin'.length = lf' at *
  generalize nx.length = ln at *
  generalize nx'.length = ln' at *
  by_cases e1 : st = st'
  · have t1 : (st == st') = true := by simp [e1]
    rw [decide_eq_true e1, Bool.true_and]
    clear e1
    by_cases e2 : go = go'
    · have t2 : (go == go') = true := by simp [e2]
      rw [decide_eq_true e2, Bool.true_and]
      clear e2
      cases e3 : decide (fin = fin')
      · rw [e3] at HF
        rw [Bool.false_and]
        clear e3 HN
        go_enter Try.func44, Try.ntmps44
        go_wp2_with fail
        refine (HF.out _ HB.out).mono ?_
        rintro e w1 ⟨rfl, q, rfl⟩
        go_wp2_with fail
        go_ret
        exact ⟨rfl, drewN_below' HB.out _⟩
      · rw [e3] at HF
        rw [Bool.true_and]
        clear e3
        generalize decide (nx = nx') = R at *
        go_enter Try.func44, Try.ntmps44
        go_wp2_with fail
        refine (HF.out _ HB.out).mono ?_
        rintro e w1 ⟨rfl, q, rfl⟩
        go_wp2_with fail
        refine (HN.out _ (drewN_below' HB.out _)).mono ?_
        rintro e w1 ⟨rfl, q', rfl⟩
        go_wp2_with fail
        go_ret
        exact ⟨rfl, by first | exact drewN_below' (drewN_below' HB.out _) _ | exact drewN_below' HB.out _⟩
    · have t2 : (go == go') = false := by simp [e2]
      rw [decide_eq_false e2, Bool.false_and]
      clear e2 HF HN
      go_enter Try.func44, Try.ntmps44
      go_wp2_with fail
      go_ret
      exact ⟨rfl, HB.out⟩
  · have t1 : (st == st') = false := by simp [e1]
    rw [decide_eq_false e1, Bool.false_and]
    clear e1 HF HN
    go_enter Try.func44, Try.ntmps44
    go_wp2_with fail
    go_ret
    exact ⟨rfl, HB.out⟩
set_option maxRecDepth 100000 in
set_option maxHeartbeats 3200000 in
theorem implSameAuto (u v : Value) (x y : Au) (w : World) (hf : FewA x) (hg : FewA y) (h1 : IsAu w u x) (h2 : IsAu w v y) :
    Calls Try.prog 45 #[u, v] w fun e w' => e = .returned (.bool (sameAu x y)) ∧ Below w.heap.size w w' := by
  obtain ⟨f1, n1, rfl, hF1, hN1⟩ := h1
  obtain ⟨f2, n2, rfl, hF2, hN2⟩ := h2
  obtain ⟨st, go, fin, nx⟩ := x
  obtain ⟨st', go', fin', nx'⟩ := y
  simp only at hF1 hN1 hF2 hN2
  have hB0 : Below w.heap.size w ((w.alloc (.cells #[.int .i64 st, .int .i64 go, f1, n1] 61)).alloc (.cells #[.int .i64 st', .int .i64 go', f2, n2] 61)) := ((Below.refl _ w).alloc (Nat.le_refl _) _).alloc (by simp) _
  have b1 := (Below.refl _ (w.alloc (.cells #[.int .i64 st, .int .i64 go, f1, n1] 61))).alloc (Nat.le_refl _) (.cells #[.int .i64 st', .int .i64 go', f2, n2] 61)
  have hP := (b1.block w.heap.size (by simp)).trans (heap_alloc_new w _)
  have hQ := heap_alloc_new (w.alloc (.cells #[.int .i64 st, .int .i64 go, f1, n1] 61)) (.cells #[.int .i64 st', .int .i64 go', f2, n2] 61)
  rw [show (w.alloc (.cells #[.int .i64 st, .int .i64 go, f1, n1] 61)).heap.size = w.heap.size + 1 from by simp] at hQ
  obtain ⟨A1, c1, rfl⟩ := hF1.shape
  obtain ⟨A2, c2, rfl⟩ := hF2.shape
  obtain ⟨A3, c3, rfl, hx3⟩ := id hN1
  obtain ⟨A4, c4, rfl, hx4⟩ := id hN2
  have HF := Lib.hid (fun W (hb : Below w.heap.size w W) => sameE_any _ _ fin fin' W hf.fin hg.fin (hF1.kept hb) (hF2.kept hb))
  have HN := Lib.hid (fun W (hb : Below w.heap.size w W) => rowsE_any _ _ nx nx' W hf.nx hg.nx hf.row hg.row (hN1.kept hb) (hN2.kept hb))
  have HB := Lib.hid hB0
  obtain ⟨⟨p0, p1, p2, p3⟩, _⟩ := blk4_cells hP
  obtain ⟨⟨q0, q1, q2, q3⟩, _⟩ := blk4_cells hQ
  have HCC := Lib.hid (And.intro (blk4_cells hP).1 (blk4_cells hQ).1)
  clear hF1 hF2 hN1 hN2 hP hQ hB0 b1 hf hg hx3 hx4
  unfold sameAu
  simp only
  generalize fin.length = lf at *
  generalize fin'.length = lf' at *
  generalize nx.length = ln at *
  generalize nx'.length = ln' at *
  by_cases e1 : st = st'
  · have t1 : (st == st') = true := by simp [e1]
    rw [decide_eq_true e1, Bool.true_and]
    clear e1
    by_cases e2 : go = go'
    · have t2 : (go == go') = true := by simp [e2]
      rw [decide_eq_true e2, Bool.true_and]
      clear e2
      cases e3 : decide (fin = fin')
      · rw [e3] at HF
        rw [Bool.false_and]
        clear e3 HN
        go_enter Try.func45, Try.ntmps45
        go_wp2_with fail
        refine (HF.out _ HB.out).mono ?_
        rintro e w1 ⟨rfl, q, rfl⟩
        go_wp2_with fail
        go_ret
        exact ⟨rfl, drewN_below' HB.out _⟩
      · rw [e3] at HF
        rw [Bool.true_and]
        clear e3
        generalize decide (nx = nx') = R at *
        go_enter Try.func45, Try.ntmps45
        go_wp2_with fail
        refine (HF.out _ HB.out).mono ?_
        rintro e w1 ⟨rfl, q, rfl⟩
        go_wp2_with fail
        refine (HN.out _ (drewN_below' HB.out _)).mono ?_
        rintro e w1 ⟨rfl, q', rfl⟩
        go_wp2_with fail
        go_ret
        exact ⟨rfl, by first | exact drewN_below' (drewN_below' HB.out _) _ | exact drewN_below' HB.out _⟩
    · have t2 : (go == go') = false := by simp [e2]
      rw [decide_eq_false e2, Bool.false_and]
      clear e2 HF HN
      go_enter Try.func45, Try.ntmps45
      go_wp2_with fail
      go_ret
      exact ⟨rfl, HB.out⟩
  · have t1 : (st == st') = false := by simp [e1]
    rw [decide_eq_false e1, Bool.false_and]
    clear e1 HF HN
    go_enter Try.func45, Try.ntmps45
    go_wp2_with fail
    go_ret
    exact ⟨rfl, HB.out⟩
end Go.Proofs.Ytonbjgecdhmjbaa
