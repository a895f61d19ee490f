/-
  Walks: length, part and whole of a fold of stretches.
-/
import Derived.Test.YtcaeihdfljljbaaLrF
import Derived.Test.YtcaeihdfljljbaaLrQ
import Derived.Test.YtcaeihdfljljbaaGWLen
import Derived.Test.YtcaeihdfljljbaaCovK
namespace Go.Proofs.Ytcaeihdfljljbaa
open Go.RowKit
open Wd
set_option linter.unusedVariables false
theorem und_lrm : ∃ d, Try.prog.underlying 115 = some d ∧ rowD d = true := und_row (by kernel_rfl)
theorem results_cell_rowDs {P : Program} {fn : Func} {p : Tmp} {ty : TypeId} {d : TypeDesc} (hd : rowD d = true) (h : fn.results = #[.cell p ty]) (tmps : Array Value) (w : World) (g : Nat) (t : TypeId) (cs : Array Value) (fr : Nat × Nat)
    (hp : tmps.getD p undef = .pointer (some ⟨g, 0, none⟩)) (hg : w.heap[g]? = some (.cells cs t fr))
    (hu : P.underlying ty = some d) (hi : (P.info? ty).map (·.size) = some cs.size) : (results fn tmps).run P w = .ok (.agg cs) w := by
  have hp' : tmps[p]?.getD undef = .pointer (some ⟨g, 0, none⟩) := by simpa using hp
  simp [results, h, hp', asAddr, load_row' w g t ty cs fr d hd hg hu hi]
theorem rowD_isRows {d : TypeDesc} (h : rowD d = true) : d.isRow = true := by cases d <;> simp_all [rowD]
theorem lrAll_one (bl : Nat) (A0 A1 A2 : Option Addr) (l0 l1 l2 c0 c1 c2 : Nat) : (lrAll bl (.slice A0 l0 c0) (.slice A1 l1 c1) (.slice A2 l2 c2)).all (·.oneCell') = true :=
  all_oneCell_toArray (cs := [.int .i64 0, .int .i64 0, .int .i64 0, .int .i64 0, lrL bl, lrT, .slice A0 l0 c0, .slice A1 l1 c1, .slice A2 l2 c2]) (by intro v hv; simp only [List.mem_cons, List.not_mem_nil, or_false] at hv; rcases hv with rfl | rfl | rfl | rfl | rfl | rfl | rfl | rfl | rfl <;> rfl)
theorem lrZero_one : lrZero.all (·.oneCell') = true := by kernel_rfl
theorem lrZero_size : (Try.prog.info? 122).map (·.size) = some lrZero.size := size_lrFold 0 (.int .i64 0) (.int .i64 0) (.int .i64 0)
theorem IsLr.shape {w : World} {lo bl l : Nat} {fv gv : Value} {gs : List Rl} (h : IsLr w lo bl l fv gv gs) : ∃ A1 c1 A2 c2, fv = .agg (lrAll bl gv (.slice A1 gs.length c1) (.slice A2 gs.length c2)) ∧ OwnsI w lo (.slice A1 gs.length c1) (lens gs) ∧ w.ownsRow lo 115 4 (.slice A2 gs.length c2) gs.length (iv (flV (stAt l gs) gs.length)) := by
  obtain ⟨lv, vv, h0, h1, h2⟩ := h
  obtain ⟨A1, c1, rfl⟩ := own_slice h1
  obtain ⟨A2, c2, rfl⟩ := own_slice h2
  rw [lens_len] at h0 h1
  exact ⟨A1, c1, A2, c2, h0, h1, h2⟩
theorem IsLr.setRow {w : World} {lo R bl l : Nat} {fv gv : Value} {gs : List Rl} (h : IsLr w lo bl l fv gv gs) (hR : R < lo) (cs : Array Value) : IsLr (w.setRow R cs) lo bl l fv gv gs := by
  obtain ⟨lv, vv, h0, h1, h2⟩ := h
  exact ⟨lv, vv, h0, World.ownsRow.kept h1 (grown_setRow w R cs) (.inr fun e => by have := (h1.lt R e).1; omega), World.ownsRow.kept h2 (grown_setRow w R cs) (.inr fun e => by have := (h2.lt R e).1; omega)⟩
set_option maxRecDepth 100000 in
theorem lrLength_any (fv gv : Value) (gs : List Rl) (lo bl l : Nat) (w : World) (hn : gs.length ≤ 1048576) (h : IsLr w lo bl l fv gv gs) :
    Calls Try.prog 128 #[fv] w fun e w' => e = .returned (.int .i64 (wordLen gs)) ∧ w' = w.alloc (.cells fv.cells 122) := by
  obtain ⟨A1, c1, A2, c2, rfl, h1, _⟩ := h.shape
  have HL := Lib.hid (wordLength_any _ gs lo _ hn (h1.alloc (.cells (lrAll bl gv (.slice A1 gs.length c1) (.slice A2 gs.length c2)) 122)))
  have h7 := cell_of_row _ _ 7 _ _ _ (heap_alloc_new w (.cells (lrAll bl gv (.slice A1 gs.length c1) (.slice A2 gs.length c2)) 122))
  have h7 : (w.alloc (.cells (lrAll bl gv (.slice A1 gs.length c1) (.slice A2 gs.length c2)) 122)).cell? ⟨w.heap.size, 7, none⟩ = some (.slice A1 gs.length c1) := h7
  have HN := Lib.hid (lens_len gs)
  clear h h1 hn
  go_enter Try.func128, Try.ntmps128
  go_wp2_with fail
  refine HL.out.mono ?_
  rintro e w1 ⟨rfl, rfl⟩
  go_wp2_with fail
  go_ret
  exact ⟨rfl, rfl⟩
theorem s6s {w w' : World} {p1 p2 p3 p4 p5 p6 : Addr} {v1 v2 v3 v4 v5 v6 : Value}
    (h : w.cell? p1 = some v1 ∧ w.cell? p2 = some v2 ∧ w.cell? p3 = some v3 ∧ w.cell? p4 = some v4 ∧ w.cell? p5 = some v5 ∧ w.cell? p6 = some v6)
    (k : ∀ p v, w.cell? p = some v → w'.cell? p = some v) :
    w'.cell? p1 = some v1 ∧ w'.cell? p2 = some v2 ∧ w'.cell? p3 = some v3 ∧ w'.cell? p4 = some v4 ∧ w'.cell? p5 = some v5 ∧ w'.cell? p6 = some v6 :=
  ⟨k _ _ h.1, k _ _ h.2.1, k _ _ h.2.2.1, k _ _ h.2.2.2.1, k _ _ h.2.2.2.2.1, k _ _ h.2.2.2.2.2⟩
theorem range4s {w : World} {V : Nat} {t : TypeId} {a b c d : Value} (h : w.heap[V]? = some (.cells #[a, b, c, d] t (0, 0))) : w.rangeAt V 0 [a, b, c, d] := by
  intro j v hv
  rw [Nat.zero_add, cell_of_row _ _ _ _ _ _ h]
  simpa using hv
theorem size_lr : (Try.prog.info? 115).map (·.size) = some 4 := by kernel_rfl
abbrev stCs (u : List Int) : Array Value := #[.int .i64 (u.getD 0 0), .int .i64 (u.getD 1 0), .int .i64 (u.getD 2 0), .int .i64 (u.getD 3 0)]
/-- between two rules of the cover: F the fold's block, the value's is F + 2 -/
def PrSt (l : Nat) (gs : List Rl) (cov : List Int) (F : Nat) (w4 : World) (m : Nat) (wr : World) : Prop :=
  wr.heap[F + 2]? = some (.cells (stCs (accV stJ stNil (stAt l gs) (cov.take m))) 115 (0, 0)) ∧ w4.grownBy wr (some (F + 2))
theorem grown_set4s {w w9 : World} {V b : Nat} (h : w.grownBy w9 (some V)) (hb : b = V) (a c d e : Value) : w.grownBy (w9.setCells b 0 [a, c, d, e]) (some V) := by
  subst hb
  exact only_setCell (only_setCell (only_setCell (only_setCell h (.inl rfl) _) (.inl rfl) _) (.inl rfl) _) (.inl rfl) _
set_option maxRecDepth 100000 in
set_option maxHeartbeats 6400000 in
theorem lrPart_any (fv gv : Value) (gs : List Rl) (i j : Int) (lo bl l : Nat) (w : World) (hok : gOk gs = true) (hr : Rules w gv gs) (h : IsLr w lo bl l fv gv gs) (hij : 0 ≤ i ∧ i ≤ j ∧ j ≤ wordLen gs) :
    Calls Try.prog 127 #[fv, .int .i64 i, .int .i64 j] w fun e w' => e = .returned (.agg (stCs (stPart l gs i j))) ∧ Below w.heap.size w w' := by
  obtain ⟨A1, c1, A2, c2, rfl, h1, h2⟩ := h.shape
  obtain ⟨hF, hR, hV, hB3, hs3⟩ := al3 w (.cells (lrAll bl gv (.slice A1 gs.length c1) (.slice A2 gs.length c2)) 122) (.cells #[.int .i64 0, .int .i64 0, .int .i64 0, .int .i64 0] 115) (.cells #[.int .i64 0, .int .i64 0, .int .i64 0, .int .i64 0] 115)
  have hn400 := gOk_len hok
  have hwl := wordLen_bd' hok
  by_cases he : i = j
  · subst he
    unfold stPart
    rw [if_pos rfl]
    obtain ⟨⟨v0, v1, v2, v3⟩, f0, f1, f2, f3⟩ := blk4_cells hV
    obtain ⟨⟨r0, r1, r2, r3⟩, g0, g1, g2, g3⟩ := blk4_cells hR
    have HB := Lib.hid hB3
    clear h h1 h2 hF hR hV hB3 hs3 v0 v1 v2 v3 f0 f1 f2 f3 r0 r1 r2 r3 g0 g1 g2 g3
    go_enter Try.func127, Try.ntmps127
    go_wp2_with fail
    exact bodyPost_ret (v := .agg (stCs stNil)) (by simp [results, Try.results127, go_sem, stCs, stNil]) rfl ⟨rfl, HB.out⟩
  · have hg : 0 < gs.length := by
      rcases Nat.eq_zero_or_pos gs.length with h0 | h0
      · have := wordLen_zero h0; omega
      · exact h0
    have hpt : stPart l gs i j = accV stJ stNil (stAt l gs) (covA gs i j) := by unfold stPart; rw [if_neg he]
    have h1' : w.ownsRow lo 2 1 (.slice A1 gs.length c1) gs.length (iv (lens gs)) := by
      have := h1
      unfold OwnsI at this
      rw [lens_len] at this
      exact this
    obtain ⟨L, rfl, _, hL⟩ := own_addr h1' hg
    obtain ⟨M, rfl, _, hM⟩ := own_addr h2 hg
    have hlc : ∀ k, k < gs.length → w.cell? ⟨L, k, none⟩ = some (.int .i64 ((lens gs).getD k 0)) := fun k hk => by
      rw [h1'.cellAt k (by omega)]
      exact iv_at (by rw [lens_len]; exact hk)
    have hcov := fun W (hb : Below w.heap.size w W) => coverOf_any gv (.slice (some ⟨L, 0, none⟩) gs.length c1) gs i j L c1 W hok hg (hr.kept hb) rfl (Nat.lt_of_lt_of_le hL hb.size) (fun k hk => (hb.cell (p := ⟨L, k, none⟩) hL).trans (hlc k hk)) (covA_few hok hg i j)
    have HCV := Lib.hid (hcov _ hB3)
    have HH := Lib.hid (And.intro hF (And.intro hR hV))
    have HB3 := Lib.hid hB3
    have HS3 := Lib.hid hs3
    have HO2 := Lib.hid (fun W (hb : Below w.heap.size w W) => own_below h2 hb (Nat.le_refl _))
    have HPT := Lib.hid hpt
    obtain ⟨dm, hum, hdm⟩ := und_lrm
    have HUM := Lib.hid (And.intro hum hdm)
    clear hum hdm
    have HOK := Lib.hid hok
    have HALL : Hid (∀ k, k < gs.length → stB (stAt l gs k)) := Lib.hid (fun k hk => stB_of (stAt_ok hok hk) (small_at (gOk_iff.1 hok).2.2 k hk))
    have HLT := Lib.hid (covA_lt hok hg i j)
    have HFEW := Lib.hid (covA_few hok hg i j)
    have HACC := Lib.hid (fun m => stAcc_ok (l := l) hok hg i j m)
    have hf6 := cell_of_row _ _ 6 _ _ _ hF
    have hf7 := cell_of_row _ _ 7 _ _ _ hF
    have hne : ((i : Int) == j) = false := by rw [beq_eq_false_iff_ne]; exact he
    obtain ⟨Ag, cg, rfl, _⟩ := hr
    have hf6 : (((w.alloc (.cells (lrAll bl (.slice Ag gs.length cg) (.slice (some ⟨L, 0, none⟩) gs.length c1) (.slice (some ⟨M, 0, none⟩) gs.length c2)) 122)).alloc (.cells #[.int .i64 0, .int .i64 0, .int .i64 0, .int .i64 0] 115)).alloc (.cells #[.int .i64 0, .int .i64 0, .int .i64 0, .int .i64 0] 115)).cell? ⟨w.heap.size, 6, none⟩ = some (.slice Ag gs.length cg) := hf6
    have hf7 : (((w.alloc (.cells (lrAll bl (.slice Ag gs.length cg) (.slice (some ⟨L, 0, none⟩) gs.length c1) (.slice (some ⟨M, 0, none⟩) gs.length c2)) 122)).alloc (.cells #[.int .i64 0, .int .i64 0, .int .i64 0, .int .i64 0] 115)).alloc (.cells #[.int .i64 0, .int .i64 0, .int .i64 0, .int .i64 0] 115)).cell? ⟨w.heap.size, 7, none⟩ = some (.slice (some ⟨L, 0, none⟩) gs.length c1) := hf7
    clear h h1 h1' h2 hF hR hV hB3 hs3 hlc hcov hpt he
    go_enter Try.func127, Try.ntmps127
    go_upto_region 4 with fail
    change Code.wp _ _ _ _ (((w.alloc (.cells (lrAll bl (.slice Ag gs.length cg) (.slice (some ⟨L, 0, none⟩) gs.length c1) (.slice (some ⟨M, 0, none⟩) gs.length c2)) 122)).alloc (.cells #[.int .i64 0, .int .i64 0, .int .i64 0, .int .i64 0] 115)).alloc (.cells #[.int .i64 0, .int .i64 0, .int .i64 0, .int .i64 0] 115))
    generalize ((w.alloc (.cells (lrAll bl (.slice Ag gs.length cg) (.slice (some ⟨L, 0, none⟩) gs.length c1) (.slice (some ⟨M, 0, none⟩) gs.length c2)) 122)).alloc (.cells #[.int .i64 0, .int .i64 0, .int .i64 0, .int .i64 0] 115)).alloc (.cells #[.int .i64 0, .int .i64 0, .int .i64 0, .int .i64 0] 115) = w3 at *
    go_wp2_with fail
    refine HCV.out.mono ?_
    rintro e w4 ⟨y, rfl, hy, hB4⟩
    obtain ⟨Ay, cy, rfl⟩ := own_slice hy
    have hs4 := hB4.size
    have hs3 := HS3.out
    have HF4 := Lib.hid ((hB4.block w.heap.size (by omega)).trans HH.out.1)
    have HR4 := Lib.hid ((hB4.block (w.heap.size + 1) (by omega)).trans HH.out.2.1)
    have HV4 := Lib.hid ((hB4.block (w.heap.size + 2) (by omega)).trans HH.out.2.2)
    have HB4 := Lib.hid (HB3.out.trans (hB4.mono HB3.out.size))
    have HO4 := Lib.hid (HO2.out _ HB4.out)
    have HY : Hid (w4.ownsRow (w.heap.size + 3) 2 1 (.slice Ay (covA gs i j).length cy) (covA gs i j).length (iv (covA gs i j))) := Lib.hid (by rw [hs3] at hy; exact hy)
    obtain ⟨N, hN⟩ : ∃ N, N = (covA gs i j).length := ⟨_, rfl⟩
    have hNf : N ≤ 1048576 := by rw [hN]; exact HFEW.out
    have HN := Lib.hid hN
    rw [show (coverF gs i j gs.length (gs.length - 1) 0).length = N from hN.symm]
    rw [← hN] at HY
    have HST : Hid (PrSt l gs (covA gs i j) w.heap.size w4 0 w4) := Lib.hid ⟨HV4.out, World.grownBy.refl _ _⟩
    clear hf6 hf7 hy hB4 hN hne
    go_wp2_with fail
    go_loopw [9, 25] (fun _ z wr => ∃ m : Nat, m ≤ N ∧ z = .int .i64 m ∧ PrSt l gs (covA gs i j) w.heap.size w4 m wr) (fun _ z _ => N - (intOf z).toNat)
    case atStart => exact ⟨0, Nat.zero_le _, rfl, HST.out⟩
    case round =>
      obtain ⟨m, hm, rfl, hV, hg1⟩ := hrel
      obtain ⟨wo, rfl⟩ : ∃ wo : World, wo = wr := ⟨_, rfl⟩
      have hF := (hg1.block w.heap.size (by omega) (by intro e; injection e with e; omega)).trans HF4.out
      have hMo := World.ownsRow.kept HO4.out hg1 (.inr (by intro e; injection e with e; simp only at e; omega))
      have hYo := World.ownsRow.kept HY.out hg1 (.inr (by intro e; have := (HY.out.lt _ e).1; omega))
      have HG1 := Lib.hid hg1
      have HV : Hid (wo.heap[w.heap.size + 2]? = some (.cells #[.int .i64 ((accV stJ stNil (stAt l gs) ((covA gs i j).take m)).getD 0 0), .int .i64 ((accV stJ stNil (stAt l gs) ((covA gs i j).take m)).getD 1 0), .int .i64 ((accV stJ stNil (stAt l gs) ((covA gs i j).take m)).getD 2 0), .int .i64 ((accV stJ stNil (stAt l gs) ((covA gs i j).take m)).getD 3 0)] 115 (0, 0))) := Lib.hid hV
      by_cases hmN : m < N
      · have hmc : m < (covA gs i j).length := by rw [← HN.out]; exact hmN
        have hq := HLT.out _ (List.getElem_mem hmc)
        obtain ⟨q, hqe⟩ : ∃ q : Nat, (covA gs i j)[m] = q := ⟨((covA gs i j)[m]).toNat, by omega⟩
        have hql : q < gs.length := by omega
        obtain ⟨gy, hgy, _⟩ := own_addr hYo (by omega)
        subst hgy
        have hyc : wo.cell? ⟨gy, m, none⟩ = some (.int .i64 (q : Int)) := by rw [hYo.cellAt m (by omega), iv_get _ m hmc, hqe]
        have hacc := HACC.out m
        have hvq := HALL.out q hql
        have hnx := acc_take stJ stNil (stAt l gs) (covA gs i j) m hmc
        rw [hqe, Int.toNat_natCast] at hnx
        obtain ⟨m0, m1, m2, m3⟩ := lrSt_cells (fun k hk => (HALL.out k hk).1) hMo hql
        have HNX : Hid (∀ w8, wo.grownBy w8 (some (w.heap.size + 2)) → w8.heap[w.heap.size + 2]? = some (.cells (stCs (stJ (accV stJ stNil (stAt l gs) ((covA gs i j).take m)) (stAt l gs q))) 115 (0, 0)) → PrSt l gs (covA gs i j) w.heap.size w4 (m + 1) w8) := Lib.hid (fun w8 h1 h2 => ⟨by rw [hnx]; exact h2, gbTrans HG1.out h1⟩)
        have hx0 : 0 ≤ (accV stJ stNil (stAt l gs) ((covA gs i j).take m)).getD 0 0 ∧ (accV stJ stNil (stAt l gs) ((covA gs i j).take m)).getD 0 0 ≤ 1000000000000000 := hacc.2 0 (by omega)
        have hx1 : 0 ≤ (accV stJ stNil (stAt l gs) ((covA gs i j).take m)).getD 1 0 ∧ (accV stJ stNil (stAt l gs) ((covA gs i j).take m)).getD 1 0 ≤ 1000000000000000 := hacc.2 1 (by omega)
        have hx2 : 0 ≤ (accV stJ stNil (stAt l gs) ((covA gs i j).take m)).getD 2 0 ∧ (accV stJ stNil (stAt l gs) ((covA gs i j).take m)).getD 2 0 ≤ 1000000000000000 := hacc.2 2 (by omega)
        have hx3 : 0 ≤ (accV stJ stNil (stAt l gs) ((covA gs i j).take m)).getD 3 0 ∧ (accV stJ stNil (stAt l gs) ((covA gs i j).take m)).getD 3 0 ≤ 1000000000000000 := hacc.2 3 (by omega)
        have hy0 : 0 ≤ (stAt l gs q).getD 0 0 ∧ (stAt l gs q).getD 0 0 ≤ 1000000000000000 := hvq.2 0 (by omega)
        have hy1 : 0 ≤ (stAt l gs q).getD 1 0 ∧ (stAt l gs q).getD 1 0 ≤ 1000000000000000 := hvq.2 1 (by omega)
        have hy2 : 0 ≤ (stAt l gs q).getD 2 0 ∧ (stAt l gs q).getD 2 0 ≤ 1000000000000000 := hvq.2 2 (by omega)
        have hy3 : 0 ≤ (stAt l gs q).getD 3 0 ∧ (stAt l gs q).getD 3 0 ≤ 1000000000000000 := hvq.2 3 (by omega)
        have HTC : Hid (stCs (stJ (accV stJ stNil (stAt l gs) ((covA gs i j).take m)) (stAt l gs q)) = #[.int .i64 (((accV stJ stNil (stAt l gs) ((covA gs i j).take m)).getD 0 0) + ((stAt l gs q).getD 0 0)), .int .i64 (if ((accV stJ stNil (stAt l gs) ((covA gs i j).take m)).getD 1 0) = ((accV stJ stNil (stAt l gs) ((covA gs i j).take m)).getD 0 0) then ((accV stJ stNil (stAt l gs) ((covA gs i j).take m)).getD 1 0) + ((stAt l gs q).getD 1 0) else ((accV stJ stNil (stAt l gs) ((covA gs i j).take m)).getD 1 0)), .int .i64 (if ((stAt l gs q).getD 2 0) = ((stAt l gs q).getD 0 0) then ((stAt l gs q).getD 2 0) + ((accV stJ stNil (stAt l gs) ((covA gs i j).take m)).getD 2 0) else ((stAt l gs q).getD 2 0)), .int .i64 (max (max ((accV stJ stNil (stAt l gs) ((covA gs i j).take m)).getD 3 0) ((stAt l gs q).getD 3 0)) (((accV stJ stNil (stAt l gs) ((covA gs i j).take m)).getD 2 0) + ((stAt l gs q).getD 1 0)))]) := Lib.hid rfl
        clear hnx hacc hvq
        generalize (accV stJ stNil (stAt l gs) ((covA gs i j).take m)).getD 0 0 = x0 at *
        generalize (accV stJ stNil (stAt l gs) ((covA gs i j).take m)).getD 1 0 = x1 at *
        generalize (accV stJ stNil (stAt l gs) ((covA gs i j).take m)).getD 2 0 = x2 at *
        generalize (accV stJ stNil (stAt l gs) ((covA gs i j).take m)).getD 3 0 = x3 at *
        generalize (stAt l gs q).getD 0 0 = y0 at *
        generalize (stAt l gs q).getD 1 0 = y1 at *
        generalize (stAt l gs q).getD 2 0 = y2 at *
        generalize (stAt l gs q).getD 3 0 = y3 at *
        rw [HTC.out] at HNX
        have HTH := Lib.hid (fun W => stThen_any x0 x1 x2 x3 y0 y1 y2 y3 W hx0 hx1 hx2 hx3 hy0 hy1 hy2 hy3)
        clear HTC
        generalize (if x1 = x0 then x1 + y1 else x1) = z1 at *
        generalize (if y2 = y0 then y2 + x2 else y2) = z2 at *
        generalize max (max x3 y3) (x2 + y1) = z3 at *
        generalize x0 + y0 = z0 at *
        have f5 : wo.cell? ⟨w.heap.size, 5, none⟩ = some lrT := (cell_of_row _ _ 5 _ _ _ hF)
        have f8 : wo.cell? ⟨w.heap.size, 8, none⟩ = some (.slice (some ⟨M, 0, none⟩) gs.length c2) := (cell_of_row _ _ 8 _ _ _ hF)
        have HS1 : Hid (wo.cell? ⟨w.heap.size, 5, none⟩ = some lrT ∧ wo.cell? ⟨w.heap.size, 8, none⟩ = some (.slice (some ⟨M, 0, none⟩) gs.length c2) ∧ wo.cell? ⟨M, q * 4, none⟩ = some (.int .i64 y0) ∧ wo.cell? ⟨M, q * 4 + 1, none⟩ = some (.int .i64 y1) ∧ wo.cell? ⟨M, q * 4 + 2, none⟩ = some (.int .i64 y2) ∧ wo.cell? ⟨M, q * 4 + 3, none⟩ = some (.int .i64 y3)) := Lib.hid ⟨f5, f8, m0, m1, m2, m3⟩
        have HS0 : Hid (wo.drew.cell? ⟨w.heap.size, 5, none⟩ = some lrT ∧ wo.drew.cell? ⟨w.heap.size, 8, none⟩ = some (.slice (some ⟨M, 0, none⟩) gs.length c2) ∧ wo.drew.cell? ⟨M, q * 4, none⟩ = some (.int .i64 y0) ∧ wo.drew.cell? ⟨M, q * 4 + 1, none⟩ = some (.int .i64 y1) ∧ wo.drew.cell? ⟨M, q * 4 + 2, none⟩ = some (.int .i64 y2) ∧ wo.drew.cell? ⟨M, q * 4 + 3, none⟩ = some (.int .i64 y3)) := HS1
        have HRG : Hid (wo.drew.rangeAt (w.heap.size + 2) 0 [.int .i64 x0, .int .i64 x1, .int .i64 x2, .int .i64 x3]) := Lib.hid (range4s (w := wo) HV.out)
        have HSZ4 : Hid ((Try.prog.info? 115).map (·.size) = some [Value.int .i64 x0, .int .i64 x1, .int .i64 x2, .int .i64 x3].length) := Lib.hid size_lr
        have HSZA : Hid ((Try.prog.info? 115).map (·.size) = some (#[Value.int .i64 z0, .int .i64 z1, .int .i64 z2, .int .i64 z3] : Array Value).size) := Lib.hid size_lr
        have HONE := Lib.hid (fun a b c d => (all_oneCell_toArray (one4 a b c d)))
        have hsz := hg1.size
        have HVL : Hid (w.heap.size + 2 < wo.heap.size) := Lib.hid (by omega)
        have hMV : M ≠ w.heap.size + 2 := by omega
        have HFAR : Hid (∀ (w9 : World) (p : Addr) (v : Value), w9.cell? p = some v → p.block ≠ w.heap.size + 2 → (w9.setCells (w.heap.size + 2) 0 [.int .i64 z0, .int .i64 z1, .int .i64 z2, .int .i64 z3]).cell? p = some v) := Lib.hid (fun w9 p v h hne => (World.cell?_setCells_out _ _ _ _ _ (fun e _ => absurd e hne)).trans h)
        have q0 : (0 : Int) ≤ (q : Int) := by omega
        have q1 : (q : Int) < (gs.length : Int) := by omega
        have k0 : (0 : Int) ≤ (m : Int) := by omega
        have k1 : (m : Int) < (N : Int) := by omega
        clear f5 f8 m0 m1 m2 m3 hx0 hx1 hx2 hx3 hy0 hy1 hy2 hy3 hF hMo hYo hq hqe hV hg1
        go_upto_region 7 with fail
        refine wp_region_held_drew (S := fun w' : World => w'.cell? ⟨w.heap.size, 5, none⟩ = some lrT ∧ w'.cell? ⟨w.heap.size, 8, none⟩ = some (.slice (some ⟨M, 0, none⟩) gs.length c2) ∧ w'.cell? ⟨M, q * 4, none⟩ = some (.int .i64 y0) ∧ w'.cell? ⟨M, q * 4 + 1, none⟩ = some (.int .i64 y1) ∧ w'.cell? ⟨M, q * 4 + 2, none⟩ = some (.int .i64 y2) ∧ w'.cell? ⟨M, q * 4 + 3, none⟩ = some (.int .i64 y3)) (by kernel_rfl) HS0.out (fun hHeld => ?_)
        refine takeH (i := 0) (dst := some 29) (v := ?_) rfl (by kernel_rfl) (by kernel_rfl) (by kernel_rfl) (fun _ _ _ h => h) (Or.inl ⟨by rfl, ?_⟩) (by assumption) ?_
        rotate_left 1
        · (intro w hSw; (try dsimp only at hSw); go_simp; try (with_reducible rfl))
        try simp only [Act.put, List.setIfInBounds_toArray, List.set_cons_zero, List.set_cons_succ]
        refine takeH (i := 1) (dst := some 30) (v := ?_) rfl (by kernel_rfl) (by kernel_rfl) (by kernel_rfl) (fun _ _ _ h => h) (Or.inl ⟨by rfl, ?_⟩) (by assumption) ?_
        rotate_left 1
        · (intro w hSw; (try dsimp only at hSw); go_simp; try (with_reducible rfl))
        try simp only [Act.put, List.setIfInBounds_toArray, List.set_cons_zero, List.set_cons_succ]
        refine takeH (i := 2) (dst := some 31) (v := ?_) rfl (by kernel_rfl) (by kernel_rfl) (by kernel_rfl) (fun _ _ _ h => h) (Or.inl ⟨by rfl, ?_⟩) (by assumption) ?_
        rotate_left 1
        · (intro w hSw; (try dsimp only at hSw); go_simp; try (with_reducible rfl))
        try simp only [Act.put, List.setIfInBounds_toArray, List.set_cons_zero, List.set_cons_succ]
        refine takeH (i := 4) (dst := some 33) (v := ?_) rfl (by kernel_rfl) (by kernel_rfl) (by kernel_rfl) (fun _ _ _ h => h) (Or.inl ⟨by rfl, ?_⟩) (by assumption) ?_
        rotate_left 1
        · (intro w hSw; (try dsimp only at hSw); go_simp; try (with_reducible rfl))
        try simp only [Act.put, List.setIfInBounds_toArray, List.set_cons_zero, List.set_cons_succ]
        refine takeH (i := 5) (dst := some 34) (v := ?_) rfl (by kernel_rfl) (by kernel_rfl) (by kernel_rfl) (fun _ _ _ h => h) (Or.inl ⟨by rfl, ?_⟩) (by assumption) ?_
        rotate_left 1
        · (intro w hSw; (try dsimp only at hSw); go_simp; try (with_reducible rfl))
        try simp only [Act.put, List.setIfInBounds_toArray, List.set_cons_zero, List.set_cons_succ]
        refine takeH (i := 6) (dst := some 35) (v := ?_) rfl (by kernel_rfl) (by kernel_rfl) (by kernel_rfl) (fun _ _ _ h => h) (Or.inl ⟨by rfl, ?_⟩) (by assumption) ?_
        rotate_left 1
        · (intro w hSw; (try dsimp only at hSw); go_simp; try (with_reducible rfl))
        try simp only [Act.put, List.setIfInBounds_toArray, List.set_cons_zero, List.set_cons_succ]
        refine takeH (i := 7) (dst := some 36) (v := ?_) rfl (by kernel_rfl) (by kernel_rfl) (by kernel_rfl) (fun _ _ _ h => h) (Or.inl ⟨by rfl, ?_⟩) (by assumption) ?_
        rotate_left 1
        · (intro w hSw; (try dsimp only at hSw); go_simp; try (with_reducible rfl))
        try simp only [Act.put, List.setIfInBounds_toArray, List.set_cons_zero, List.set_cons_succ]
        refine takeH (i := 8) (dst := some 37) (v := ?_) rfl (by kernel_rfl) (by kernel_rfl) (by kernel_rfl) (fun _ _ _ h => h) (Or.inl ⟨by rfl, ?_⟩) (by assumption) ?_
        rotate_left 1
        · (intro w hSw; (try dsimp only at hSw); go_simp; try (with_reducible rfl))
        try simp only [Act.put, List.setIfInBounds_toArray, List.set_cons_zero, List.set_cons_succ]
        refine wpAnyH_ready (rs := [3]) (by kernel_rfl) (by simp) ?_
        refine AllReadyH.cons (o := ⟨some 32, _, _, _, _, none⟩) rfl (fun K hK => ?_) AllReadyH.nil
        refine step_load_mid (by rfl) 115 _ (by rfl) (w.heap.size + 2) 0 (by rfl) [.int .i64 x0, .int .i64 x1, .int .i64 x2, .int .i64 x3] _ HRG.out HUM.out.1 (rowD_isRows HUM.out.2) HSZ4.out ?_
        refine hK.out _ _ (HS0.out) (fun hHeld => ?_)
        clear hK K
        try simp only [Act.put, List.setIfInBounds_toArray, List.set_cons_zero, List.set_cons_succ]
        refine wpAnyH_ready (rs := [9]) (by kernel_rfl) (by simp) ?_
        refine AllReadyH.cons (o := ⟨some 38, _, _, _, _, none⟩) rfl (fun K hK => ?_) AllReadyH.nil
        go_simp
        go_at_call 71
        refine (HTH.out _).mono ?_
        rintro e w9 ⟨rfl, hB9⟩
        have hB9 := below_undrew hB9
        have HB9 := Lib.hid hB9
        have HS9 := Lib.hid (s6s HS1.out (cells_below hB9))
        clear hB9
        refine hK.out _ _ (HS9.out) (fun hHeld => ?_)
        clear hK K
        try simp only [Act.put, List.setIfInBounds_toArray, List.set_cons_zero, List.set_cons_succ]
        refine wpAnyH_ready (rs := [10]) (by kernel_rfl) (by simp) ?_
        refine AllReadyH.cons (o := ⟨none, _, _, _, _, none⟩) rfl (fun K hK => ?_) AllReadyH.nil
        refine step_store_mid (by rfl) 115 _ _ (by rfl) (w.heap.size + 2) 0 #[.int .i64 z0, .int .i64 z1, .int .i64 z2, .int .i64 z3] (by rfl) (by rfl) (there4 ((HB9.out.block _ HVL.out).trans HV.out)) HSZA.out (HONE.out _ _ _ _) ?_
        refine hK.out _ _ (⟨HFAR.out w9 _ _ HS9.out.1 (by simp only; omega), HFAR.out w9 _ _ HS9.out.2.1 (by simp only; omega), HFAR.out w9 _ _ HS9.out.2.2.1 hMV, HFAR.out w9 _ _ HS9.out.2.2.2.1 hMV, HFAR.out w9 _ _ HS9.out.2.2.2.2.1 hMV, HFAR.out w9 _ _ HS9.out.2.2.2.2.2 hMV⟩) (fun hHeld => ?_)
        clear hK K
        refine wpAnyH_done (by kernel_rfl) ?_ _
        have hb9 := HB9.out
        have HNW := Lib.hid (HNX.out (w9.setCells (w.heap.size + 2) 0 [.int .i64 z0, .int .i64 z1, .int .i64 z2, .int .i64 z3]) (grown_set4s (gbOf hb9 _) rfl _ _ _ _) (blk4_all ((hb9.block _ HVL.out).trans HV.out)))
        clear hb9
        go_wp2_with fail
        go_roundw
        all_goals first | exact ⟨m + 1, by omega, by go_num, HNW.out⟩ | ((repeat apply Exists.intro); exact ⟨⟨m + 1, by omega, by go_num, HNW.out⟩, rfl⟩) | (simp [intOf]; done) | (simp [intOf]; omega) | omega
      · obtain rfl : m = N := by omega
        have hall : accV stJ stNil (stAt l gs) ((covA gs i j).take m) = stPart l gs i j := by rw [HN.out, List.take_length, HPT.out]
        rw [hall] at hV
        have hR := (hg1.block (w.heap.size + 1) (by omega) (by intro e; injection e with e; omega)).trans HR4.out
        have hbw : Below w.heap.size w wo := HB4.out.grown hg1 HB4.out.size (fun q hq => by injection hq with hq; omega)
        obtain ⟨⟨v0, v1, v2, v3⟩, _⟩ := blk4_cells hV
        obtain ⟨⟨r0, r1, r2, r3⟩, g0, g1, g2, g3⟩ := blk4_cells hR
        have HZ := Lib.hid (blk4_cells (blk4_all (a' := .int .i64 ((stPart l gs i j).getD 0 0)) (b' := .int .i64 ((stPart l gs i j).getD 1 0)) (c' := .int .i64 ((stPart l gs i j).getD 2 0)) (d' := .int .i64 ((stPart l gs i j).getD 3 0)) hR)).1
        have HE : Hid (∀ a b c d, Below w.heap.size w ((((wo.setCell ⟨w.heap.size + 1, 0, none⟩ a).setCell ⟨w.heap.size + 1, 1, none⟩ b).setCell ⟨w.heap.size + 1, 2, none⟩ c).setCell ⟨w.heap.size + 1, 3, none⟩ d)) := Lib.hid (fun a b c d => (((hbw.setCell (by simp) _).setCell (by simp) _).setCell (by simp) _).setCell (by simp) _)
        have HA : Hid (Value.agg (stCs (stPart l gs i j)) = ag4s ((stPart l gs i j).getD 0 0) ((stPart l gs i j).getD 1 0) ((stPart l gs i j).getD 2 0) ((stPart l gs i j).getD 3 0)) := Lib.hid rfl
        generalize (stPart l gs i j).getD 0 0 = x0 at *
        generalize (stPart l gs i j).getD 1 0 = x1 at *
        generalize (stPart l gs i j).getD 2 0 = x2 at *
        generalize (stPart l gs i j).getD 3 0 = x3 at *
        clear hall hV hR hbw hF hMo hYo hg1
        go_wp2_with fail
        obtain ⟨z0, z1, z2, z3⟩ := HZ.out
        exact bodyPost_ret (v := ag4s x0 x1 x2 x3) (by simp [results, Try.results127, go_sem, z0, z1, z2, z3]) rfl ⟨by rw [HA.out], HE.out _ _ _ _⟩
theorem range_rows {w : World} {V : Nat} {t : TypeId} {cs : List Value} (h : w.heap[V]? = some (.cells cs.toArray t (0, 0))) : w.rangeAt V 0 cs := by
  intro j v hv
  rw [Nat.zero_add, cell_of_row _ _ _ _ _ _ h]
  simpa using hv
theorem rangeAt_belows {w w' : World} {b o : Nat} {cs : List Value} (h : w.rangeAt b o cs) (hb : Below w.heap.size w w') : w'.rangeAt b o cs := fun j v hv => cells_below hb _ _ (h j v hv)
set_option maxRecDepth 100000 in
set_option maxHeartbeats 3200000 in
theorem lrWhole_any (fv gv : Value) (gs : List Rl) (lo bl l : Nat) (w : World) (hok : gOk gs = true) (hr : Rules w gv gs) (h : IsLr w lo bl l fv gv gs) :
    Calls Try.prog 72 #[fv] w fun e w' => e = .returned (.agg (stCs (stPart l gs 0 (wordLen gs)))) ∧ Below w.heap.size w w' := by
  have hn400 := gOk_len hok
  have hwl := wordLen_bd' hok
  obtain ⟨A1, c1, A2, c2, hfv, _, _⟩ := h.shape
  obtain ⟨Ag, cg, hgv, _⟩ := id hr
  have hF0 := heap_alloc_new w (.cells (lrAll bl (.slice Ag gs.length cg) (.slice A1 gs.length c1) (.slice A2 gs.length c2)) 122)
  have hb1 : Below w.heap.size w (w.alloc (.cells (lrAll bl (.slice Ag gs.length cg) (.slice A1 gs.length c1) (.slice A2 gs.length c2)) 122)) := (Below.refl _ w).alloc (Nat.le_refl _) _
  have hs1 : (w.alloc (.cells (lrAll bl (.slice Ag gs.length cg) (.slice A1 gs.length c1) (.slice A2 gs.length c2)) 122)).heap.size = w.heap.size + 1 := by simp
  have hR0 := heap_alloc_new (w.alloc (.cells (lrAll bl (.slice Ag gs.length cg) (.slice A1 gs.length c1) (.slice A2 gs.length c2)) 122)) (.cells #[.int .i64 0, .int .i64 0, .int .i64 0, .int .i64 0] 115)
  rw [hs1] at hR0
  have hb2 : Below (w.heap.size + 1) (w.alloc (.cells (lrAll bl (.slice Ag gs.length cg) (.slice A1 gs.length c1) (.slice A2 gs.length c2)) 122)) ((w.alloc (.cells (lrAll bl (.slice Ag gs.length cg) (.slice A1 gs.length c1) (.slice A2 gs.length c2)) 122)).alloc (.cells #[.int .i64 0, .int .i64 0, .int .i64 0, .int .i64 0] 115)) := (Below.refl _ _).alloc (by omega) _
  have hF := (hb2.block w.heap.size (by omega)).trans hF0
  have hBB := hb1.trans (hb2.mono (by omega))
  have HLN := Lib.hid (fun W (hb : Below w.heap.size w W) => lrLength_any fv gv gs lo bl l W (by omega) (h.kept hb))
  have HPA := Lib.hid (fun W (hb : Below w.heap.size w W) => lrPart_any fv gv gs 0 (wordLen gs) lo bl l W hok (hr.kept hb) (h.kept hb) ⟨Int.le_refl _, hwl.1, Int.le_refl _⟩)
  subst hfv hgv
  have HSZ9 := Lib.hid (show (Try.prog.info? 122).map (·.size) = some ([.int .i64 0, .int .i64 0, .int .i64 0, .int .i64 0, lrL bl, lrT, .slice Ag gs.length cg, .slice A1 gs.length c1, .slice A2 gs.length c2] : List Value).length from size_lrFold bl (.slice Ag gs.length cg) (.slice A1 gs.length c1) (.slice A2 gs.length c2))
  have HSZA : Hid ((Try.prog.info? 115).map (·.size) = some (stCs (stPart l gs 0 (wordLen gs))).size) := Lib.hid size_lr
  have HONE := Lib.hid (all_oneCell_toArray (one4 ((stPart l gs 0 (wordLen gs)).getD 0 0) ((stPart l gs 0 (wordLen gs)).getD 1 0) ((stPart l gs 0 (wordLen gs)).getD 2 0) ((stPart l gs 0 (wordLen gs)).getD 3 0)))
  obtain ⟨d, hu, hd⟩ := und_lrFold
  have HU := Lib.hid (And.intro hu hd)
  obtain ⟨dm, hum, hdm⟩ := und_lrm
  have HUM := Lib.hid (And.intro hum hdm)
  clear hum hdm h hr hF0 hb1 hs1 hb2 hu hd
  go_enter Try.func72, Try.ntmps72
  go_upto_region 1 with fail
  change Code.wp _ _ _ _ ((w.alloc (.cells (lrAll bl (.slice Ag gs.length cg) (.slice A1 gs.length c1) (.slice A2 gs.length c2)) 122)).alloc (.cells #[.int .i64 0, .int .i64 0, .int .i64 0, .int .i64 0] 115))
  generalize (w.alloc (.cells (lrAll bl (.slice Ag gs.length cg) (.slice A1 gs.length c1) (.slice A2 gs.length c2)) 122)).alloc (.cells #[.int .i64 0, .int .i64 0, .int .i64 0, .int .i64 0] 115) = w2 at *
  have HR := Lib.hid hR0
  have HS2 : Hid (w2.rangeAt w.heap.size 0 [.int .i64 0, .int .i64 0, .int .i64 0, .int .i64 0, lrL bl, lrT, .slice Ag gs.length cg, .slice A1 gs.length c1, .slice A2 gs.length c2]) := Lib.hid (range_rows hF)
  have HS0 : Hid (w2.drew.rangeAt w.heap.size 0 [.int .i64 0, .int .i64 0, .int .i64 0, .int .i64 0, lrL bl, lrT, .slice Ag gs.length cg, .slice A1 gs.length c1, .slice A2 gs.length c2]) := HS2
  have HB1 : Hid (∀ o, Below w2.heap.size w2 (w2.drew.alloc o)) := Lib.hid (fun o => (Below.refl _ w2).drew.alloc (Nat.le_refl _) o)
  have HS1 : Hid (∀ o, (w2.drew.alloc o).rangeAt w.heap.size 0 [.int .i64 0, .int .i64 0, .int .i64 0, .int .i64 0, lrL bl, lrT, .slice Ag gs.length cg, .slice A1 gs.length c1, .slice A2 gs.length c2]) := Lib.hid (fun o => rangeAt_belows HS2.out (HB1.out o))
  have HBD : Hid (Below w.heap.size w w2.drew) := Lib.hid hBB.drew
  have HBA : Hid (∀ o, Below w.heap.size w (w2.drew.alloc o)) := Lib.hid (fun o => hBB.trans ((HB1.out o).mono hBB.size))
  have hRl : w.heap.size + 1 < w2.heap.size := (Array.getElem?_eq_some_iff.1 hR0).1
  have HRL := Lib.hid hRl
  have HBB := Lib.hid hBB
  clear hF hBB hR0 hRl
  refine wp_region_held_drew (S := fun w' : World => w'.rangeAt w.heap.size 0 [.int .i64 0, .int .i64 0, .int .i64 0, .int .i64 0, lrL bl, lrT, .slice Ag gs.length cg, .slice A1 gs.length c1, .slice A2 gs.length c2]) (by kernel_rfl) HS0.out (fun hHeld => ?_)
  refine takeH (i := 0) (dst := some 3) (v := .agg ([.int .i64 0, .int .i64 0, .int .i64 0, .int .i64 0, lrL bl, lrT, .slice Ag gs.length cg, .slice A1 gs.length c1, .slice A2 gs.length c2]).toArray) rfl (by kernel_rfl) (by kernel_rfl) (by kernel_rfl) (fun _ _ _ h => h) (yieldsIf_load_mid (by rfl) _ _ rfl w.heap.size 0 rfl ([.int .i64 0, .int .i64 0, .int .i64 0, .int .i64 0, lrL bl, lrT, .slice Ag gs.length cg, .slice A1 gs.length c1, .slice A2 gs.length c2]) _ (fun w hw => hw) HU.out.1 (rowD_isRows HU.out.2) HSZ9.out) (by assumption) ?_
  try simp only [Act.put, List.setIfInBounds_toArray, List.set_cons_zero, List.set_cons_succ]
  refine takeH (i := 1) (dst := some 4) (v := .agg ([.int .i64 0, .int .i64 0, .int .i64 0, .int .i64 0, lrL bl, lrT, .slice Ag gs.length cg, .slice A1 gs.length c1, .slice A2 gs.length c2]).toArray) rfl (by kernel_rfl) (by kernel_rfl) (by kernel_rfl) (fun _ _ _ h => h) (yieldsIf_load_mid (by rfl) _ _ rfl w.heap.size 0 rfl ([.int .i64 0, .int .i64 0, .int .i64 0, .int .i64 0, lrL bl, lrT, .slice Ag gs.length cg, .slice A1 gs.length c1, .slice A2 gs.length c2]) _ (fun w hw => hw) HU.out.1 (rowD_isRows HU.out.2) HSZ9.out) (by assumption) ?_
  try simp only [Act.put, List.setIfInBounds_toArray, List.set_cons_zero, List.set_cons_succ]
  refine wpAnyH_ready (rs := [2]) (by kernel_rfl) (by simp) ?_
  refine AllReadyH.cons (o := ⟨some 5, _, _, _, _, none⟩) rfl (fun K hK => ?_) AllReadyH.nil
  go_simp
  go_at_call 128
  refine (HLN.out _ HBD.out).mono ?_
  rintro e w9 ⟨rfl, rfl⟩
  refine hK.out _ _ (HS1.out _) (fun hHeld => ?_)
  clear hK K
  try simp only [Act.put, List.setIfInBounds_toArray, List.set_cons_zero, List.set_cons_succ]
  refine wpAnyH_ready (rs := [3]) (by kernel_rfl) (by simp) ?_
  refine AllReadyH.cons (o := ⟨some 6, _, _, _, _, none⟩) rfl (fun K hK => ?_) AllReadyH.nil
  go_simp
  go_at_call 127
  refine (HPA.out _ (HBA.out _)).mono ?_
  rintro e w10 ⟨rfl, hB10⟩
  have HB10 := Lib.hid ((HB1.out _).trans (hB10.mono (by simp)))
  have HS10 := Lib.hid (rangeAt_belows HS2.out HB10.out)
  clear hB10
  refine hK.out _ _ (HS10.out) (fun hHeld => ?_)
  clear hK K
  try simp only [Act.put, List.setIfInBounds_toArray, List.set_cons_zero, List.set_cons_succ]
  refine wpAnyH_ready (rs := [4]) (by kernel_rfl) (by simp) ?_
  refine AllReadyH.cons (o := ⟨none, _, _, _, _, none⟩) rfl (fun K hK => ?_) AllReadyH.nil
  refine step_store_mid (by rfl) 115 _ _ (by rfl) (w.heap.size + 1) 0 (stCs (stPart l gs 0 (wordLen gs))) (by rfl) (by rfl) (there4 ((HB10.out.block _ HRL.out).trans HR.out)) HSZA.out HONE.out ?_
  refine hK.out _ _ (World.rangeAt_setCells_apart HS10.out _ _ _ (.inl (by omega))) (fun hHeld => ?_)
  clear hK K
  refine wpAnyH_done (by kernel_rfl) ?_ _
  have HZ := Lib.hid (blk4_all (a' := .int .i64 ((stPart l gs 0 (wordLen gs)).getD 0 0)) (b' := .int .i64 ((stPart l gs 0 (wordLen gs)).getD 1 0)) (c' := .int .i64 ((stPart l gs 0 (wordLen gs)).getD 2 0)) (d' := .int .i64 ((stPart l gs 0 (wordLen gs)).getD 3 0)) ((HB10.out.block _ HRL.out).trans HR.out))
  have HE : Hid (Below w.heap.size w (w10.setCells (w.heap.size + 1) 0 [.int .i64 ((stPart l gs 0 (wordLen gs)).getD 0 0), .int .i64 ((stPart l gs 0 (wordLen gs)).getD 1 0), .int .i64 ((stPart l gs 0 (wordLen gs)).getD 2 0), .int .i64 ((stPart l gs 0 (wordLen gs)).getD 3 0)])) := Lib.hid (((((HBB.out.trans (HB10.out.mono HBB.out.size)).setCell (by simp) _).setCell (by simp) _).setCell (by simp) _).setCell (by simp) _)
  go_wp2_with fail
  exact bodyPost_ret (v := .agg (stCs (stPart l gs 0 (wordLen gs)))) (results_cell_rowDs HUM.out.2 rfl _ _ (w.heap.size + 1) 115 _ (0, 0) rfl HZ.out HUM.out.1 HSZA.out) rfl ⟨rfl, HE.out⟩
end Go.Proofs.Ytcaeihdfljljbaa
