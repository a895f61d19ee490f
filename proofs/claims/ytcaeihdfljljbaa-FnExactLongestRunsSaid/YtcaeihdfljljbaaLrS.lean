/-
  Walk: spec.l05Longest.
-/
import Derived.Test.YtcaeihdfljljbaaLrH
import Derived.Deep.QuietTactic
import Derived.BigQuiet
import Derived.Deep.Cut
import Derived.Deep.RegionHeld3
namespace Go.Proofs.Ytcaeihdfljljbaa
open Go.RowKit
open Wd
set_option linter.unusedVariables false
theorem absW {c : Code} {Q : Exit → Act → World → Prop} {A : Act} {w : World} (F : World → Prop) (hF : F w) (h : ∀ w', F w' → Code.wp Try.prog c Q A w') : Code.wp Try.prog c Q A w := h w hF
theorem tri_cells {w : World} {R : Nat} {t : TypeId} {a b c : Value} (h : w.heap[R]? = some (.cells #[a, b, c] t (0, 0))) :
    (w.cell? ⟨R, 0, none⟩ = some a ∧ w.cell? ⟨R, 1, none⟩ = some b ∧ w.cell? ⟨R, 2, none⟩ = some c) ∧ (w.frozen? ⟨R, 0, none⟩ = false ∧ w.frozen? ⟨R, 1, none⟩ = false ∧ w.frozen? ⟨R, 2, none⟩ = false) := by
  refine ⟨⟨?_, ?_, ?_⟩, ?_, ?_, ?_⟩
  · rw [cell_of_row _ _ _ _ _ _ h]; rfl
  · rw [cell_of_row _ _ _ _ _ _ h]; rfl
  · rw [cell_of_row _ _ _ _ _ _ h]; rfl
  · simp [World.frozen?, h]
  · simp [World.frozen?, h]
  · simp [World.frozen?, h]
/-- a rule, its run row and those of its two halves, in blocks of their own -/
structure PSt (wo : World) (R A B : Array Value) (f b m : Int) (w : World) : Prop where
  rl : w.heap[wo.heap.size]? = some (.cells R 132 (0, 0))
  y : w.heap[wo.heap.size + 1]? = some (.cells #[.int .i64 f, .int .i64 b, .int .i64 m] 110 (0, 0))
  a : w.heap[wo.heap.size + 2]? = some (.cells A 110 (0, 0))
  b : w.heap[wo.heap.size + 3]? = some (.cells B 110 (0, 0))
  bel : Below wo.heap.size wo w
theorem PSt.drewN {wo w : World} {R A B : Array Value} {f b m : Int} (h : PSt wo R A B f b m w) (n : Nat) : PSt wo R A B f b m (w.drewN n) := ⟨h.rl, h.y, h.a, h.b, below_drewN h.bel n⟩
theorem PSt.drew {wo w : World} {R A B : Array Value} {f b m : Int} (h : PSt wo R A B f b m w) : PSt wo R A B f b m w.drew := ⟨h.rl, h.y, h.a, h.b, h.bel.drew⟩
theorem PSt.s0 {wo w : World} {R A B : Array Value} {f b m : Int} (h : PSt wo R A B f b m w) (z : Int) : PSt wo R A B z b m (w.setCell ⟨wo.heap.size + 1, 0, none⟩ (.int .i64 z)) :=
  ⟨(Below.heap_setCell _ _ _ _ (by simp)).trans h.rl, by have := h.y; simp [World.setCell, Array.getElem?_modify, this], (Below.heap_setCell _ _ _ _ (by simp)).trans h.a, (Below.heap_setCell _ _ _ _ (by simp)).trans h.b, h.bel.setCell (by simp) _⟩
theorem PSt.s1 {wo w : World} {R A B : Array Value} {f b m : Int} (h : PSt wo R A B f b m w) (z : Int) : PSt wo R A B f z m (w.setCell ⟨wo.heap.size + 1, 1, none⟩ (.int .i64 z)) :=
  ⟨(Below.heap_setCell _ _ _ _ (by simp)).trans h.rl, by have := h.y; simp [World.setCell, Array.getElem?_modify, this], (Below.heap_setCell _ _ _ _ (by simp)).trans h.a, (Below.heap_setCell _ _ _ _ (by simp)).trans h.b, h.bel.setCell (by simp) _⟩
theorem PSt.s2 {wo w : World} {R A B : Array Value} {f b m : Int} (h : PSt wo R A B f b m w) (z : Int) : PSt wo R A B f b z (w.setCell ⟨wo.heap.size + 1, 2, none⟩ (.int .i64 z)) :=
  ⟨(Below.heap_setCell _ _ _ _ (by simp)).trans h.rl, by have := h.y; simp [World.setCell, Array.getElem?_modify, this], (Below.heap_setCell _ _ _ _ (by simp)).trans h.a, (Below.heap_setCell _ _ _ _ (by simp)).trans h.b, h.bel.setCell (by simp) _⟩
theorem PSt.new (wo : World) (R A B : Array Value) : PSt wo R A B 0 0 0 ((((wo.alloc (.cells R 132)).alloc (.cells #[.int .i64 0, .int .i64 0, .int .i64 0] 110)).alloc (.cells A 110)).alloc (.cells B 110)) := by
  obtain ⟨h0, h1, h2, hb, hs⟩ := al3 wo (.cells R 132) (.cells #[.int .i64 0, .int .i64 0, .int .i64 0] 110) (.cells A 110)
  have h3 := heap_alloc_new (((wo.alloc (.cells R 132)).alloc (.cells #[.int .i64 0, .int .i64 0, .int .i64 0] 110)).alloc (.cells A 110)) (.cells B 110)
  have b3 := (Below.refl _ (((wo.alloc (.cells R 132)).alloc (.cells #[.int .i64 0, .int .i64 0, .int .i64 0] 110)).alloc (.cells A 110))).alloc (Nat.le_refl _) (.cells B 110)
  rw [hs] at h3
  exact ⟨(b3.block _ (by omega)).trans h0, (b3.block _ (by omega)).trans h1, (b3.block _ (by omega)).trans h2, h3, hb.alloc hb.size _⟩
/-- a rule and its run row -/
structure QSt (wo : World) (R : Array Value) (f b m : Int) (w : World) : Prop where
  rl : w.heap[wo.heap.size]? = some (.cells R 132 (0, 0))
  y : w.heap[wo.heap.size + 1]? = some (.cells #[.int .i64 f, .int .i64 b, .int .i64 m] 110 (0, 0))
  bel : Below wo.heap.size wo w
theorem PSt.q {wo w : World} {R A B : Array Value} {f b m : Int} (h : PSt wo R A B f b m w) : QSt wo R f b m w := ⟨h.rl, h.y, h.bel⟩
theorem QSt.new (wo : World) (R : Array Value) (f b m : Int) : QSt wo R f b m ((wo.alloc (.cells R 132)).alloc (.cells #[.int .i64 f, .int .i64 b, .int .i64 m] 110)) := by
  have h1 := heap_alloc_new (wo.alloc (.cells R 132)) (.cells #[.int .i64 f, .int .i64 b, .int .i64 m] 110)
  have b1 := (Below.refl _ (wo.alloc (.cells R 132))).alloc (Nat.le_refl _) (.cells #[.int .i64 f, .int .i64 b, .int .i64 m] 110)
  rw [show (wo.alloc (.cells R 132)).heap.size = wo.heap.size + 1 from by simp] at h1
  exact ⟨(b1.block _ (by simp)).trans (heap_alloc_new wo _), h1, ((Below.refl _ wo).alloc (Nat.le_refl _) _).alloc (by simp) _⟩
theorem LnC.kept {w w' : World} {lv : Value} {gs : List Rl} (h : LnC w lv gs) (hb : Below w.heap.size w w') : LnC w' lv gs := by
  obtain ⟨A, c, rfl, h⟩ := h
  refine ⟨A, c, rfl, fun k hk => ?_⟩
  obtain ⟨gl, h1, h2⟩ := h k hk
  exact ⟨gl, h1, (hb.cell (lt_of_cell h2)).trans h2⟩
set_option maxRecDepth 100000 in
set_option maxHeartbeats 12800000 in
theorem l05Longest_any (pg l : Nat) (lv : Value) (gs : List Rl) (w : World) (hl4 : l < 4) (hok : gOk gs = true) (hg : GP w pg gs) (hln : LnC w lv gs) :
    Calls Try.prog 66 #[.pointer (some ⟨pg, 0, none⟩), lv, .int .i64 (l : Int)] w fun e w' => ∃ y, e = .returned y ∧ LsSt l gs w gs.length y w' := by
  obtain ⟨i0, hi, hz0, hz1, hz2⟩ := info_parts info_r3
  have hn := gOk_len hok
  obtain ⟨gv, hgv, hR⟩ := hg
  obtain ⟨Av, cv, rfl, hrc⟩ := hR
  obtain ⟨Al, cl, rfl, hlc⟩ := hln
  have HLC := Lib.hid hlc
  have HRC := Lib.hid hrc
  have HGV := Lib.hid hgv
  have HOK := Lib.hid hok
  have HFIT := Lib.hid (gOk_iff.1 hok).2.1
  obtain ⟨n, hne⟩ : ∃ n, n = gs.length := ⟨_, rfl⟩
  rw [← hne]
  rw [← hne] at hn hgv
  have HNE := Lib.hid hne
  have HS : Hid (LsSt l gs w 0 (.slice (some ⟨w.heap.size, 0, none⟩) 0 0) (w.alloc (.cells #[] 110))) := Lib.hid ⟨World.ownsRow_lit (base := w.heap.size) (e := 110) (size := 3) w #[] 0 (Nat.le_refl _) (by decide) rfl, (Below.refl _ w).alloc (Nat.le_refl _) _⟩
  clear hrc hok hne hlc
  go_enter Try.func66, Try.ntmps66
  go_wp2_with fail
  go_loopw [7, 8, 9, 10, 11, 12] (fun y i _ _ _ _ wr => ∃ k : Nat, k ≤ n ∧ i = .int .i64 k ∧ LsSt l gs w k y wr) (fun _ i _ _ _ _ _ => n - (intOf i).toNat)
  case atStart => exact ⟨0, Nat.zero_le _, rfl, HS.out⟩
  case round =>
    obtain ⟨k, hk, rfl, hst⟩ := hrel
    obtain ⟨wo, rfl⟩ : ∃ wo : World, wo = wr := ⟨_, rfl⟩
    have HST := Lib.hid hst
    obtain ⟨hown, hB⟩ := hst
    obtain ⟨Ay, cy, rfl⟩ := own_slice hown
    have hgo := (hB.cell (lt_of_cell HGV.out)).trans HGV.out
    rw [← HNE.out] at hgo
    clear hgv
    by_cases hkn : k < n
    · have hkg : k < gs.length := by rw [← HNE.out]; exact hkn
      rcases HRC.out with hn0 | ⟨g, rfl, hg, hc⟩
      · rw [hn0] at hkg; simp at hkg
      obtain ⟨a0, a1, a2⟩ := rules_cells hc hkg
      rw [← hB.cell (p := ⟨g, k * 3, none⟩) hg] at a0
      rw [← hB.cell (p := ⟨g, k * 3 + 1, none⟩) hg] at a1
      rw [← hB.cell (p := ⟨g, k * 3 + 2, none⟩) hg] at a2
      have hfk := fits_at HFIT.out k hkg
      have k0 : (0 : Int) ≤ (k : Int) := by omega
      have k1 : (k : Int) < (n : Int) := by omega
      have hws := hB.size
      have HOW := Lib.hid hown
      have HBW := Lib.hid hB
      by_cases h0 : gs[k].L.size = 0
      · obtain ⟨a, b, ha, hb, hak, hbk, _⟩ := pair_parts HOK.out hkg h0
        have he := empty_arr h0
        have hva := r3At_bd (l := l) HOK.out (k := a) (by omega)
        have hvb := r3At_bd (l := l) HOK.out (k := b) (by omega)
        have hvk := r3At_pair (l := l) HOK.out hkg h0 ha hb hak hbk
        obtain ⟨gy, rfl, _, hgl⟩ := own_addr hown (show 0 < k by omega)
        obtain ⟨xa0, xa1, xa2⟩ := lsSt_cells hown hak
        obtain ⟨xb0, xb1, xb2⟩ := lsSt_cells hown hbk
        obtain ⟨gl, rfl, la0⟩ := HLC.out a (by omega)
        obtain ⟨gl', hgl', lb0⟩ := HLC.out b (by omega)
        injection hgl' with hgl'
        injection hgl' with hgl'
        subst hgl'
        have HLA := Lib.hid ((hB.cell (lt_of_cell la0)).trans la0)
        have HLB := Lib.hid ((hB.cell (lt_of_cell lb0)).trans lb0)
        clear la0 lb0
        generalize (lens gs).getD a 0 = la at *
        generalize (lens gs).getD b 0 = lb at *
        generalize (r3At l gs a).getD 0 0 = x0 at *
        generalize (r3At l gs a).getD 1 0 = x1 at *
        generalize (r3At l gs a).getD 2 0 = x2 at *
        generalize (r3At l gs b).getD 0 0 = y0 at *
        generalize (r3At l gs b).getD 1 0 = y1 at *
        generalize (r3At l gs b).getD 2 0 = y2 at *
        rw [Int.max_assoc] at hvk
        have HVK := Lib.hid hvk
        obtain ⟨⟨hx0a, hx0b⟩, ⟨hx1a, hx1b⟩, hx2a, hx2b⟩ := hva
        obtain ⟨⟨hy0a, hy0b⟩, ⟨hy1a, hy1b⟩, hy2a, hy2b⟩ := hvb
        generalize gs[k] = Rk at *
        obtain ⟨L, rl, rr⟩ := Rk
        simp only at ha hb he a0 a1 a2
        subst ha hb he
        have a0' : (0 : Int) ≤ (a : Int) := by omega
        have a1' : (a : Int) < (k : Int) := by omega
        have b0' : (0 : Int) ≤ (b : Int) := by omega
        have b1' : (b : Int) < (k : Int) := by omega
        have a2' : (a : Int) < (n : Int) := by omega
        have b2' : (b : Int) < (n : Int) := by omega
        clear hvk hfk hc hown hB h0
        have q1 : gy < wo.heap.size + 1 := by omega
        have q2 : gy < wo.heap.size + 1 + 1 := by omega
        have q3 : gy < wo.heap.size + 2 := by omega
        go_upto_region 10 with fail
        refine absW _ (PSt.new wo _ _ _) (fun w5 h5 => ?_)
        have HP5 := Lib.hid h5
        obtain ⟨⟨p0, p1, p2⟩, _⟩ := tri_cells h5.a
        obtain ⟨⟨q0, q1', q2'⟩, _⟩ := tri_cells h5.b
        obtain ⟨⟨z0, z1, z2⟩, f0, f1, f2⟩ := tri_cells h5.y
        have hw1 : IntKind.i64.wrap (x1 + y0) = x1 + y0 := by rw [IntKind.wrap_i64]; omega
        clear h5 xa0 xa1 xa2 xb0 xb1 xb2 a0 a1 a2 hgo q1 q2 q3
        go_region_held3 (fun w' => w'.cell? ⟨wo.heap.size + 2, 0, none⟩ = some (.int .i64 x0) ∧ w'.cell? ⟨wo.heap.size + 2, 1, none⟩ = some (.int .i64 x1) ∧ w'.cell? ⟨wo.heap.size + 2, 2, none⟩ = some (.int .i64 x2) ∧ w'.cell? ⟨wo.heap.size + 3, 0, none⟩ = some (.int .i64 y0) ∧ w'.cell? ⟨wo.heap.size + 3, 1, none⟩ = some (.int .i64 y1) ∧ w'.cell? ⟨wo.heap.size + 3, 2, none⟩ = some (.int .i64 y2))
          (first | go_keep)
          (first
            | (go_at_call 122
               refine (lmax_any _ _ _).mono ?_
               rintro e w9 ⟨rfl, rfl⟩))
        go_upto_region 11 with fail
        refine absW _ (((HP5.out.s0 _).s1 _).s2 _).drew (fun w6 h6 => ?_)
        generalize max x2 (max y2 (x1 + y0)) = M at *
        have HP6 := Lib.hid h6
        obtain ⟨⟨r0, r1, r2⟩, _⟩ := tri_cells h6.rl
        obtain ⟨⟨s0, s1, s2⟩, _⟩ := tri_cells h6.a
        obtain ⟨⟨t0, t1, t2⟩, _⟩ := tri_cells h6.b
        have la6 := (h6.bel.cell (lt_of_cell HLA.out)).trans HLA.out
        have lb6 := (h6.bel.cell (lt_of_cell HLB.out)).trans HLB.out
        clear h6 p0 p1 p2 q0 q1' q2' z0 z1 z2 f0 f1 f2 hw1
        by_cases hfa : x0 = la <;> by_cases hfb : y1 = lb
        · have e1 : (x0 == la) = true := by simp [hfa]
          have e2 : (y1 == lb) = true := by simp [hfb]
          have HVK2 : Hid (r3At l gs k = [(x0 + y0), (y1 + x1), M]) := Lib.hid (by rw [HVK.out, if_pos hfa, if_pos hfb])
          clear hfa hfb
          obtain ⟨⟨u0, u1, u2⟩, f0, f1, f2⟩ := tri_cells HP6.out.y
          go_quiet (fail)
          go_wp2_with fail
          clear u0 u1 u2 f0 f1 f2
          refine absW (PSt wo #[.string ⟨#[]⟩, .int .i64 (a : Int), .int .i64 (b : Int)] #[.int .i64 x0, .int .i64 x1, .int .i64 x2] #[.int .i64 y0, .int .i64 y1, .int .i64 y2] (x0 + y0) y1 M) ?_ (fun w7 h7 => ?_)
          · first | exact (HP6.out.s0 _).drewN _ | exact (HP6.out.drewN _).s0 _
          have HP7 := Lib.hid h7
          clear r0 r1 r2 s0 s1 s2 t0 t1 t2 la6 lb6
          obtain ⟨⟨r0, r1, r2⟩, _⟩ := tri_cells h7.rl
          obtain ⟨⟨s0, s1, s2⟩, _⟩ := tri_cells h7.a
          obtain ⟨⟨t0, t1, t2⟩, _⟩ := tri_cells h7.b
          obtain ⟨⟨u0, u1, u2⟩, f0, f1, f2⟩ := tri_cells h7.y
          have lb6 := (h7.bel.cell (lt_of_cell HLB.out)).trans HLB.out
          clear h7
          go_quiet (fail)
          go_upto_region 17 with fail
          clear u0 u1 u2 f0 f1 f2 r0 r1 r2 s0 s1 s2 t0 t1 t2 lb6
          refine absW (QSt wo #[.string ⟨#[]⟩, .int .i64 (a : Int), .int .i64 (b : Int)] (x0 + y0) (y1 + x1) M) ?_ (fun w8 h8 => ?_)
          · first | exact ((HP7.out.s1 _).drewN _).q | exact ((HP7.out.drewN _).s1 _).q
          have HB8 := Lib.hid h8.bel
          have hs8 := h8.bel.size
          have HO8 := Lib.hid (own_below HOW.out h8.bel (Nat.le_refl _))
          obtain ⟨⟨u0, u1, u2⟩, _⟩ := tri_cells h8.y
          clear h8
          go_wp2_with (first | (at_builtin; refine wpList_append_own _ rfl _ _ 111 rfl w.heap.size 110 i0 (.agg #[.int .i64 0, .int .i64 0, .int .i64 0]) 3 24 Try.underlying111 hi hz0 hz1 hz2 rfl (by decide) _ _ _ rfl (World.ownsRow.alloc HO8.out _) ⟨w8.heap.size, 0, none⟩ 1 1 [.int .i64 (x0 + y0), .int .i64 (y1 + x1), .int .i64 M] rfl rfl (news3l _ _ _ _ _) (one3l _ _ _) (by unfold maxLen; omega) (by omega) (by simp; omega) ?_))
          intro v' w9 hown' hgr _
          have HN9 := Lib.hid (lsSt_next HST.out HB8.out HVK2.out hown' hgr)
          clear hown' hgr u0 u1 u2
          go_wp2_with fail
          go_roundw
          all_goals first | exact ⟨k + 1, by omega, by go_num, HN9.out⟩ | ((repeat apply Exists.intro); exact ⟨⟨k + 1, by omega, by go_num, HN9.out⟩, rfl⟩) | (simp [intOf]; done) | (simp [intOf]; omega) | omega
        · have e1 : (x0 == la) = true := by simp [hfa]
          have e2 : (y1 == lb) = false := by simp [hfb]
          have HVK2 : Hid (r3At l gs k = [(x0 + y0), y1, M]) := Lib.hid (by rw [HVK.out, if_pos hfa, if_neg hfb])
          clear hfa hfb
          obtain ⟨⟨u0, u1, u2⟩, f0, f1, f2⟩ := tri_cells HP6.out.y
          go_quiet (fail)
          go_wp2_with fail
          clear u0 u1 u2 f0 f1 f2
          refine absW (PSt wo #[.string ⟨#[]⟩, .int .i64 (a : Int), .int .i64 (b : Int)] #[.int .i64 x0, .int .i64 x1, .int .i64 x2] #[.int .i64 y0, .int .i64 y1, .int .i64 y2] (x0 + y0) y1 M) ?_ (fun w7 h7 => ?_)
          · first | exact (HP6.out.s0 _).drewN _ | exact (HP6.out.drewN _).s0 _
          have HP7 := Lib.hid h7
          clear r0 r1 r2 s0 s1 s2 t0 t1 t2 la6 lb6
          obtain ⟨⟨r0, r1, r2⟩, _⟩ := tri_cells h7.rl
          obtain ⟨⟨s0, s1, s2⟩, _⟩ := tri_cells h7.a
          obtain ⟨⟨t0, t1, t2⟩, _⟩ := tri_cells h7.b
          obtain ⟨⟨u0, u1, u2⟩, f0, f1, f2⟩ := tri_cells h7.y
          have lb6 := (h7.bel.cell (lt_of_cell HLB.out)).trans HLB.out
          clear h7
          go_quiet (fail)
          go_upto_region 17 with fail
          clear u0 u1 u2 f0 f1 f2 r0 r1 r2 s0 s1 s2 t0 t1 t2 lb6
          refine absW (QSt wo #[.string ⟨#[]⟩, .int .i64 (a : Int), .int .i64 (b : Int)] (x0 + y0) y1 M) ?_ (fun w8 h8 => ?_)
          · exact (HP7.out.drewN _).q
          have HB8 := Lib.hid h8.bel
          have hs8 := h8.bel.size
          have HO8 := Lib.hid (own_below HOW.out h8.bel (Nat.le_refl _))
          obtain ⟨⟨u0, u1, u2⟩, _⟩ := tri_cells h8.y
          clear h8
          go_wp2_with (first | (at_builtin; refine wpList_append_own _ rfl _ _ 111 rfl w.heap.size 110 i0 (.agg #[.int .i64 0, .int .i64 0, .int .i64 0]) 3 24 Try.underlying111 hi hz0 hz1 hz2 rfl (by decide) _ _ _ rfl (World.ownsRow.alloc HO8.out _) ⟨w8.heap.size, 0, none⟩ 1 1 [.int .i64 (x0 + y0), .int .i64 y1, .int .i64 M] rfl rfl (news3l _ _ _ _ _) (one3l _ _ _) (by unfold maxLen; omega) (by omega) (by simp; omega) ?_))
          intro v' w9 hown' hgr _
          have HN9 := Lib.hid (lsSt_next HST.out HB8.out HVK2.out hown' hgr)
          clear hown' hgr u0 u1 u2
          go_wp2_with fail
          go_roundw
          all_goals first | exact ⟨k + 1, by omega, by go_num, HN9.out⟩ | ((repeat apply Exists.intro); exact ⟨⟨k + 1, by omega, by go_num, HN9.out⟩, rfl⟩) | (simp [intOf]; done) | (simp [intOf]; omega) | omega
        · have e1 : (x0 == la) = false := by simp [hfa]
          have e2 : (y1 == lb) = true := by simp [hfb]
          have HVK2 : Hid (r3At l gs k = [x0, (y1 + x1), M]) := Lib.hid (by rw [HVK.out, if_neg hfa, if_pos hfb])
          clear hfa hfb
          go_quiet (fail)
          go_wp2_with fail
          refine absW (PSt wo #[.string ⟨#[]⟩, .int .i64 (a : Int), .int .i64 (b : Int)] #[.int .i64 x0, .int .i64 x1, .int .i64 x2] #[.int .i64 y0, .int .i64 y1, .int .i64 y2] x0 y1 M) ?_ (fun w7 h7 => ?_)
          · exact HP6.out.drewN _
          have HP7 := Lib.hid h7
          clear r0 r1 r2 s0 s1 s2 t0 t1 t2 la6 lb6
          obtain ⟨⟨r0, r1, r2⟩, _⟩ := tri_cells h7.rl
          obtain ⟨⟨s0, s1, s2⟩, _⟩ := tri_cells h7.a
          obtain ⟨⟨t0, t1, t2⟩, _⟩ := tri_cells h7.b
          obtain ⟨⟨u0, u1, u2⟩, f0, f1, f2⟩ := tri_cells h7.y
          have lb6 := (h7.bel.cell (lt_of_cell HLB.out)).trans HLB.out
          clear h7
          go_quiet (fail)
          go_upto_region 17 with fail
          clear u0 u1 u2 f0 f1 f2 r0 r1 r2 s0 s1 s2 t0 t1 t2 lb6
          refine absW (QSt wo #[.string ⟨#[]⟩, .int .i64 (a : Int), .int .i64 (b : Int)] x0 (y1 + x1) M) ?_ (fun w8 h8 => ?_)
          · first | exact ((HP7.out.s1 _).drewN _).q | exact ((HP7.out.drewN _).s1 _).q
          have HB8 := Lib.hid h8.bel
          have hs8 := h8.bel.size
          have HO8 := Lib.hid (own_below HOW.out h8.bel (Nat.le_refl _))
          obtain ⟨⟨u0, u1, u2⟩, _⟩ := tri_cells h8.y
          clear h8
          go_wp2_with (first | (at_builtin; refine wpList_append_own _ rfl _ _ 111 rfl w.heap.size 110 i0 (.agg #[.int .i64 0, .int .i64 0, .int .i64 0]) 3 24 Try.underlying111 hi hz0 hz1 hz2 rfl (by decide) _ _ _ rfl (World.ownsRow.alloc HO8.out _) ⟨w8.heap.size, 0, none⟩ 1 1 [.int .i64 x0, .int .i64 (y1 + x1), .int .i64 M] rfl rfl (news3l _ _ _ _ _) (one3l _ _ _) (by unfold maxLen; omega) (by omega) (by simp; omega) ?_))
          intro v' w9 hown' hgr _
          have HN9 := Lib.hid (lsSt_next HST.out HB8.out HVK2.out hown' hgr)
          clear hown' hgr u0 u1 u2
          go_wp2_with fail
          go_roundw
          all_goals first | exact ⟨k + 1, by omega, by go_num, HN9.out⟩ | ((repeat apply Exists.intro); exact ⟨⟨k + 1, by omega, by go_num, HN9.out⟩, rfl⟩) | (simp [intOf]; done) | (simp [intOf]; omega) | omega
        · have e1 : (x0 == la) = false := by simp [hfa]
          have e2 : (y1 == lb) = false := by simp [hfb]
          have HVK2 : Hid (r3At l gs k = [x0, y1, M]) := Lib.hid (by rw [HVK.out, if_neg hfa, if_neg hfb])
          clear hfa hfb
          go_quiet (fail)
          go_wp2_with fail
          refine absW (PSt wo #[.string ⟨#[]⟩, .int .i64 (a : Int), .int .i64 (b : Int)] #[.int .i64 x0, .int .i64 x1, .int .i64 x2] #[.int .i64 y0, .int .i64 y1, .int .i64 y2] x0 y1 M) ?_ (fun w7 h7 => ?_)
          · exact HP6.out.drewN _
          have HP7 := Lib.hid h7
          clear r0 r1 r2 s0 s1 s2 t0 t1 t2 la6 lb6
          obtain ⟨⟨r0, r1, r2⟩, _⟩ := tri_cells h7.rl
          obtain ⟨⟨s0, s1, s2⟩, _⟩ := tri_cells h7.a
          obtain ⟨⟨t0, t1, t2⟩, _⟩ := tri_cells h7.b
          obtain ⟨⟨u0, u1, u2⟩, f0, f1, f2⟩ := tri_cells h7.y
          have lb6 := (h7.bel.cell (lt_of_cell HLB.out)).trans HLB.out
          clear h7
          go_quiet (fail)
          go_upto_region 17 with fail
          clear u0 u1 u2 f0 f1 f2 r0 r1 r2 s0 s1 s2 t0 t1 t2 lb6
          refine absW (QSt wo #[.string ⟨#[]⟩, .int .i64 (a : Int), .int .i64 (b : Int)] x0 y1 M) ?_ (fun w8 h8 => ?_)
          · exact (HP7.out.drewN _).q
          have HB8 := Lib.hid h8.bel
          have hs8 := h8.bel.size
          have HO8 := Lib.hid (own_below HOW.out h8.bel (Nat.le_refl _))
          obtain ⟨⟨u0, u1, u2⟩, _⟩ := tri_cells h8.y
          clear h8
          go_wp2_with (first | (at_builtin; refine wpList_append_own _ rfl _ _ 111 rfl w.heap.size 110 i0 (.agg #[.int .i64 0, .int .i64 0, .int .i64 0]) 3 24 Try.underlying111 hi hz0 hz1 hz2 rfl (by decide) _ _ _ rfl (World.ownsRow.alloc HO8.out _) ⟨w8.heap.size, 0, none⟩ 1 1 [.int .i64 x0, .int .i64 y1, .int .i64 M] rfl rfl (news3l _ _ _ _ _) (one3l _ _ _) (by unfold maxLen; omega) (by omega) (by simp; omega) ?_))
          intro v' w9 hown' hgr _
          have HN9 := Lib.hid (lsSt_next HST.out HB8.out HVK2.out hown' hgr)
          clear hown' hgr u0 u1 u2
          go_wp2_with fail
          go_roundw
          all_goals first | exact ⟨k + 1, by omega, by go_num, HN9.out⟩ | ((repeat apply Exists.intro); exact ⟨⟨k + 1, by omega, by go_num, HN9.out⟩, rfl⟩) | (simp [intOf]; done) | (simp [intOf]; omega) | omega
      · obtain ⟨bt, hL, hb1, hb2, hno⟩ := letter_byte h0 hfk
        have he := full_list h0
        have HL4 := Lib.hid (fun W => sLetL_any bt hb1 hb2 W)
        obtain ⟨d, hd⟩ : ∃ d : Nat, d = bt.toNat - 97 := ⟨_, rfl⟩
        rw [← hd] at HL4
        have hvk := r3At_letter (l := l) hkg h0 (hno.trans hd.symm)
        rw [hL] at a0 he
        generalize gs[k] = Rk at *
        by_cases hdl : d = l
        · have e1 : ((d : Int) == (l : Int)) = true := by simp [hdl]
          have HVK2 : Hid (r3At l gs k = [1, 1, 1]) := Lib.hid (by rw [hvk, one1, if_pos hdl])
          clear hown hB h0 hL hb1 hb2 hno hd hvk hfk hc hdl
          go_wp2_with fail
          refine (HL4.out _).mono ?_
          rintro e w2 ⟨rfl, rfl⟩
          go_upto_region 17 with fail
          refine absW _ (QSt.new wo _ 1 1 1) (fun w8 h8 => ?_)
          clear a0 a1 a2 hgo
          have HB8 := Lib.hid h8.bel
          have hs8 := h8.bel.size
          have HO8 := Lib.hid (own_below HOW.out h8.bel (Nat.le_refl _))
          obtain ⟨⟨u0, u1, u2⟩, _⟩ := tri_cells h8.y
          clear h8
          go_wp2_with (first | (at_builtin; refine wpList_append_own _ rfl _ _ 111 rfl w.heap.size 110 i0 (.agg #[.int .i64 0, .int .i64 0, .int .i64 0]) 3 24 Try.underlying111 hi hz0 hz1 hz2 rfl (by decide) _ _ _ rfl (World.ownsRow.alloc HO8.out _) ⟨w8.heap.size, 0, none⟩ 1 1 [.int .i64 1, .int .i64 1, .int .i64 1] rfl rfl (news3l _ _ _ _ _) (one3l _ _ _) (by unfold maxLen; omega) (by omega) (by simp; omega) ?_))
          intro v' w9 hown' hgr _
          have HN9 := Lib.hid (lsSt_next HST.out HB8.out HVK2.out hown' hgr)
          clear hown' hgr u0 u1 u2
          go_wp2_with fail
          go_roundw
          all_goals first | exact ⟨k + 1, by omega, by go_num, HN9.out⟩ | ((repeat apply Exists.intro); exact ⟨⟨k + 1, by omega, by go_num, HN9.out⟩, rfl⟩) | (simp [intOf]; done) | (simp [intOf]; omega) | omega
        · have e1 : ((d : Int) == (l : Int)) = false := by simp; omega
          have HVK2 : Hid (r3At l gs k = [0, 0, 0]) := Lib.hid (by rw [hvk, one1, if_neg hdl])
          clear hown hB h0 hL hb1 hb2 hno hd hvk hfk hc hdl
          go_wp2_with fail
          refine (HL4.out _).mono ?_
          rintro e w2 ⟨rfl, rfl⟩
          go_upto_region 17 with fail
          refine absW _ (QSt.new wo _ 0 0 0) (fun w8 h8 => ?_)
          clear a0 a1 a2 hgo
          have HB8 := Lib.hid h8.bel
          have hs8 := h8.bel.size
          have HO8 := Lib.hid (own_below HOW.out h8.bel (Nat.le_refl _))
          obtain ⟨⟨u0, u1, u2⟩, _⟩ := tri_cells h8.y
          clear h8
          go_wp2_with (first | (at_builtin; refine wpList_append_own _ rfl _ _ 111 rfl w.heap.size 110 i0 (.agg #[.int .i64 0, .int .i64 0, .int .i64 0]) 3 24 Try.underlying111 hi hz0 hz1 hz2 rfl (by decide) _ _ _ rfl (World.ownsRow.alloc HO8.out _) ⟨w8.heap.size, 0, none⟩ 1 1 [.int .i64 0, .int .i64 0, .int .i64 0] rfl rfl (news3l _ _ _ _ _) (one3l _ _ _) (by unfold maxLen; omega) (by omega) (by simp; omega) ?_))
          intro v' w9 hown' hgr _
          have HN9 := Lib.hid (lsSt_next HST.out HB8.out HVK2.out hown' hgr)
          clear hown' hgr u0 u1 u2
          go_wp2_with fail
          go_roundw
          all_goals first | exact ⟨k + 1, by omega, by go_num, HN9.out⟩ | ((repeat apply Exists.intro); exact ⟨⟨k + 1, by omega, by go_num, HN9.out⟩, rfl⟩) | (simp [intOf]; done) | (simp [intOf]; omega) | omega
    · obtain rfl : k = n := by omega
      clear hown hB
      go_wp2_with fail
      go_ret
      exact ⟨_, rfl, HST.out⟩
end Go.Proofs.Ytcaeihdfljljbaa
