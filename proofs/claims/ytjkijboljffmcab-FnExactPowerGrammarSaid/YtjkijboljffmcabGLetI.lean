/-
  Walks: spec.LetterAt, impl.LetterAt.
-/
import Derived.Test.YtjkijboljffmcabGLetS
import Derived.Deep.LoopGhost
namespace Go.Proofs.Ytjkijboljffmcab
open Go.RowKit
open Wd
set_option linter.unusedVariables false

theorem letAns_bad {gs : List Rl} {i : Int} (h : gOk gs = false) : letAns gs i = (⟨#[]⟩, 1) := by unfold letAns; rw [h]; rfl
theorem letAns_out {gs : List Rl} {i : Int} (h : gOk gs = true) (hi : ¬ (0 ≤ i ∧ i < wordLen gs)) : letAns gs i = (⟨#[]⟩, 2) := by
  unfold letAns; rw [h]; unfold wordLen at hi; rw [if_pos rfl, if_neg hi]
theorem letAns_in {gs : List Rl} {i : Int} {m : Nat} {x : Rl} (h : gOk gs = true) (hi : 0 ≤ i ∧ i < wordLen gs) (hm : gs.length = m + 1) (hx : gs[leafAt gs gs.length m i]? = some x) : letAns gs i = (x.L, 0) := by
  unfold letAns; rw [h]; unfold wordLen at hi
  rw [if_pos rfl, if_pos hi]
  simp only [hm, Nat.add_sub_cancel] at hx ⊢
  rw [hx]
theorem wordLen_bd {gs : List Rl} (h : gOk gs = true) : 0 ≤ wordLen gs ∧ wordLen gs ≤ 1000000000000000 := by
  have hg := gOk_iff.1 h
  rcases Nat.eq_zero_or_pos gs.length with h0 | h0
  · rw [wordLen_zero h0]; omega
  · unfold wordLen
    refine ⟨?_, small_at hg.2.2 _ (by omega)⟩
    have := lens_pos (gs := gs) (k := gs.length - 1) (by omega) (fun j hj _ => fits_at hg.2.1 j hj)
    omega
theorem inA (n lo hi : Int) (w : World) : Calls Try.prog 62 #[.int .i64 n, .int .i64 lo, .int .i64 hi] w fun e w' => e = .returned (.bool (decide (lo ≤ n) && decide (n ≤ hi))) ∧ w = w' := in_any n lo hi w

set_option maxRecDepth 100000 in
set_option maxHeartbeats 6400000 in
theorem specLetterAt (v : Value) (gs : List Rl) (i : Int) (w : World) (hf : FewR gs) (hr : Rules w v gs) (hbd : -9223372036854775808 ≤ i ∧ i ≤ 9223372036854775807) :
    Calls Try.prog 29 #[.agg #[v], .int .i64 i] w fun e w' => e = .returned (.tuple #[.string (letAns gs i).1, .int .i64 (letAns gs i).2]) ∧ Below w.heap.size w w' := by
  have hg := rules_gp hr 29
  have h1 := lengths_any w.heap.size gs _ hf hg
  have hn := hf.len
  have H2 := Lib.hid (fun W (hW : GP W w.heap.size gs) hok => l02Length_any w.heap.size gs W hf hW hok)
  have HG := Lib.hid hg
  obtain ⟨A, c, rfl, _⟩ := hr
  have hb := (Below.refl _ w).alloc (Nat.le_refl _) (.cells #[.slice A gs.length c] 29)
  have HB := Lib.hid hb
  unfold LensPost at h1
  cases hok : gOk gs
  · rw [letAns_bad hok]
    rw [hok] at h1
    have H1 := Lib.hid h1
    clear h1 hg hok hb
    go_enter Try.func29, Try.ntmps29
    go_wp2_with fail
    refine H1.out.mono ?_
    rintro e w1 ⟨x, rfl, _, hB1⟩
    have HB1 := Lib.hid (HB.out.trans (hB1.mono (by simp)))
    clear hB1
    go_wp2_with fail
    go_ret2
    exact ⟨rfl, HB1.out⟩
  · rw [hok] at h1
    have H1 := Lib.hid h1
    have HK := Lib.hid hok
    have hwl := wordLen_bd hok
    have HIN := Lib.hid (fun W => inA i 0 (wordLen gs - 1) W)
    by_cases hin : 0 ≤ i ∧ i < wordLen gs
    · obtain ⟨m, hm⟩ : ∃ m, gs.length = m + 1 := ⟨gs.length - 1, by
        rcases Nat.eq_zero_or_pos gs.length with h0 | h0
        · rw [wordLen_zero h0] at hin; omega
        · omega⟩
      have hdec : (decide (0 ≤ i) && decide (i ≤ wordLen gs - 1)) = true := by simp; omega
      rw [hdec] at HIN
      have HH := Lib.hid hin
      have HM := Lib.hid hm
      generalize hwle : wordLen gs = wl at *
      have HWL := Lib.hid hwle
      have hi0 := hin.1
      have hi1 : i ≤ 1000000000000000 := by omega
      clear h1 hg hok hb hin hm hdec hwle
      go_enter Try.func29, Try.ntmps29
      go_wp2_with fail
      refine H1.out.mono ?_
      rintro e w1 ⟨x, rfl, ho, hB1⟩
      have HO := Lib.hid (ho trivial)
      have HB1 := Lib.hid (HB.out.trans (hB1.mono (by simp)))
      have HG1 := Lib.hid (HG.out.kept hB1)
      clear hB1 ho
      go_wp2_with fail
      refine (H2.out _ HG1.out (gOk_fs HK.out)).mono ?_
      rintro e w2 ⟨rfl, hB2⟩
      have HB2 := Lib.hid (HB1.out.trans (hB2.mono HB1.out.size))
      have HG2 := Lib.hid (HG1.out.kept hB2)
      have HO2 := Lib.hid (OwnsI.below HO.out hB2 (Nat.le_refl _))
      clear hB2
      go_wp2_with fail
      refine (HIN.out _).mono ?_
      rintro e w3 ⟨rfl, rfl⟩
      go_wp2_with fail
      refine (l02Letter_any w.heap.size gs x _ m i w2 HK.out HG2.out HO2.out HM.out hi0 hi1 _ rfl).mono ?_
      rintro e w4 ⟨⟨y, h0, hy, hy1, hyl, rfl⟩, rfl⟩
      have hans := letAns_in HK.out (by rw [HWL.out]; exact HH.out) HM.out hy
      have hLy := one_byte hy1
      obtain ⟨b, hb⟩ : ∃ b, b = y.L[0] := ⟨_, rfl⟩
      rw [← hb]
      rw [← hb] at hLy
      rw [hLy] at hans
      have HA := Lib.hid hans
      have hconv : (convert 64 9 (.slice (some ⟨w2.heap.size, 0, none⟩) 1 1)).run Try.prog (w2.alloc (.cells #[.int .u8 b.toNat] 5)) = .ok (.string ⟨#[b]⟩) (w2.alloc (.cells #[.int .u8 b.toNat] 5)) := run_convert_bytes_back (P := Try.prog) (w2.alloc (.cells #[.int .u8 b.toNat] 5)) 64 9 5 ⟨w2.heap.size, 0, none⟩ 1 [b] Try.underlying64 Try.underlying5 Try.underlying9 (fun j hj => by
        match j, hj with
        | 0, _ => simp [Addr.add])
      clear hans hLy hb hy hy1 hyl
      go_wp2_with fail
      go_ret2
      exact ⟨by rw [HA.out]; rfl, HB2.out.alloc HB2.out.size _⟩
    · rw [letAns_out hok hin]
      have hdec : (decide (0 ≤ i) && decide (i ≤ wordLen gs - 1)) = false := by
        rw [Bool.and_eq_false_iff]; simp; omega
      rw [hdec] at HIN
      generalize hwle : wordLen gs = wl at *
      have HWL := Lib.hid hwle
      clear h1 hg hok hb hin hdec hwle
      go_enter Try.func29, Try.ntmps29
      go_wp2_with fail
      refine H1.out.mono ?_
      rintro e w1 ⟨x, rfl, ho, hB1⟩
      have HB1 := Lib.hid (HB.out.trans (hB1.mono (by simp)))
      have HG1 := Lib.hid (HG.out.kept hB1)
      clear hB1 ho
      go_wp2_with fail
      refine (H2.out _ HG1.out (gOk_fs HK.out)).mono ?_
      rintro e w2 ⟨rfl, hB2⟩
      have HB2 := Lib.hid (HB1.out.trans (hB2.mono HB1.out.size))
      clear hB2
      go_wp2_with fail
      refine (HIN.out _).mono ?_
      rintro e w3 ⟨rfl, rfl⟩
      go_wp2_with fail
      go_ret2
      exact ⟨rfl, HB2.out⟩

theorem blk3 {w : World} {R : Nat} {t : TypeId} {a b c a' b' c' : Value} (h : w.heap[R]? = some (.cells #[a, b, c] t (0, 0))) :
    (((w.setCell ⟨R, 0, none⟩ a').setCell ⟨R, 1, none⟩ b').setCell ⟨R, 2, none⟩ c').heap[R]? = some (.cells #[a', b', c'] t (0, 0)) := by
  simp [World.setCell, Array.getElem?_modify, h]
theorem blk3_cells {w : World} {R : Nat} {t : TypeId} {a b c : Value} (h : w.heap[R]? = some (.cells #[a, b, c] t (0, 0))) :
    (w.cell? ⟨R, 0, none⟩ = some a ∧ w.cell? ⟨R, 1, none⟩ = some b ∧ w.cell? ⟨R, 2, none⟩ = some c) ∧ w.frozen? ⟨R, 0, none⟩ = false ∧ w.frozen? ⟨R, 1, none⟩ = false ∧ w.frozen? ⟨R, 2, none⟩ = false := by
  refine ⟨⟨?_, ?_, ?_⟩, ?_, ?_, ?_⟩
  · rw [cell_of_row _ _ _ _ _ _ h]; rfl
  · rw [cell_of_row _ _ _ _ _ _ h]; rfl
  · rw [cell_of_row _ _ _ _ _ _ h]; rfl
  · simp [World.frozen?, h]
  · simp [World.frozen?, h]
  · simp [World.frozen?, h]
/-- on the way down in memory -/
def LRel (gs : List Rl) (T R : Nat) (W0 : World) (k : Nat) (iv : Value) (wr : World) : Prop :=
  ∃ (j : Int) (y : Rl), iv = .int .i64 j ∧ Down gs T k j ∧ gs[k]? = some y ∧ wr.heap[R]? = some (.cells #[.string y.L, .int .i64 y.l, .int .i64 y.r] 59 (0, 0)) ∧ Below R W0 wr
theorem lastA (A : Option Addr) (n c : Nat) (hn : n ≤ 1048576) (w : World) :
    Calls Try.prog 61 #[.slice A n c] w fun e w' => e = .returned (.int .i64 ((n : Int) - 1)) ∧ w' = w := by
  go_enter Try.func61, Try.ntmps61
  go_wp2
  go_ret
  exact ⟨rfl, rfl⟩

set_option maxRecDepth 100000 in
set_option maxHeartbeats 12800000 in
theorem implLetterAt_in (A : Option Addr) (c m : Nat) (gs : List Rl) (i : Int) (w : World) (hf : FewR gs) (hr : Rules w (.slice A gs.length c) gs) (hok : gOk gs = true) (hin : 0 ≤ i ∧ i < wordLen gs) (hm : gs.length = m + 1) :
    Calls Try.prog 30 #[.agg #[.slice A gs.length c], .int .i64 i] w fun e w' => e = .returned (.tuple #[.string (letAns gs i).1, .int .i64 (letAns gs i).2]) ∧ Below w.heap.size w w' := by
  have hb := (Below.refl _ w).alloc (Nat.le_refl _) (.cells #[.slice A gs.length c] 29)
  have h1 := len.vlen_any (.slice A gs.length c) gs _ hf (hr.kept hb)
  have HB := Lib.hid hb
  have hn := gOk_len hok
  unfold LensPost at h1
  rw [hok] at h1
  have H1 := Lib.hid h1
  have HK := Lib.hid hok
  have hwl := wordLen_bd hok
  have HWLEN := Lib.hid (fun x B W (hx : OwnsI W B x (lens gs)) => wordLength_any x gs B W hf.len hx)
  obtain ⟨A', c', e', hr⟩ := hr
  injection e' with eA _ ec
  subst eA ec
  rcases hr with hr | ⟨g, rfl, hg, hc⟩
  · rw [hr] at hm; simp at hm
  have hst := down_start hm hin.1 (show i ≤ 1000000000000000 by omega)
  obtain ⟨T, hT⟩ : ∃ T, T = leafAt gs gs.length m i := ⟨_, rfl⟩
  rw [← hT] at hst
  have HAI := Lib.hid (fun x hx => letAns_in (x := x) hok hin hm (by rw [← hT]; exact hx))
  have HST := Lib.hid hst
  have hi0 := hin.1
  have hi1 := hin.2
  have hng : gs.length = m + 1 := hm
  rw [hm] at hn H1 HB ⊢
  have HN := Lib.hid hng
  have HC := Lib.hid hc
  have HLA := Lib.hid (fun W => (lastA (some ⟨g, 0, none⟩) (m + 1) c (by omega) W).mono (R' := fun e w' => e = .returned (.int .i64 (m : Int)) ∧ w' = W) fun e w' h => ⟨h.1.trans (ret_int (by omega)), h.2⟩)
  have hd1 : decide (i < 0) = false := by simp; omega
  have hd2 : decide (wordLen gs ≤ i) = false := by simp; omega
  generalize wordLen gs = wl at *
  clear h1 hb hok hin hm hng hst hT hc hf
  go_enter Try.func30, Try.ntmps30
  go_wp2_with fail
  refine H1.out.mono ?_
  rintro e w1 ⟨x, rfl, ho, hB1⟩
  have HO := Lib.hid (ho trivial)
  have HB1 := Lib.hid (HB.out.trans (hB1.mono (by simp)))
  have hc1 := (hB1.cell (p := ⟨w.heap.size, 0, none⟩) (by simp)).trans (cell_new _ _ _)
  have HC1 := Lib.hid hc1
  clear hB1 ho
  go_wp2_with fail
  refine (HWLEN.out x _ _ HO.out).mono ?_
  rintro e w2 ⟨rfl, rfl⟩
  go_wp2_with fail
  have hmg : m < gs.length := by rw [HN.out]; omega
  obtain ⟨a0, a1, a2⟩ := rules_cells HC.out hmg
  rw [← HB1.out.cell (p := ⟨g, m * 3, none⟩) hg] at a0
  rw [← HB1.out.cell (p := ⟨g, m * 3 + 1, none⟩) hg] at a1
  rw [← HB1.out.cell (p := ⟨g, m * 3 + 2, none⟩) hg] at a2
  have hl0 := lt_of_cell hc1
  have q0 : (0 : Int) ≤ (m : Int) := by omega
  have q1 : (m : Int) < (m : Int) + 1 := by omega
  have e1 := World.new_ne w1 _ hc1
  have e2 := World.new_ne w1 _ a0
  have e3 := World.new_ne w1 _ a1
  have e4 := World.new_ne w1 _ a2
  obtain ⟨R, hR⟩ : ∃ R, R = w1.heap.size := ⟨_, rfl⟩
  have hRw : w.heap.size < R := by have h5 : w.heap.size < w1.heap.size := hl0; omega
  obtain ⟨gx, cx, hxv⟩ : ∃ gx cx, x = .slice (some ⟨gx, 0, none⟩) (m + 1) cx := by
    have hl := lens_len gs
    rcases HO.out.shape with ⟨_, h'⟩ | ⟨gx, cx, hv, _⟩
    · rw [h', HN.out] at hl; simp at hl
    · exact ⟨gx, cx, by rw [hv, hl, HN.out]⟩
  subst hxv
  have hgx : gx < R := by rw [hR]; exact (HO.out.lt gx rfl).2
  have HXC := Lib.hid (fun j (hj : j < gs.length) => (show w1.cell? ⟨gx, j, none⟩ = some (.int .i64 ((lens gs).getD j 0)) by
    have h2 := lens_len gs
    have h3 := HN.out
    have ho := HO.out
    unfold OwnsI at ho
    rw [h2, HN.out] at ho
    rw [ho.cellAt j (by omega), iv_at (by rw [h2]; exact hj)]))
  have HRC : Hid (∀ k (hk : k < gs.length), w1.cell? ⟨g, k * 3, none⟩ = some (.string gs[k].L) ∧ w1.cell? ⟨g, k * 3 + 1, none⟩ = some (.int .i64 gs[k].l) ∧ w1.cell? ⟨g, k * 3 + 2, none⟩ = some (.int .i64 gs[k].r)) := Lib.hid fun k hk => by
    obtain ⟨x0, x1, x2⟩ := rules_cells HC.out hk
    exact ⟨(HB1.out.cell (p := ⟨g, k * 3, none⟩) hg).trans x0, (HB1.out.cell (p := ⟨g, k * 3 + 1, none⟩) hg).trans x1, (HB1.out.cell (p := ⟨g, k * 3 + 2, none⟩) hg).trans x2⟩
  have hgR : g < R := by have := HB1.out.size; omega
  have hst0 : ∀ q, LRel gs T R w1 m (.int .i64 i) ((w1.alloc (.cells #[.string gs[m].L, .int .i64 gs[m].l, .int .i64 gs[m].r] 59)).drewN q) := fun q =>
    ⟨i, gs[m], rfl, HST.out, List.getElem?_eq_getElem hmg, by rw [hR]; exact heap_alloc_new w1 _, below_drewN ((Below.refl _ w1).alloc (by omega) _) q⟩
  have HST0 := Lib.hid hst0
  clear hst0
  go_region_held3 (fun w' => w'.cell? ⟨w.heap.size, 0, none⟩ = some (.slice (some ⟨g, 0, none⟩) (m + 1) c) ∧ w'.cell? ⟨g, m * 3, none⟩ = some (.string gs[m].L) ∧ w'.cell? ⟨g, m * 3 + 1, none⟩ = some (.int .i64 gs[m].l) ∧ w'.cell? ⟨g, m * 3 + 2, none⟩ = some (.int .i64 gs[m].r))
    (go_keep) (first | (go_at_call 61; refine (HLA.out _).mono ?_; rintro e w' ⟨rfl, rfl⟩))
  all_goals
    go_wp2_with fail
    rw [← hR]
    clear e1 e2 e3 e4 q0 q1 hR
    go_loopg [1, 9] m (fun k iv _ wr => LRel gs T R w1 k iv wr)
    case atStart => first | exact HST0.out 0 | exact HST0.out 1 | exact HST0.out _
    case round =>
      obtain ⟨j, y, rfl, hd, hy, hblk, hBR⟩ := hrel
      have hkg := hd.1
      have hkn : gk < m + 1 := by rw [← HN.out]; exact hkg
      have hyk : gs[gk] = y := by rw [List.getElem?_eq_getElem hkg] at hy; injection hy
      obtain ⟨⟨k0, k1, k2⟩, f0, f1, f2⟩ := blk3_cells hblk
      have hc2 : wr.cell? ⟨w.heap.size, 0, none⟩ = some (.slice (some ⟨g, 0, none⟩) (m + 1) c) := (hBR.cell (p := ⟨w.heap.size, 0, none⟩) hRw).trans HC1.out
      have hj0 := hd.2.1
      have hj1 := hd.2.2.1
      obtain ⟨wo, rfl⟩ : ∃ wo : World, wo = wr := ⟨_, rfl⟩
      by_cases h0 : y.L.size = 0
      · obtain ⟨a, b, ha, hb, hak, hbk, p1, p2, hl, hr⟩ := down_step hd HK.out hkg (by rw [hyk]; exact h0)
        have he := empty_arr h0
        rw [hyk] at ha hb
        rw [ha] at k1
        rw [hb] at k2
        rw [he] at k0
        have hag : a < gs.length := by omega
        have hbg : b < gs.length := by omega
        have o1 := (hBR.cell (p := ⟨gx, a, none⟩) hgx).trans (HXC.out a hag)
        obtain ⟨x0, x1, x2⟩ := HRC.out a hag
        obtain ⟨y0, y1, y2⟩ := HRC.out b hbg
        rw [← hBR.cell (p := ⟨g, a * 3, none⟩) hgR] at x0
        rw [← hBR.cell (p := ⟨g, a * 3 + 1, none⟩) hgR] at x1
        rw [← hBR.cell (p := ⟨g, a * 3 + 2, none⟩) hgR] at x2
        rw [← hBR.cell (p := ⟨g, b * 3, none⟩) hgR] at y0
        rw [← hBR.cell (p := ⟨g, b * 3 + 1, none⟩) hgR] at y1
        rw [← hBR.cell (p := ⟨g, b * 3 + 2, none⟩) hgR] at y2
        have HNA := Lib.hid (fun (jj : Int) (hD : Down gs T a jj) => (show LRel gs T R w1 a (.int .i64 jj) (((wo.setCell ⟨R, 0, none⟩ (.string gs[a].L)).setCell ⟨R, 1, none⟩ (.int .i64 gs[a].l)).setCell ⟨R, 2, none⟩ (.int .i64 gs[a].r)) from
          ⟨jj, gs[a], rfl, hD, List.getElem?_eq_getElem hag, blk3 hblk, ((hBR.setCell (Nat.le_refl _) _).setCell (Nat.le_refl _) _).setCell (Nat.le_refl _) _⟩))
        have HNB := Lib.hid (fun (jj : Int) (hD : Down gs T b jj) => (show LRel gs T R w1 b (.int .i64 jj) (((wo.setCell ⟨R, 0, none⟩ (.string gs[b].L)).setCell ⟨R, 1, none⟩ (.int .i64 gs[b].l)).setCell ⟨R, 2, none⟩ (.int .i64 gs[b].r)) from
          ⟨jj, gs[b], rfl, hD, List.getElem?_eq_getElem hbg, blk3 hblk, ((hBR.setCell (Nat.le_refl _) _).setCell (Nat.le_refl _) _).setCell (Nat.le_refl _) _⟩))
        generalize (lens gs).getD a 0 = z at *
        have HL := Lib.hid hl
        have HRR := Lib.hid hr
        clear hd hl hr he h0 ha hb hblk hBR hy hyk
        by_cases hlt : j < z
        · have HD := Lib.hid (HNA.out j (HL.out hlt))
          go_wp2_with fail
          go_roundg a
          case rel => first | exact HD.out | ((repeat apply Exists.intro); exact ⟨HD.out, rfl⟩)
          case measure => omega
        · have HD := Lib.hid (HNB.out (j - z) (HRR.out hlt))
          go_wp2_with fail
          go_roundg b
          case rel => first | exact HD.out | ((repeat apply Exists.intro); exact ⟨HD.out, rfl⟩)
          case measure => omega
      · have he := full_list h0
        have hTk := down_end hd hkg (by rw [hyk]; exact h0)
        have HAN := Lib.hid (HAI.out y (by rw [hTk]; exact hy))
        have HBF := Lib.hid (HB1.out.trans (hBR.mono (by omega)))
        clear hd h0 hblk hBR hy hyk hTk
        go_wp2_with fail
        go_ret2
        exact ⟨by rw [HAN.out]; rfl, HBF.out⟩
end Go.Proofs.Ytjkijboljffmcab
