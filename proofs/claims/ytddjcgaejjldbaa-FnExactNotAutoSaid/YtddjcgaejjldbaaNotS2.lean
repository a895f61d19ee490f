/-
  Walk: spec.NotAuto.
-/
import Derived.Test.YtddjcgaejjldbaaNotM
import Derived.Deep.DeepCutAuto
import Derived.Deep.RegionHeld3
namespace Go.Proofs.Ytddjcgaejjldbaa
open Go.RowKit
open Wd
set_option linter.unusedVariables false
theorem below_drew {B : Nat} {w W : World} (h : Below B w W) : Below B w W.drew := below_drewN h 1
theorem ownM_slice {w : World} {lo : Nat} {y : Value} {Z : List (List Int)} (h : ∃ U, OwnM w lo y U Z) : ∃ A c, y = .slice A Z.length c := by
  obtain ⟨U, h⟩ := h
  obtain ⟨A, c, e⟩ := own_slice h.outer
  exact ⟨A, c, by rw [e, h.len]⟩
set_option maxRecDepth 100000 in
set_option maxHeartbeats 6400000 in
theorem specNotAuto (v : Value) (x : Au) (w : World) (hf : FewA x) (h : IsAu w v x) :
    Calls Try.prog 23 #[v] w fun e w' => ∃ y, e = .returned (.tuple #[y, .int .i64 (autNotAuto x).2]) ∧ IsAu w' y (autNotAuto x).1 ∧ Below w.heap.size w w' := by
  obtain ⟨st, go, fin, nx⟩ := x
  obtain ⟨f, n, rfl, hF, hN⟩ := h
  simp only at hF hN
  have hb : Below w.heap.size w ((w.alloc (.cells #[.int .i64 st, .int .i64 go, f, n] 39)).alloc (.cells #[.int .i64 0, .int .i64 0, .slice none 0 0, .slice none 0 0] 39)) := ((Below.refl _ w).alloc (Nat.le_refl _) _).alloc (by simp) _
  have hP : B4 ((w.alloc (.cells #[.int .i64 st, .int .i64 go, f, n] 39)).alloc (.cells #[.int .i64 0, .int .i64 0, .slice none 0 0, .slice none 0 0] 39)) w.heap.size (.int .i64 st) (.int .i64 go) f n 39 := (B4.new w _ _ _ _ _).alloc _
  have hR : B4 ((w.alloc (.cells #[.int .i64 st, .int .i64 go, f, n] 39)).alloc (.cells #[.int .i64 0, .int .i64 0, .slice none 0 0, .slice none 0 0] 39)) (w.heap.size + 1) (.int .i64 0) (.int .i64 0) (.slice none 0 0) (.slice none 0 0) 39 := by
    have := B4.new (w.alloc (.cells #[.int .i64 st, .int .i64 go, f, n] 39)) (.int .i64 0) (.int .i64 0) (.slice none 0 0) (.slice none 0 0) 39
    rwa [show (w.alloc (.cells #[.int .i64 st, .int .i64 go, f, n] 39)).heap.size = w.heap.size + 1 from by simp] at this
  have HC := Lib.hid (l04Ok_any w.heap.size f n ⟨st, go, fin, nx⟩ _ hP (hF.kept hb) (hN.kept hb) hf)
  have HB := Lib.hid hb
  have HP := Lib.hid hP
  have HR := Lib.hid hR
  have HF := Lib.hid (fun W (hW : Below w.heap.size w W) => hF.kept hW)
  have HN := Lib.hid (fun W (hW : Below w.heap.size w W) => hN.kept hW)
  have HFW := Lib.hid hf
  obtain ⟨Af, cf, rfl⟩ := hF.shape
  obtain ⟨An, cn, rfl, _⟩ := hN
  clear hb hP hR hF hf
  unfold autNotAuto
  cases ha : aOk ⟨st, go, fin, nx⟩
  · rw [ha] at HC
    rw [if_neg (by simp)]
    clear ha
    go_enter Try.func23, Try.ntmps23
    go_wp2_with fail
    refine HC.out.mono ?_
    rintro e w3 ⟨rfl, hD⟩
    have HB3 := Lib.hid (HB.out.trans (hD.below _))
    have HR3 := Lib.hid (HR.out.kept (hD.below _))
    obtain ⟨⟨r0, r1, r2, r3⟩, g0, g1, g2, g3⟩ := blk4_cells HR3.out
    have HE := Lib.hid (blk4_cells (blk4_all (a' := .int .i64 0) (b' := .int .i64 0) (c' := .slice none 0 0) (d' := .slice none 0 0) HR3.out)).1
    clear hD
    go_wp2_with fail
    obtain ⟨y0, y1, y2, y3⟩ := HE.out
    refine bodyPost_ret (v := .tuple #[.agg #[.int .i64 0, .int .i64 0, .slice none 0 0, .slice none 0 0], .int .i64 1]) (by simp [results, Try.results23, go_sem, y0, y1, y2, y3]) rfl ⟨_, rfl, zeroA_is _, ?_⟩
    exact (((HB3.out.setCell (by simp) _).setCell (by simp) _).setCell (by simp) _).setCell (by simp) _
  · rw [ha] at HC
    rw [if_pos rfl]
    obtain ⟨⟨h1, h24⟩, hrow, hlen⟩ := aOk_parts ha
    simp only at h1 h24
    obtain ⟨m, rfl⟩ : ∃ m : Nat, st = m := ⟨st.toNat, by omega⟩
    have hm24 : m ≤ 24 := by omega
    clear ha hrow hlen h1 h24
    go_enter Try.func23, Try.ntmps23
    go_wp2_with fail
    refine HC.out.mono ?_
    rintro e w3 ⟨rfl, hD⟩
    have HB3 := Lib.hid (HB.out.trans (hD.below _))
    have HR3 := Lib.hid (HR.out.kept (hD.below _))
    have HP3 := Lib.hid (HP.out.kept (hD.below _))
    have HS3 : Hid (w.heap.size + 2 ≤ w3.heap.size) := Lib.hid (by have := HR3.out.lt; omega)
    obtain ⟨⟨p0, p1, p2, p3⟩, _⟩ := blk4_cells HP3.out
    clear hD
    go_upto_region 3 with fail
    go_cut [4] (fun s4 wx => ∃ X y, s4 = .pointer (some ⟨X, 0, none⟩) ∧ FSt w3 X (m : Int) go nx [] (.slice none 0 0) y wx)
    case first =>
      have HT : Hid (∀ W, Below w3.heap.size w3 W → Calls Try.prog 72 #[.slice An nx.length cn] W fun e w' => ∃ y, e = .returned y ∧ (∃ U, OwnM w' w3.heap.size y U nx) ∧ Below w3.heap.size w3 w' ∧ ∀ b, b < W.heap.size → w'.heap[b]? = W.heap[b]?) := Lib.hid (fun W hb => by
        refine (l04Rows_any _ nx W HFW.out.nx HFW.out.row (HN.out W (HB3.out.trans (hb.mono HB3.out.size)))).mono ?_
        rintro e w' ⟨y, he, U, h1, h2⟩
        exact ⟨y, he, ⟨U, h1.lower hb.size⟩, hb.trans (h2.mono hb.size), fun b hb => h2.block b hb⟩)
      have HPK := Lib.hid (fun W (hb : Below w3.heap.size w3 W) => (blk4_cells (HP3.out.kept hb)).1)
      go_region_held3 (fun w' => w'.cell? ⟨w.heap.size, 0, none⟩ = some (.int .i64 m) ∧ w'.cell? ⟨w.heap.size, 1, none⟩ = some (.int .i64 go) ∧ w'.cell? ⟨w.heap.size, 2, none⟩ = some (.slice Af fin.length cf) ∧ w'.cell? ⟨w.heap.size, 3, none⟩ = some (.slice An nx.length cn))
        (first | go_keep | exact HC7.out | exact HPK.out _ (HB7.out.alloc HB7.out.size _) | exact HPK.out _ ((((HB7.out.setCell (Nat.le_refl _) _).setCell (Nat.le_refl _) _).setCell (Nat.le_refl _) _).setCell (Nat.le_refl _) _))
        (first
          | (go_at_call 72
             refine (HT.out _ ?_).mono ?_
             (first | exact (Below.refl _ _).alloc (Nat.le_refl _) _ | exact below_drew ((Below.refl _ _).alloc (Nat.le_refl _) _) | exact (below_drew (Below.refl _ _)).alloc (Nat.le_refl _) _)
             rintro e w7 ⟨y, rfl, hM7, hB7, hK7⟩
             obtain ⟨Ay, cy, rfl⟩ := ownM_slice hM7
             have HM7 := Lib.hid hM7
             have HB7 := Lib.hid hB7
             have HC7 := Lib.hid (HPK.out w7 hB7)
             have HX7 : Hid (B4 w7 w3.heap.size (.int .i64 0) (.int .i64 0) (.slice none 0 0) (.slice none 0 0) 39) := Lib.hid ((hK7 _ (by simp)).trans (heap_alloc_new w3 _))
             obtain ⟨⟨x0, x1, x2, x3⟩, e0, e1, e2, e3⟩ := blk4_cells HX7.out
             clear hM7 hB7 hK7)
          | (go_at_call 72
             refine (HT.out _ ?_).mono ?_
             (first | exact Below.refl _ _ | exact below_drew (Below.refl _ _))
             rintro e w7 ⟨y, rfl, hM7, hB7, hK7⟩
             obtain ⟨Ay, cy, rfl⟩ := ownM_slice hM7
             have HM7 := Lib.hid hM7
             have HB7 := Lib.hid hB7
             have HC7 := Lib.hid (HPK.out w7 hB7)
             clear hM7 hB7 hK7))
      all_goals (go_wp2_with fail; go_meet)
      · first | exact ⟨_, _, rfl, FSt.start1 HM7.out HB7.out⟩ | exact ⟨_, _, rfl, (FSt.start1 HM7.out HB7.out).drewN _⟩ | exact ⟨_, _, rfl, (FSt.start1 HM7.out HB7.out).drewN 1⟩
      · first | exact ⟨_, _, rfl, FSt.start2 HM7.out HB7.out HX7.out⟩ | exact ⟨_, _, rfl, (FSt.start2 HM7.out HB7.out HX7.out).drewN _⟩ | exact ⟨_, _, rfl, (FSt.start2 HM7.out HB7.out HX7.out).drewN 1⟩
    case rest =>
      obtain ⟨X, y, rfl, hst⟩ := hcut
      clear p0 p1 p2 p3
      have HST := Lib.hid hst
      have HPK := Lib.hid (fun W (hb : Below w3.heap.size w3 W) => (blk4_cells (HP3.out.kept hb)).1)
      clear hst HC HB HP HR
      go_wp2_with fail
      go_loopw [5] (fun i wr => ∃ (k : Nat) (f : Value), k ≤ m ∧ i = .int .i64 k ∧ FSt w3 X (m : Int) go nx (finK (notP ⟨(m : Int), go, fin, nx⟩) k) f y wr) (fun i _ => m - (intOf i).toNat)
      case atStart => exact ⟨0, _, Nat.zero_le _, rfl, HST.out⟩
      case round =>
        obtain ⟨k, f, hk, rfl, hst⟩ := hrel
        obtain ⟨wo, rfl⟩ : ∃ wo : World, wo = wr := ⟨_, rfl⟩
        have HS := Lib.hid hst
        obtain ⟨p0, p1, p2, p3⟩ := HPK.out wo hst.below
        by_cases hlt : k < m
        · have HH := Lib.hid (has_any _ fin (k : Int) wo HFW.out.fin (HF.out wo (HB3.out.trans (hst.below.mono HB3.out.size))))
          obtain ⟨i0, hi, hz0, hz1, hz2⟩ := info_parts Try.info_int64
          cases hh : hasN fin (k : Int)
          · rw [hh] at HH
            have HNX := Lib.hid (finK_yes (p := notP ⟨(m : Int), go, fin, nx⟩) (k := k) (by unfold notP; simp only; rw [hh]; rfl))
            have hlen := finK_len (notP ⟨(m : Int), go, fin, nx⟩) k
            obtain ⟨U, B, hown⟩ := hst.own
            have HOW := Lib.hid hown
            obtain ⟨Ff, cf', rfl⟩ := own_slice hown.2.2.2.2.2
            obtain ⟨⟨x0, x1, x2, x3⟩, e0, e1, e2, e3⟩ := blk4_cells hst.out
            generalize hfk : finK (notP ⟨(m : Int), go, fin, nx⟩) k = fk at *
            clear hown hst hh hfk
            go_wp2_with fail
            refine HH.out.mono ?_
            rintro e w5 ⟨rfl, rfl⟩
            go_wp2_with (first | (at_builtin; refine wpList_append_own _ rfl _ _ 35 rfl B 2 i0 (.int .i64 0) 1 8 Try.underlying35 hi hz0 hz1 hz2 rfl (by decide) _ _ _ rfl (HOW.out.2.2.2.2.2.alloc _) ⟨w5.heap.size, 0, none⟩ 1 1 [.int .i64 k] rfl rfl (one_new _ _ _) (one_int _ _) (by unfold maxLen; omega) (by omega) (by have := HOW.out.2.2.2.2.1; simp; omega) ?_))
            intro f' w6 hown hg _
            have HN6 := Lib.hid (FSt.append HS.out HOW.out hown hg)
            have HO6 := Lib.hid (HOW.out.2.2.2.2.2.lt)
            have HX6 : Hid (B4 w6 X (.int .i64 m) (.int .i64 go) (.slice Ff fk.length cf') y 39) := Lib.hid ((HS.out.out.alloc _).grown hg (fun e => by have h1 := (HOW.out.2.2.2.2.2.lt X e).1; have h2 := HOW.out.2.2.2.1; omega))
            obtain ⟨A6, c6, rfl⟩ := own_slice hown
            obtain ⟨⟨x0, x1, x2, x3⟩, e0, e1, e2, e3⟩ := blk4_cells HX6.out
            clear hown hg
            go_wp2_with fail
            go_roundw
            case rel => exact ⟨k + 1, _, by omega, by go_num, by rw [HNX.out]; exact HN6.out⟩
            case measure => simp [intOf]; omega
          · rw [hh] at HH
            have HNX := Lib.hid (finK_no (p := notP ⟨(m : Int), go, fin, nx⟩) (k := k) (by unfold notP; simp only; rw [hh]; rfl))
            clear hst hh
            go_wp2_with fail
            refine HH.out.mono ?_
            rintro e w5 ⟨rfl, rfl⟩
            go_wp2_with fail
            go_roundw
            case rel => exact ⟨k + 1, _, by omega, by go_num, by rw [HNX.out]; exact HS.out⟩
            case measure => simp [intOf]; omega
        · obtain rfl : k = m := by omega
          have HR9 := Lib.hid (HR3.out.kept hst.below)
          obtain ⟨⟨x0, x1, x2, x3⟩, _⟩ := blk4_cells hst.out
          obtain ⟨⟨r0, r1, r2, r3⟩, g0, g1, g2, g3⟩ := blk4_cells HR9.out
          obtain ⟨U, B, hown⟩ := hst.own
          have HOW := Lib.hid hown
          obtain ⟨Ff, cf', rfl⟩ := own_slice hown.2.2.2.2.2
          obtain ⟨An', cn', rfl⟩ := own_slice hown.1.outer
          generalize hfk : finK (notP ⟨(k : Int), go, fin, nx⟩) k = fk at *
          have HFK := Lib.hid hfk
          have HE := Lib.hid (blk4_cells (blk4_all (a' := .int .i64 (k : Int)) (b' := .int .i64 go) (c' := .slice Ff fk.length cf') (d' := .slice An' U.length cn') HR9.out)).1
          have HXS : Hid (w.heap.size + 1 < X) := Lib.hid (by have h1 := hst.x; have h2 := HR3.out.lt; omega)
          have HBW := Lib.hid hst.below
          clear hown hst hfk
          go_wp2_with fail
          obtain ⟨y0, y1, y2, y3⟩ := HE.out
          refine bodyPost_ret (v := .tuple #[.agg #[.int .i64 k, .int .i64 go, .slice Ff fk.length cf', .slice An' U.length cn'], .int .i64 0]) (by simp [results, Try.results23, go_sem, y0, y1, y2, y3]) rfl ⟨_, rfl, ?_, ?_⟩
          · have gk : wo.grownBy ((((wo.setCell ⟨w.heap.size + 1, 0, none⟩ (.int .i64 (k : Int))).setCell ⟨w.heap.size + 1, 1, none⟩ (.int .i64 go)).setCell ⟨w.heap.size + 1, 2, none⟩ (.slice Ff fk.length cf')).setCell ⟨w.heap.size + 1, 3, none⟩ (.slice An' U.length cn')) (some (w.heap.size + 1)) := by
              refine ⟨rfl, rfl, rfl, by simp, fun i hi hne => ?_⟩
              have hne' : i ≠ w.heap.size + 1 := fun e => hne (by rw [e])
              rw [Below.heap_setCell _ _ _ _ hne', Below.heap_setCell _ _ _ _ hne', Below.heap_setCell _ _ _ _ hne', Below.heap_setCell _ _ _ _ hne']
            have h1 := HOW.out.1
            have hm : OwnM _ _ _ _ _ := ⟨World.ownsRow.kept h1.outer gk (own_b4_ne h1.outer HR9.out (by decide)), h1.rows.len, fun j y zs a b => World.ownsRow.kept (h1.rows.row j y zs a b) gk (own_b4_ne (h1.rows.row j y zs a b) HR9.out (by decide)), h1.rows.ne⟩
            have hfi := World.ownsRow.kept HOW.out.2.2.2.2.2 gk (own_b4_ne HOW.out.2.2.2.2.2 HR9.out (by decide))
            refine ⟨_, _, rfl, ?_, hm.isLL⟩
            show IsL _ _ (finK (notP ⟨(k : Int), go, fin, nx⟩) (Int.toNat (k : Int)))
            rw [Int.toNat_natCast, HFK.out]
            exact IsL.of_own hfi
          · have hb9 := HB3.out.trans (HBW.out.mono HB3.out.size)
            exact (((hb9.setCell (by simp) _).setCell (by simp) _).setCell (by simp) _).setCell (by simp) _
end Go.Proofs.Ytddjcgaejjldbaa
