/-
  Walk: impl.NotAuto.
-/
import Derived.Test.YtddjcgaejjldbaaNotI2
import Derived.Test.YtddjcgaejjldbaaAuI3
import Derived.Deep.DeepCutAuto
import Derived.Deep.RegionLaw
import Derived.Deep.AppendLies
import Derived.Laws.EntriesVeiled
namespace Go.Proofs.Ytddjcgaejjldbaa
open Go.RowKit
open Wd
set_option linter.unusedVariables false
theorem below_drew' {B : Nat} {w W : World} (h : Below B w W) : Below B w W.drew := below_drewN h 1
set_option maxRecDepth 100000 in
set_option maxHeartbeats 12800000 in
theorem implNotAuto (v : Value) (x : Au) (w : World) (hf : FewA x) (h : IsAu w v x) :
    Calls Try.prog 25 #[v] w fun e w' => ∃ f n U, e = .returned (.tuple #[.agg #[.int .i64 (autNotAuto x).1.st, .int .i64 (autNotAuto x).1.go, f, n], .int .i64 (autNotAuto x).2]) ∧ OwnA w' w.heap.size f n U (autNotAuto x).1.fin (autNotAuto x).1.nx ∧ Below w.heap.size w w' := by
  have hmf : ∀ (fn : Fn) (first cap : Array Value) (w : World), (Instr.makeFunc fn first cap).run Try.prog w = .ok (.func fn first cap) w := fun _ _ _ _ => rfl
  have HIS := Lib.hid (fun W (hb : Below w.heap.size w W) => h.kept hb)
  obtain ⟨st, go, fin, nx⟩ := x
  obtain ⟨f, n, rfl, hF, hN⟩ := h
  simp only at hF hN
  have hb : Below w.heap.size w ((w.alloc (.cells #[.int .i64 st, .int .i64 go, f, n] 39)).alloc (.cells #[.int .i64 0, .int .i64 0, .slice none 0 0, .slice none 0 0] 39)) := ((Below.refl _ w).alloc (Nat.le_refl _) _).alloc (by simp) _
  have hP : B4 ((w.alloc (.cells #[.int .i64 st, .int .i64 go, f, n] 39)).alloc (.cells #[.int .i64 0, .int .i64 0, .slice none 0 0, .slice none 0 0] 39)) w.heap.size (.int .i64 st) (.int .i64 go) f n 39 := (B4.new w _ _ _ _ _).alloc _
  have hR : B4 ((w.alloc (.cells #[.int .i64 st, .int .i64 go, f, n] 39)).alloc (.cells #[.int .i64 0, .int .i64 0, .slice none 0 0, .slice none 0 0] 39)) (w.heap.size + 1) (.int .i64 0) (.int .i64 0) (.slice none 0 0) (.slice none 0 0) 39 := by
    have := B4.new (w.alloc (.cells #[.int .i64 st, .int .i64 go, f, n] 39)) (.int .i64 0) (.int .i64 0) (.slice none 0 0) (.slice none 0 0) 39
    rwa [show (w.alloc (.cells #[.int .i64 st, .int .i64 go, f, n] 39)).heap.size = w.heap.size + 1 from by simp] at this
  have HC := Lib.hid (implValidAuto _ ⟨st, go, fin, nx⟩ _ hf (HIS.out _ hb))
  have HB := Lib.hid hb
  have HP := Lib.hid hP
  have HR := Lib.hid hR
  have HF := Lib.hid (fun W (hW : Below w.heap.size w W) => hF.kept hW)
  have HN := Lib.hid (fun W (hW : Below w.heap.size w W) => hN.kept hW)
  have HFW := Lib.hid hf
  obtain ⟨Af, cf, rfl⟩ := hF.shape
  obtain ⟨An, cn, rfl, _⟩ := hN
  obtain ⟨⟨p0, p1, p2, p3⟩, _⟩ := blk4_cells hP
  clear hb hP hR hF hf HIS
  unfold autNotAuto
  cases ha : aOk ⟨st, go, fin, nx⟩
  · rw [ha] at HC
    rw [if_neg (by simp)]
    clear ha
    go_enter Try.func25, Try.ntmps25
    go_wp2_with fail
    refine HC.out.mono ?_
    rintro e w3 ⟨rfl, hD⟩
    have HB3 := Lib.hid (HB.out.trans (hD.mono HB.out.size))
    have HR3 := Lib.hid (HR.out.kept hD)
    obtain ⟨⟨r0, r1, r2, r3⟩, g0, g1, g2, g3⟩ := blk4_cells HR3.out
    have HE := Lib.hid (blk4_cells (blk4_all (a' := .int .i64 0) (b' := .int .i64 0) (c' := .slice none 0 0) (d' := .slice none 0 0) HR3.out)).1
    clear hD
    go_wp2_with fail
    obtain ⟨y0, y1, y2, y3⟩ := HE.out
    refine bodyPost_ret (v := .tuple #[.agg #[.int .i64 0, .int .i64 0, .slice none 0 0, .slice none 0 0], .int .i64 1]) (by simp [results, Try.results25, go_sem, y0, y1, y2, y3]) rfl ⟨_, _, _, rfl, zeroA_own _ _, ?_⟩
    exact (((HB3.out.setCell (by simp) _).setCell (by simp) _).setCell (by simp) _).setCell (by simp) _
  · rw [ha] at HC
    rw [if_pos rfl]
    obtain ⟨⟨h1, h24⟩, hrow, hlen⟩ := aOk_parts ha
    simp only at h1 h24
    obtain ⟨m, rfl⟩ : ∃ m : Nat, st = m := ⟨st.toNat, by omega⟩
    have hm24 : m ≤ 24 := by omega
    clear ha hrow hlen h1 h24
    go_enter Try.func25, Try.ntmps25
    go_wp2_with fail
    refine HC.out.mono ?_
    rintro e w3 ⟨rfl, hD⟩
    have HB3 := Lib.hid (HB.out.trans (hD.mono HB.out.size))
    have HR3 := Lib.hid (HR.out.kept hD)
    have HP3 := Lib.hid (HP.out.kept hD)
    clear hD p0 p1 p2 p3
    obtain ⟨⟨p0, p1, p2, p3⟩, _⟩ := blk4_cells HP3.out
    go_wp2_with fail
    refine (isFinal_any _ _ _ _ _ _ _ _ _ _ rfl rfl _ _ rfl rfl w3).mono ?_
    rintro e w4 ⟨rfl, hw4⟩
    subst hw4
    have hlt3 : w.heap.size < w3.heap.size := HP3.out.lt
    go_upto_region 5 with fail
    clear hlt3
    obtain ⟨hFP, hQ, hX, hB6, hs6⟩ := al3 w3 (.cells #[.int .i64 (m : Int), .int .i64 go, .slice Af fin.length cf, .slice An nx.length cn] 39) (.cells #[.func (.func 127) #[] #[.pointer (some ⟨w3.heap.size, 0, none⟩)]] 107) (.cells #[.int .i64 (m : Int), .int .i64 go, .slice none 0 0, .slice none 0 0] 39)
    generalize ((w3.alloc (.cells #[.int .i64 (m : Int), .int .i64 go, .slice Af fin.length cf, .slice An nx.length cn] 39)).alloc (.cells #[.func (.func 127) #[] #[.pointer (some ⟨w3.heap.size, 0, none⟩)]] 107)).alloc (.cells #[.int .i64 (m : Int), .int .i64 go, .slice none 0 0, .slice none 0 0] 39) = w6 at *
    have HB36 := Lib.hid hB6
    have HX6 := Lib.hid (show B4 w6 (w3.heap.size + 2) _ _ _ _ _ from hX)
    have HS6 := Lib.hid hs6
    have HB6 := Lib.hid (HB3.out.trans (hB6.mono HB3.out.size))
    have HFN := Lib.hid (finals_one (w3.heap.size + 1) (notP ⟨(m : Int), go, fin, nx⟩) m (by omega) w6 (fun W hW k hk =>
      notFinal_any (k : Int) (w3.heap.size + 1) w3.heap.size _ _ _ _ fin W HFW.out.fin ((show B4 w6 w3.heap.size _ _ _ _ _ from hFP).kept hW) (HF.out W (HB6.out.trans (hW.mono HB6.out.size)))
        ((hW.cell (p := ⟨w3.heap.size + 1, 0, none⟩) (by rw [HS6.out]; simp)).trans (by rw [cell_of_row _ _ _ _ _ _ hQ]; rfl))))
    have HP6 := Lib.hid (HP3.out.kept hB6)
    clear p0 p1 p2 p3
    obtain ⟨⟨p0, p1, p2, p3⟩, _⟩ := blk4_cells HP6.out
    clear hFP hQ hX hB6 hs6
    go_wp2_with fail
    refine HFN.out.mono ?_
    rintro e w7 ⟨fv, rfl, ho7, hB7⟩
    have HO7 := Lib.hid ho7
    have HB37 := Lib.hid (HB36.out.trans (hB7.mono HB36.out.size))
    have HX7 := Lib.hid (HX6.out.kept hB7)
    obtain ⟨⟨x0, x1, x2, x3⟩, e0, e1, e2, e3⟩ := blk4_cells HX7.out
    have HG7 := Lib.hid (GSt.start HX7.out (by omega) HB37.out ho7 HB36.out.size)
    obtain ⟨Ff, cf', rfl⟩ := own_slice ho7
    obtain ⟨X, hX⟩ : ∃ X, X = w3.heap.size + 2 := ⟨_, rfl⟩
    rw [← hX] at HG7 x0 x1 x2 x3 e0 e1 e2 e3 ⊢
    have HXE := Lib.hid hX
    generalize hfk : finK (notP ⟨(m : Int), go, fin, nx⟩) m = fk at *
    have HFK := Lib.hid hfk
    have HPK := Lib.hid (fun W (hb : Below w3.heap.size w3 W) => (blk4_cells (HP3.out.kept hb)).1)
    have HRK := Lib.hid (fun W (hb : Below w3.heap.size w3 W) => HR3.out.kept hb)
    have HNK := Lib.hid (fun W (hb : Below w3.heap.size w3 W) => HN.out W (HB3.out.trans (hb.mono HB3.out.size)))
    clear ho7 hB7 hX hfk p0 p1 p2 p3 HX7 HX6 HFN HB36 HB37 HB6 HP6 HP3 HR HP HB HC HS6 HO7
    go_upto_region 6 with fail
    generalize w7.setCell ⟨X, 2, none⟩ (.slice Ff fk.length cf') = w8 at *
    obtain ⟨p0, p1, p2, p3⟩ := HPK.out w8 HG7.out.below
    clear x0 x1 x2 x3 e0 e1 e2 e3
    go_wp2_with fail
    clear p0 p1 p2 p3
    obtain ⟨N, hNl⟩ : ∃ N, N = nx.length := ⟨_, rfl⟩
    rw [← hNl] at HPK HNK ⊢
    have HNL := Lib.hid hNl
    have hN1 : N ≤ 1048576 := by rw [hNl]; exact HFW.out.nx
    clear hNl
    go_loopw [27] (fun i wr => ∃ (k : Nat) (n : Value), k ≤ N ∧ i = .int .i64 k ∧ GSt w3 X (m : Int) go fk (.slice Ff fk.length cf') (nx.take k) n wr) (fun i _ => N - (intOf i).toNat)
    case atStart => exact ⟨0, _, Nat.zero_le _, rfl, by rw [List.take_zero]; exact HG7.out⟩
    case round =>
      obtain ⟨k, n, hk, rfl, hst⟩ := hrel
      obtain ⟨wo, rfl⟩ : ∃ wo : World, wo = wr := ⟨_, rfl⟩
      have HS := Lib.hid hst
      by_cases hlt : k < N
      · have hkg : k < nx.length := by rw [← HNL.out]; exact hlt
        obtain ⟨Ax, cx, hvx, hcx⟩ := HNK.out wo hst.below
        injection hvx with hvA hvn hvc
        subst hvA hvc
        rcases hcx with hn | ⟨a, rfl, hc⟩
        · rw [hn] at hkg; simp at hkg
        obtain ⟨u, c0, hu⟩ := hc k hkg
        have hm1 := HFW.out.row _ (List.getElem_mem hkg)
        have HCL := Lib.hid (cloneI_any u nx[k] wo.drew hm1 (hu.kept (below_drewN (Below.refl _ wo) 1)))
        have HTK : Hid (nx.take (k + 1) = nx.take k ++ [nx[k]]) := Lib.hid (List.take_succ_eq_append_getElem hkg)
        obtain ⟨A2, c2, rfl⟩ := hu.shape
        generalize nx[k] = r at *
        obtain ⟨i0, hi, hz0, hz1, hz2⟩ := info_parts Try.info_ints
        have HSD := Lib.hid (hst.kept (below_drewN (Below.refl _ wo) 1))
        obtain ⟨U, B, hown⟩ := HSD.out.own
        have HOW := Lib.hid hown
        have hUl : U.length = k := by rw [hown.2.2.2.2.len, List.length_take]; omega
        have HUL := Lib.hid hUl
        obtain ⟨An', cn', hAn⟩ := own_slice hown.2.2.2.2.outer
        rw [hUl] at hAn
        subst hAn
        obtain ⟨⟨x0, x1, x2, x3⟩, e0, e1, e2, e3⟩ := blk4_cells hst.out
        clear hst hc hkg hu hm1 hown hvn hUl
        have j0 : (0 : Int) ≤ (k : Int) := by omega
        have j1 : (k : Int) < (N : Int) := by omega
        have hBs : B ≤ wo.heap.size := HOW.out.2.2.2.1
        go_wp2_with fail
        go_region_law ((first
          | (go_simp
             go_at_call 79
             refine HCL.out.mono ?_
             rintro e w9 ⟨y9, rfl, ho9, hB9⟩
             have HO9 := Lib.hid ho9
             have HB9 := Lib.hid hB9
             have hs9 : wo.heap.size ≤ w9.heap.size := hB9.size
             have HX9 := Lib.hid (HSD.out.out.kept hB9)
             have hX9 : X < w9.heap.size := HX9.out.lt
             have HOUT : Hid (∀ o, (w9.alloc o).ownsRow B 35 1 (.slice An' k cn') k U) := Lib.hid (fun o => by
               have := ((HOW.out.2.2.2.2.kept hB9).outer.alloc o)
               rwa [HUL.out] at this)
             obtain ⟨⟨y0, y1, y2, y3⟩, d0, d1, d2, d3⟩ := blk4_cells HX9.out
             obtain ⟨A9, c9, rfl⟩ := own_slice ho9
             clear ho9 hB9)
          | (refine step_append_lies _ (by rfl) _ _ 22 (by rfl) B 35 i0 (.slice none 0 0) 1 24 Try.underlying22 hi hz0 hz1 hz2 (by rfl) (by decide) (.slice An' k cn') k U (by rfl) (HOUT.out _) ⟨w9.heap.size, 0, none⟩ 1 1 [.slice A9 r.length c9] (by rfl) (by rfl) (one_new _ _ _) (one_slice _ _ _) (by decide) (by unfold maxLen; omega) (by omega) (by simp; omega) (w9.heap.size + 1) (by simp) ?_
             intro g8 c8 w10 hown' hgrow _ _
             obtain ⟨hb4, hnew⟩ := GSt.append HSD.out HOW.out HB9.out HO9.out (by rw [HUL.out]; exact hown') hgrow
             have HNEW := Lib.hid hnew
             obtain ⟨⟨z0, z1, z2, z3⟩, b0, b1, b2, b3⟩ := blk4_cells hb4
             clear hown' hgrow hb4 hnew)))
        all_goals
          go_wp2_with fail
          go_roundw
          case rel => exact ⟨k + 1, _, by omega, by go_num, by rw [HTK.out]; exact HNEW.out⟩
          case measure => (first | (simp [intOf]; done) | (simp [intOf]; omega))
      · obtain rfl : k = N := by omega
        have HR9 := Lib.hid (HRK.out wo hst.below)
        obtain ⟨U, B, hown⟩ := hst.own
        obtain ⟨An', cn', hAn⟩ := own_slice hown.2.2.2.2.outer
        have hUl : U.length = k := by rw [hown.2.2.2.2.len, List.length_take, HNL.out]; omega
        rw [hUl] at hAn
        subst hAn
        obtain ⟨⟨x0, x1, x2, x3⟩, _⟩ := blk4_cells hst.out
        obtain ⟨⟨r0, r1, r2, r3⟩, g0, g1, g2, g3⟩ := blk4_cells HR9.out
        have HE := Lib.hid (blk4_cells (blk4_all (a' := .int .i64 (m : Int)) (b' := .int .i64 go) (c' := .slice Ff fk.length cf') (d' := .slice An' k cn') HR9.out)).1
        have HBW := Lib.hid hst.below
        have HA9 := Lib.hid (hst.ownA HR9.out (.int .i64 (m : Int)) (.int .i64 go) (.slice Ff fk.length cf') (.slice An' k cn'))
        clear hown hst hUl
        go_wp2_with fail
        obtain ⟨y0, y1, y2, y3⟩ := HE.out
        obtain ⟨U', hA⟩ := HA9.out
        refine bodyPost_ret (v := .tuple #[.agg #[.int .i64 m, .int .i64 go, .slice Ff fk.length cf', .slice An' k cn'], .int .i64 0]) (by simp [results, Try.results25, go_sem, y0, y1, y2, y3]) rfl ⟨_, _, U', rfl, ?_, ?_⟩
        · have hA' := hA.lower (B := w.heap.size) HB3.out.size
          show OwnA _ _ _ _ _ (finK (notP ⟨(m : Int), go, fin, nx⟩) (Int.toNat (m : Int))) nx
          rw [Int.toNat_natCast, HFK.out]
          have ht : nx.take k = nx := List.take_of_length_le (by have := HNL.out; omega)
          rw [ht] at hA'
          exact hA'
        · have hb9 := HB3.out.trans (HBW.out.mono HB3.out.size)
          exact (((hb9.setCell (by simp) _).setCell (by simp) _).setCell (by simp) _).setCell (by simp) _
end Go.Proofs.Ytddjcgaejjldbaa
