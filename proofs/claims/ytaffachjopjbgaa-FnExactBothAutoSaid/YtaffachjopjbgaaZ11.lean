/-
  Contracts and numbers of the functions that the laws of this place call, one text behind the other. No condition beyond those that each theorem names.
-/
import Derived.Test.YtaffachjopjbgaaZ1
import Derived.Test.YtaffachjopjbgaaZ2
import Derived.Test.YtaffachjopjbgaaZ3
import Derived.Test.YtaffachjopjbgaaZ5
import Derived.Test.YtaffachjopjbgaaZ6
import Derived.Deep.QuietTactic
import Derived.BigQuiet
import Derived.Deep.RegionHeld3
import Derived.Outline
namespace Go.Proofs.Ytaffachjopjbgaa
open Go.RowKit
open Wd
set_option linter.unusedVariables false
namespace Wd
/-- the counts of all states' visits -/
def vcA (x : Au) (gs : List Rl) : List Int × Int := if aOk x = true ∧ gOk gs = true then (vcL x.nx gs x.nx.length x.go.toNat, 0) else ([], 1)
end Wd
theorem vcA_few (x : Au) (gs : List Rl) : (vcA x gs).1.length ≤ 24 := by
  unfold vcA
  split
  · rename_i h
    obtain ⟨⟨_, h24⟩, _, hlen⟩ := aOk_parts h.1
    simp only [vcL, rowF_len]
    omega
  · simp
theorem aOk_goV {x : Au} (h : aOk x = true) : 0 ≤ x.go ∧ x.go < x.st := by
  unfold aOk at h
  simp only [Bool.and_eq_true, decide_eq_true_iff] at h
  have := h.1.1.2
  omega
set_option maxRecDepth 100000 in
set_option maxHeartbeats 12800000 in
theorem specVisitCounts (av : Value) (x : Au) (gv : Value) (gs : List Rl) (w : World) (hf : FewA x) (hx : IsAu w av x) (hfr : FewR gs) (hr : Rules w gv gs) :
    Calls Try.prog 33 #[av, .agg #[gv]] w fun e w' => ∃ y, e = .returned (.tuple #[y, .int .i64 (vcA x gs).2]) ∧ OwnsI w' w.heap.size y (vcA x gs).1 ∧ Below w.heap.size w w' := by
  obtain ⟨st, go, fin, nx⟩ := x
  obtain ⟨f, n, rfl, hF, hN⟩ := hx
  simp only at hF hN
  have hb : Below w.heap.size w ((w.alloc (.cells #[.int .i64 st, .int .i64 go, f, n] 33)).alloc (.cells #[gv] 37)) := ((Below.refl _ w).alloc (Nat.le_refl _) _).alloc (by simp) _
  have hP : B4 ((w.alloc (.cells #[.int .i64 st, .int .i64 go, f, n] 33)).alloc (.cells #[gv] 37)) w.heap.size (.int .i64 st) (.int .i64 go) f n 33 := (B4.new w _ _ _ _ _).alloc _
  have hG : GP ((w.alloc (.cells #[.int .i64 st, .int .i64 go, f, n] 33)).alloc (.cells #[gv] 37)) (w.heap.size + 1) gs := by
    have := rules_gpT (hr.kept ((Below.refl _ w).alloc (Nat.le_refl _) (.cells #[.int .i64 st, .int .i64 go, f, n] 33))) 37
    rwa [show (w.alloc (.cells #[.int .i64 st, .int .i64 go, f, n] 33)).heap.size = w.heap.size + 1 from by simp] at this
  have HC := Lib.hid (l04Ok_any w.heap.size f n ⟨st, go, fin, nx⟩ _ hP (hF.kept hb) (hN.kept hb) hf)
  have HG := Lib.hid (fun W h => l02Ok_any (w.heap.size + 1) gs W hfr h)
  have HGP := Lib.hid hG
  have HB := Lib.hid hb
  have HP := Lib.hid hP
  have hff := hf.fin
  have HF := Lib.hid (fun W (hW : Below w.heap.size w W) => hF.kept hW)
  have HN := Lib.hid (fun W (hW : Below w.heap.size w W) => hN.kept hW)
  obtain ⟨Af, cf, rfl⟩ := hF.shape
  obtain ⟨An, cn, rfl, hNx⟩ := hN
  obtain ⟨Ag, cg, rfl, hRx⟩ := hr
  clear hb hP hG hF hNx hRx
  unfold vcA
  cases ha : aOk ⟨st, go, fin, nx⟩
  · rw [ha] at HC
    rw [if_neg (by simp)]
    clear ha
    go_enter Try.func33, Try.ntmps33
    go_wp2_with fail
    refine HC.out.mono ?_
    rintro e w3 ⟨rfl, hD⟩
    have HB3 := Lib.hid (HB.out.trans (hD.below _))
    clear hD
    go_wp2_with fail
    go_ret2
    exact ⟨_, rfl, World.ownsRow_lit (base := w.heap.size) (e := 2) (size := 1) w3 #[] 0 HB3.out.size (by decide) rfl, HB3.out.alloc HB3.out.size _⟩
  · rw [ha] at HC
    obtain ⟨⟨h1, h24⟩, hrow, hlen⟩ := aOk_parts ha
    have hgo := aOk_goV ha
    simp only at h1 h24 hrow hlen hgo
    cases hok : gOk gs
    · rw [if_neg (by simp)]
      have HG2 : Hid (∀ W, GP W (w.heap.size + 1) gs → Calls Try.prog 79 #[.pointer (some ⟨w.heap.size + 1, 0, none⟩)] W fun e w' => e = .returned (.bool false) ∧ Below W.heap.size W w') := Lib.hid (fun W h => by have := HG.out W h; rwa [hok] at this)
      clear ha hok hrow hlen hgo
      go_enter Try.func33, Try.ntmps33
      go_wp2_with fail
      refine HC.out.mono ?_
      rintro e w3 ⟨rfl, hD⟩
      have HB3 := Lib.hid (HB.out.trans (hD.below _))
      have HG3 := Lib.hid (HGP.out.kept (hD.below _))
      clear hD
      go_wp2_with fail
      refine (HG2.out _ HG3.out).mono ?_
      rintro e w4 ⟨rfl, hB4⟩
      have HB4 := Lib.hid (HB3.out.trans (hB4.mono HB3.out.size))
      clear hB4
      go_wp2_with fail
      go_ret2
      exact ⟨_, rfl, World.ownsRow_lit (base := w.heap.size) (e := 2) (size := 1) w4 #[] 0 HB4.out.size (by decide) rfl, HB4.out.alloc HB4.out.size _⟩
    · rw [if_pos ⟨rfl, rfl⟩]
      have HG2 : Hid (∀ W, GP W (w.heap.size + 1) gs → Calls Try.prog 79 #[.pointer (some ⟨w.heap.size + 1, 0, none⟩)] W fun e w' => e = .returned (.bool true) ∧ Below W.heap.size W w') := Lib.hid (fun W h => by have := HG.out W h; rwa [hok] at this)
      obtain ⟨gg, hgg⟩ : ∃ n : Nat, go = n := ⟨go.toNat, by omega⟩
      have hgN : gg < nx.length := by omega
      have HVC := Lib.hid (fun W (hb : Below w.heap.size w W) hg => l04Visits_any _ nx st gg (w.heap.size + 1) gs W h1 h24 hrow hlen (HN.out W hb) hok hg hgN)
      have hgt : go.toNat = gg := by omega
      rw [hgt]
      clear ha hok hrow hlen hgo hff HF hgt
      subst hgg
      go_enter Try.func33, Try.ntmps33
      go_wp2_with fail
      refine HC.out.mono ?_
      rintro e w3 ⟨rfl, hD⟩
      have HB3 := Lib.hid (HB.out.trans (hD.below _))
      have HG3 := Lib.hid (HGP.out.kept (hD.below _))
      have HP3 := Lib.hid (HP.out.kept (hD.below _))
      clear hD
      go_wp2_with fail
      refine (HG2.out _ HG3.out).mono ?_
      rintro e w4 ⟨rfl, hB4⟩
      have HB4 := Lib.hid (HB3.out.trans (hB4.mono HB3.out.size))
      have HG4 := Lib.hid (HG3.out.kept hB4)
      have HP4 := Lib.hid (HP3.out.kept hB4)
      obtain ⟨⟨p0, p1, p2, p3⟩, _⟩ := blk4_cells HP4.out
      clear hB4
      go_wp2_with fail
      refine (HVC.out _ HB4.out HG4.out).mono ?_
      rintro e w8 ⟨y, rfl, hoy, hB8⟩
      have HO8 := Lib.hid (hoy.lower HB4.out.size)
      have HB8 := Lib.hid (HB4.out.trans (hB8.mono HB4.out.size))
      clear hoy hB8
      go_wp2_with fail
      go_ret2
      exact ⟨_, rfl, HO8.out, HB8.out⟩
end Go.Proofs.Ytaffachjopjbgaa
namespace Go.Proofs.Ytaffachjopjbgaa
open Go.RowKit
open Wd
set_option linter.unusedVariables false
theorem Try.info_tallyC : (Try.prog.info? 201).map (fun i => (i.zero, i.size, i.bytes)) = some (some (.agg (iv (List.replicate 24 0)).toArray), 24, 192) := by kernel_rfl
theorem set_apartC (w : World) (M o o' : Nat) (v : Value) (h : o' ≠ o) : (w.setCell ⟨M, o, none⟩ v).cell? ⟨M, o', none⟩ = w.cell? ⟨M, o', none⟩ := by
  unfold World.setCell World.cell?
  simp only [Array.getElem?_modify, if_true]
  cases hh : w.heap[M]? with
  | none => rfl
  | some x =>
    cases x <;> simp [Ne.symm h]
theorem rowS_skipC {row : List Int} {s : Nat} (h : row.length = 24) (hs : s < 24) (hz : row[s]'(by omega) = 0) : rowS row (s + 1) = rowS row s := by
  rw [← rowS_set h hs, hz]
  apply List.ext_getElem?
  intro i
  rw [List.getElem?_set]
  by_cases hi : s = i
  · subst hi
    rw [if_pos rfl, if_pos (by rw [rowS_len h (by omega)]; exact hs)]
    unfold rowS
    rw [List.getElem?_append_right (by rw [List.length_take]; omega), List.getElem?_replicate, if_pos (by rw [List.length_take]; omega)]
  · rw [if_neg hi]
theorem b5_allC {w : World} {R : Nat} {t : TypeId} {a b c d e a' b' c' d' e' : Value} (h : B5 w R a b c d e t) : B5 (((((w.setCell ⟨R, 0, none⟩ a').setCell ⟨R, 1, none⟩ b').setCell ⟨R, 2, none⟩ c').setCell ⟨R, 3, none⟩ d').setCell ⟨R, 4, none⟩ e') R a' b' c' d' e' t := by
  unfold B5 at h ⊢
  simp [World.setCell, Array.getElem?_modify, h]
theorem b5_frozenC {w : World} {R o : Nat} {t : TypeId} {a b c d e : Value} (h : B5 w R a b c d e t) : w.frozen? ⟨R, o, none⟩ = false := by unfold B5 at h; simp [World.frozen?, h]
/-- between two rules -/
def SfRelC (wa : Int → Bool) (nx : List (List Int)) (gs : List Rl) (w : World) (M n : Nat) (i : Value) (wr : World) : Prop :=
  ∃ k : Nat, k ≤ n ∧ i = .int .i64 k ∧ wr.ownsRow M 201 24 (.slice (some ⟨M, 0, none⟩) n n) n (iv (flK (visK wa nx gs k) n)) ∧ Below M w wr
set_option maxRecDepth 100000 in
set_option maxHeartbeats 12800000 in
theorem searchFor_anyC (wv gv : Value) (gs : List Rl) (nx : List (List Int)) (st go : Int) (lo P : Nat) (wa : Int → Bool) (w : World) (h1 : 1 ≤ st) (h24 : st ≤ 24) (hrow : nx.all (rowOk st) = true) (hlen : (nx.length : Int) = st) (hok : gOk gs = true) (hr : Rules w gv gs) (hW : IsW w lo wv gv gs nx go) (hwd : ∀ (W : World) (z : Int), Below w.heap.size w W → Calls Try.prog 104 #[.int .i64 z, .pointer (some ⟨P, 0, none⟩)] W fun e w' => e = .returned (.bool (wa z)) ∧ w' = W) :
    Calls Try.prog 88 #[wv, .func (.func 104) #[] #[.pointer (some ⟨P, 0, none⟩)]] w fun e w' => ∃ sv, e = .returned sv ∧ IsS w' 0 sv gv gs nx (visK wa nx gs gs.length) go ∧ Below w.heap.size w w' := by
  obtain ⟨i0, hi, hz0, hz1, hz2⟩ := info_parts Try.info_tallyC
  obtain ⟨lv, mv, rfl, h2, h3⟩ := hW
  have hn400 := gOk_len hok
  have hfit := (gOk_iff.1 hok).2.1
  have H2 := Lib.hid h2
  have H3 := Lib.hid h3
  have HR := Lib.hid hr
  have HP := Lib.hid hwd
  have HROW := Lib.hid hrow
  have HLEN := Lib.hid hlen
  have HFIT := Lib.hid hfit
  have HSM := Lib.hid (fun j (hj : j < gs.length) => small_at (gOk_iff.1 hok).2.2 j hj)
  obtain ⟨Ag, cg, rfl, hrx⟩ := hr
  obtain ⟨A2, c2, rfl⟩ := own_slice h2
  obtain ⟨A3, c3, rfl, h3x⟩ := h3
  have hb : Below w.heap.size w ((w.alloc (.cells #[.slice Ag gs.length cg, .slice A2 (lens gs).length c2, .slice A3 (mapsK nx gs gs.length).length c3, .int .i64 go] 110)).alloc (.cells #[.slice none 0 0, .slice none 0 0, .slice none 0 0, .int .i64 0, .slice none 0 0] 116)) := ((Below.refl _ w).alloc (Nat.le_refl _) _).alloc (by simp) _
  have hWb : B4 ((w.alloc (.cells #[.slice Ag gs.length cg, .slice A2 (lens gs).length c2, .slice A3 (mapsK nx gs gs.length).length c3, .int .i64 go] 110)).alloc (.cells #[.slice none 0 0, .slice none 0 0, .slice none 0 0, .int .i64 0, .slice none 0 0] 116)) w.heap.size (.slice Ag gs.length cg) (.slice A2 (lens gs).length c2) (.slice A3 (mapsK nx gs gs.length).length c3) (.int .i64 go) 110 := (B4.new w _ _ _ _ _).alloc _
  have HB := Lib.hid hb
  have HWB := Lib.hid hWb
  have hSb : B5 ((w.alloc (.cells #[.slice Ag gs.length cg, .slice A2 (lens gs).length c2, .slice A3 (mapsK nx gs gs.length).length c3, .int .i64 go] 110)).alloc (.cells #[.slice none 0 0, .slice none 0 0, .slice none 0 0, .int .i64 0, .slice none 0 0] 116)) (w.heap.size + 1) (.slice none 0 0) (.slice none 0 0) (.slice none 0 0) (.int .i64 0) (.slice none 0 0) 116 := by
    have := heap_alloc_new (w.alloc (.cells #[.slice Ag gs.length cg, .slice A2 (lens gs).length c2, .slice A3 (mapsK nx gs gs.length).length c3, .int .i64 go] 110)) (.cells #[.slice none 0 0, .slice none 0 0, .slice none 0 0, .int .i64 0, .slice none 0 0] 116)
    rwa [show (w.alloc (.cells #[.slice Ag gs.length cg, .slice A2 (lens gs).length c2, .slice A3 (mapsK nx gs gs.length).length c3, .int .i64 go] 110)).heap.size = w.heap.size + 1 from by simp] at this
  have HSB := Lib.hid hSb
  clear hSb
  clear hb hWb hrx h3x h2 hrow hlen hfit hok hwd
  go_enter Try.func88, Try.ntmps88
  go_upto_region 1 with fail
  obtain ⟨⟨p0, p1, p2, p3⟩, _⟩ := blk4_cells HWB.out
  have HN0 : Hid (gs.length ≤ 400) := Lib.hid hn400
  obtain ⟨w5, hw5⟩ : ∃ w5, w5 = ((w.alloc (.cells #[.slice Ag gs.length cg, .slice A2 (lens gs).length c2, .slice A3 (mapsK nx gs gs.length).length c3, .int .i64 go] 110)).alloc (.cells #[.slice none 0 0, .slice none 0 0, .slice none 0 0, .int .i64 0, .slice none 0 0] 116)) := ⟨_, rfl⟩
  rw [← hw5] at HB HWB HSB p0 p1 p2 p3 ⊢
  clear hw5
  obtain ⟨n, hne⟩ : ∃ n, n = gs.length := ⟨_, rfl⟩
  rw [← hne] at p0 hn400
  have HN := Lib.hid hne
  clear hne
  go_wp2_with (refine wpList_make_full _ rfl _ _ 114 rfl w5.heap.size 201 i0 (.agg (iv (List.replicate 24 0)).toArray) 24 Try.underlying114 hi hz0 hz1 .i64 .i64 _ _ n rfl rfl rfl rfl (by rw [hz2]; omega) (by unfold maxLen; omega) (Nat.le_refl _) ?_)
  intro w6 hown hgr
  have hown : w6.ownsRow w5.heap.size 201 24 (.slice (some ⟨w5.heap.size, 0, none⟩) n n) n (iv (flK [] n)) := by rw [← made_map]; exact hown
  have hB6 := below_of_grown hgr
  obtain ⟨M, hM⟩ : ∃ M, M = w5.heap.size := ⟨_, rfl⟩
  rw [← hM] at hown hB6 ⊢
  have HST : Hid (SfRelC wa nx gs w5 M n (.int .i64 0) w6) := Lib.hid ⟨0, Nat.zero_le _, rfl, hown, hB6⟩
  have HME := Lib.hid hM
  have HWB5 := Lib.hid (fun W (hb : Below w5.heap.size w5 W) => HWB.out.kept hb)
  obtain ⟨⟨y0, y1, y2, y3⟩, _⟩ := blk4_cells (HWB5.out w6 (by rw [← hM]; exact hB6))
  rw [← HN.out] at y0
  clear hown hgr hB6 hM p0 p1 p2 p3
  go_wp2_with fail
  clear y0 y1 y2 y3
  go_loopw [20] (fun i wr => SfRelC wa nx gs w5 M n i wr) (fun i _ => n - (intOf i).toNat)
  case atStart => exact HST.out
  case round =>
    obtain ⟨k, hk, rfl, hown, hB⟩ := hrel
    obtain ⟨wo, rfl⟩ : ∃ wo : World, wo = wr := ⟨_, rfl⟩
    have hB' : Below w5.heap.size w5 wo := by rw [← HME.out]; exact hB
    have hBw := HB.out.trans (hB'.mono HB.out.size)
    obtain ⟨⟨p0, p1, p2, p3⟩, _⟩ := blk4_cells (HWB5.out wo hB')
    rw [← HN.out] at p0
    by_cases hkn : k < n
    · have hkg : k < gs.length := by rw [← HN.out]; exact hkn
      obtain ⟨Ay, cy, hvy, hcy⟩ := HR.out.kept hBw
      injection hvy with hvA _ hvc
      subst hvA hvc
      rcases hcy with hn0 | ⟨g, rfl, hg, hc⟩
      · rw [hn0] at hkg; simp at hkg
      obtain ⟨a0, a1, a2⟩ := rules_cells hc hkg
      have k0 : (0 : Int) ≤ (k : Int) := by omega
      have k1 : (k : Int) < (n : Int) := by omega
      have hM : M < wo.heap.size := (hown.lt M rfl).2
      have HOW := Lib.hid hown
      have HBO := Lib.hid hB
      clear hown hB hB' hBw hc hg
      obtain ⟨A3', c3', hv3, h3z | ⟨g3, hA3, _, h3c⟩⟩ := H3.out
      · have := mapsK_len nx gs gs.length; rw [h3z] at this; simp at this; omega
      injection hv3 with hv3 hv4 hv5
      clear hv4 hv5
      rw [← hv3] at hA3
      subst hA3
      have hmk := mapsK_ok HROW.out HLEN.out h1 h24 HFIT.out gs.length (Nat.le_refl _) k hkg
      have HRM := Lib.hid (fun W (hb : Below w.heap.size w W) => show W.rangeAt g3 (k * 24) (iv ((mapsK nx gs gs.length).getD k [])) from by
        intro i v hv
        have hi24 : i < 24 := by have := (List.getElem?_eq_some_iff.1 hv).1; rw [iv_len, hmk.1] at this; exact this
        rw [iv_get _ i (by rw [hmk.1]; omega)] at hv
        injection hv with hv
        subst hv
        have h5 := h3c k i (by rw [mapsK_len]; exact hkg) hi24
        rw [List.getD_eq_getElem?_getD (i := i), List.getElem?_eq_getElem (by rw [hmk.1]; omega)] at h5
        exact (hb.cell (lt_of_cell h5)).trans h5)
      have HMC := Lib.hid (fun W (hb : Below w.heap.size w W) j i (hj : j < gs.length) (hi : i < 24) => show W.cell? ⟨g3, j * 24 + i, none⟩ = some (.int .i64 (at2 (mapsK nx gs gs.length) j i)) from by
        have h5 := h3c j i (by rw [mapsK_len]; exact hj) hi
        exact (hb.cell (lt_of_cell h5)).trans h5)
      obtain ⟨m, hm⟩ : ∃ m, m = (mapsK nx gs gs.length).getD k [] := ⟨_, rfl⟩
      rw [← hm] at HRM hmk
      have HMM := Lib.hid hm
      have HMK := Lib.hid hmk
      have hmz : (Try.prog.info? 197).map (·.size) = some (iv m).length := by rw [size_map, iv_len, hmk.1]
      have HMZ := Lib.hid hmz
      have HBW := Lib.hid (HB.out.trans ((show Below w5.heap.size w5 wo by rw [← HME.out]; exact HBO.out).mono HB.out.size))
      have k2 : (k : Int) < ((mapsK nx gs gs.length).length : Int) := by rw [mapsK_len]; omega
      clear hv3 hm hmk hmz h3c
      obtain ⟨row, hrw⟩ : ∃ row, row = visR wa (mapsK nx gs k) (visK wa nx gs k) gs[k] ((mapsK nx gs (k + 1)).getD k []) := ⟨_, rfl⟩
      have hr24 : row.length = 24 := by rw [hrw, visR_len]
      have HNX : Hid (visK wa nx gs (k + 1) = visK wa nx gs k ++ [row]) := Lib.hid (by rw [visK, List.getD_eq_getElem?_getD (l := gs), List.getElem?_eq_getElem hkg, hrw]; rfl)
      have HRV : Hid (∀ s (hs : s < 24), row[s]'(by omega) = at2 (visK wa nx gs gs.length) k s) := Lib.hid (fun s hs => by
        rw [visK_at wa nx gs k s _ hkg]
        unfold at2
        rw [HNX.out, getD_snoc_eq _ _ _ _ (visK_len wa nx gs k).symm, List.getD_eq_getElem?_getD, List.getElem?_eq_getElem (by omega)]
        rfl)
      have HVW := Lib.hid (visK_wide wa nx gs k)
      have HVL := Lib.hid (visK_len wa nx gs k)
      have HR24 := Lib.hid hr24
      clear hrw
      by_cases h0 : gs[k].L.size = 0
      · have HK := Lib.hid (fun W => kind_pair gs[k] h0 W)
        have HT := tm_pp
        have hp := (ok_pair h0).1 (fits_at HFIT.out k hkg)
        obtain ⟨a, ha⟩ : ∃ a : Nat, gs[k].l = a := ⟨gs[k].l.toNat, by omega⟩
        obtain ⟨b, hb⟩ : ∃ b : Nat, gs[k].r = b := ⟨gs[k].r.toNat, by omega⟩
        have hak : a < k := by omega
        have hbk : b < k := by omega
        have HVP := Lib.hid (fun s (hs : s < 24) => vis_pair wa nx hkg h0 ha hb hak hbk hs)
        have hag : agg3 gs[k] = .agg #[.string ⟨#[]⟩, .int .i64 (a : Int), .int .i64 (b : Int)] := by
          unfold agg3
          rw [empty_arr h0, ha, hb]
        rw [hag] at HK
        rw [empty_arr h0] at a0
        rw [ha] at a1
        rw [hb] at a2
        clear hp hag ha hb h0
        go_wp2_with fail
        refine (HK.out _).mono ?_
        rintro e w7 ⟨rfl, hB7⟩
        have hb7 := ((Below.refl _ wo).alloc (Nat.le_refl _) (.cells #[.string ⟨#[]⟩, .int .i64 (a : Int), .int .i64 (b : Int)] 127)).trans (hB7.mono (by simp))
        have HB7 := Lib.hid hb7
        have q2 := (hb7.cell (lt_of_cell p2)).trans p2
        have HRM7 := Lib.hid (HRM.out w7 (HBW.out.trans (hb7.mono HBW.out.size)))
        clear hB7 hb7 a0 a1 a2 p0 p1 p2 p3
        go_wp2_with (first | (with_reducible refine wpList_load_mid rfl 197 _ rfl g3 (k * 24) rfl (iv m) _ HRM7.out und_map rfl HMZ.out ?_))
        have HOWs : Hid (w7.ownsRow M 201 24 (.slice (some ⟨M, 0, none⟩) n n) n (iv (flS (visK wa nx gs k) row 0 n))) := Lib.hid (by
          rw [flS_zero (by rw [HVL.out]; exact hkn)]
          exact own_below HOW.out HB7.out (Nat.le_refl _))
        have HB57 : Hid (Below M w5 w7) := Lib.hid (HBO.out.trans (HB7.out.mono (by omega)))
        clear q2
        go_loopw [32] (fun i wr => ∃ s : Nat, s ≤ 24 ∧ i = .int .i64 s ∧ wr.ownsRow M 201 24 (.slice (some ⟨M, 0, none⟩) n n) n (iv (flS (visK wa nx gs k) row s n)) ∧ Below M w5 wr) (fun i _ => 24 - (intOf i).toNat)
        case atStart => exact ⟨0, by omega, rfl, HOWs.out, HB57.out⟩
        case round =>
          obtain ⟨s, hs, rfl, hos, hBs⟩ := hrel
          obtain ⟨wu, rfl⟩ : ∃ wu : World, wu = wr := ⟨_, rfl⟩
          by_cases hs24 : s < 24
          · have hBs5 : Below w5.heap.size w5 wu := by rw [← HME.out]; exact hBs
            obtain ⟨⟨p0, p1, p2, p3⟩, _⟩ := blk4_cells (HWB5.out wu hBs5)
            have hBwu := HB.out.trans (hBs5.mono HB.out.size)
            have cq := HMC.out wu hBwu a s (by omega) hs24
            have hqb := map_lt HROW.out HLEN.out h1 h24 HFIT.out (k := a) (s := s) (by omega) hs24
            have hma := (mapsK_ok HROW.out HLEN.out h1 h24 HFIT.out gs.length (Nat.le_refl _) a (by omega))
            have hq0 : 0 ≤ at2 (mapsK nx gs gs.length) a s := by
              unfold at2
              rw [List.getD_eq_getElem?_getD (i := s), List.getElem?_eq_getElem (by rw [hma.1]; omega), Option.getD_some]
              exact (hma.2 _ (List.getElem_mem _)).1
            have hvp := HVP.out s hs24
            have va := vis_fir wa HROW.out HLEN.out h1 h24 HFIT.out (a + 1) a s (by omega) (by omega) hs24
            have vb := vis_fir wa HROW.out HLEN.out h1 h24 HFIT.out (b + 1) b (at2 (mapsK nx gs gs.length) a s).toNat (by omega) (by omega) hqb
            have ba := (fnd_bd wa HROW.out HLEN.out h1 h24 HFIT.out (a + 1) a s 0 (by omega) (by omega) hs24).1
            have bb := (fnd_bd wa HROW.out HLEN.out h1 h24 HFIT.out (b + 1) b (at2 (mapsK nx gs gs.length) a s).toNat 0 (by omega) (by omega) hqb).1
            have sa := HSM.out a (by omega)
            have sb := HSM.out b (by omega)
            obtain ⟨q, hq⟩ : ∃ q : Nat, at2 (mapsK nx gs gs.length) a s = q := ⟨(at2 (mapsK nx gs gs.length) a s).toNat, by omega⟩
            rw [hq, Int.toNat_natCast] at hvp vb bb hqb
            rw [hq] at cq
            have hcell : ∀ j i, j < k → i < 24 → wu.cell? ⟨M, j * 24 + i, none⟩ = some (.int .i64 (at2 (visK wa nx gs gs.length) j i)) := fun j i hj hi => by
              have h5 := flS_get (row := row) (s := s) (n := n) HVW.out (by rw [HVL.out]; exact hj) hi
              have hl5 := flS_len (row := row) (s := s) (n := n) HVW.out hr24 (by omega) (by rw [HVL.out]; exact hkn)
              rw [World.ownsRow.cellAt hos (j * 24 + i) (by omega), iv_get _ _ (by rw [hl5]; omega)]
              rw [List.getElem?_eq_getElem (by rw [hl5]; omega)] at h5
              injection h5 with h5
              rw [h5, visK_at wa nx gs j i k hj, visK_at wa nx gs j i gs.length (by omega)]
            have ca := hcell a s hak hs24
            have cb := hcell b q hbk hqb
            have HSTO := Lib.hid (fun (hv : Nat) => flS_store (w := wu) hos HVW.out hr24 hs24 (by rw [HVL.out]; exact hkn))
            have hzr := HRV.out s hs24
            rw [hvp] at hzr
            have HOSS := Lib.hid hos
            have HBSS := Lib.hid hBs
            clear hos hBs hBs5 hBwu hcell hma hq0 hvp hq
            generalize at2 (visK wa nx gs gs.length) a s = V at *
            generalize at2 (visK wa nx gs gs.length) b q = V2 at *
            have hws : IntKind.i64.wrap (V + V2) = V + V2 := IntWalk.i64_in _ (by omega)
            have hix := index_map m HMK.out.1 s hs24
            unfold mv at hix
            have hMu : M < wu.heap.size := (HOSS.out.lt M rfl).2
            have hbk := (Below.refl _ wu).alloc (Nat.le_refl _) (.cells #[.string ⟨#[]⟩, .int .i64 (a : Int), .int .i64 (b : Int)] 198)
            have kcs := heap_alloc_new wu (.cells #[.string ⟨#[]⟩, .int .i64 (a : Int), .int .i64 (b : Int)] 198)
            obtain ⟨_, r1, r2⟩ := rule3_cellsV kcs
            have P2 := (hbk.cell (lt_of_cell p2)).trans p2
            have CA := (hbk.cell (p := ⟨M, a * 24 + s, none⟩) hMu).trans ca
            have CB := (hbk.cell (p := ⟨M, b * 24 + q, none⟩) hMu).trans cb
            have CQ := (hbk.cell (lt_of_cell cq)).trans cq
            have hgM : g3 < M := by rw [HME.out]; exact Nat.lt_of_lt_of_le (lt_of_cell (HMC.out w (Below.refl _ _) a s (by omega) hs24)) HB.out.size
            have hwM : w.heap.size < M := by rw [HME.out]; exact HWB.out.lt
            go_upto_region 11 with fail
            obtain ⟨Kp, hKp⟩ : ∃ Kp, Kp = wu.heap.size := ⟨_, rfl⟩
            rw [← hKp] at r1 r2 ⊢
            have HOK : Hid ((wu.alloc (.cells #[.string ⟨#[]⟩, .int .i64 (a : Int), .int .i64 (b : Int)] 198)).ownsRow M 201 24 (.slice (some ⟨M, 0, none⟩) n n) n (iv (flS (visK wa nx gs k) row s n))) := Lib.hid (own_below HOSS.out hbk (Nat.le_refl _))
            have HBK : Hid (Below M w5 (wu.alloc (.cells #[.string ⟨#[]⟩, .int .i64 (a : Int), .int .i64 (b : Int)] 198))) := Lib.hid (HBSS.out.trans (hbk.mono (by omega)))
            have hKM : M ≠ Kp := by omega
            have hKM2 : Kp ≠ M := by omega
            have hgM2 : g3 ≠ M := by omega
            have hwM2 : w.heap.size ≠ M := by omega
            clear hbk kcs p0 p1 p2 p3 ca cb cq hKp
            generalize wu.alloc (.cells #[.string ⟨#[]⟩, .int .i64 (a : Int), .int .i64 (b : Int)] 198) = wk at *
            have HNX2 : Hid ((wk.setCell ⟨M, k * 24 + s, none⟩ (.int .i64 (V + V2))).ownsRow M 201 24 (.slice (some ⟨M, 0, none⟩) n n) n (iv (flS (visK wa nx gs k) row (s + 1) n))) := Lib.hid (by
              have := flS_store (w := wk) HOK.out HVW.out hr24 hs24 (by rw [HVL.out]; exact hkn)
              rw [HVL.out, hzr] at this
              exact this)
            have HBX : Hid (Below M w5 (wk.setCell ⟨M, k * 24 + s, none⟩ (.int .i64 (V + V2)))) := Lib.hid (HBK.out.setCell (Nat.le_refl _) _)
            have e1 : a * 24 + s ≠ k * 24 + s := by omega
            have e2 : b * 24 + q ≠ k * 24 + s := by omega
            have hfz : wk.frozen? ⟨M, k * 24 + s, none⟩ = false := HOK.out.frozenAt _
            have hfd : wk.drew.frozen? ⟨M, k * 24 + s, none⟩ = false := hfz
            obtain ⟨old, hct⟩ : ∃ old, wk.cell? ⟨M, k * 24 + s, none⟩ = some old := by
              have hl5 := flS_len (row := row) (s := s) (n := n) HVW.out hr24 (by omega) (by rw [HVL.out]; exact hkn)
              have h9 := World.ownsRow.cellAt HOK.out (k * 24 + s) (by omega)
              rw [iv_get _ _ (by rw [hl5]; omega)] at h9
              exact ⟨_, h9⟩
            have hcd : wk.drew.cell? ⟨M, k * 24 + s, none⟩ = some old := hct
            have a0' : (0 : Int) ≤ (a : Int) := by omega
            have a1' : (a : Int) < (n : Int) := by omega
            have a2' : (a : Int) < ((mapsK nx gs gs.length).length : Int) := by rw [mapsK_len]; omega
            have b0' : (0 : Int) ≤ (b : Int) := by omega
            have b1' : (b : Int) < (n : Int) := by omega
            have q0' : (0 : Int) ≤ (q : Int) := by omega
            have q1' : (q : Int) < 24 := by omega
            have s0' : (0 : Int) ≤ (s : Int) := by omega
            have s1' : (s : Int) < 24 := by omega
            have HS := Lib.hid (And.intro r1 (And.intro r2 (And.intro P2 (And.intro CQ (And.intro CA CB)))))
            have HS2 := Lib.hid (show ((wk.setCell ⟨M, k * 24 + s, none⟩ (.int .i64 (V + V2))).cell? ⟨Kp, 1, none⟩ = some (.int .i64 (a : Int)) ∧ (wk.setCell ⟨M, k * 24 + s, none⟩ (.int .i64 (V + V2))).cell? ⟨Kp, 2, none⟩ = some (.int .i64 (b : Int)) ∧ (wk.setCell ⟨M, k * 24 + s, none⟩ (.int .i64 (V + V2))).cell? ⟨w.heap.size, 2, none⟩ = some (.slice (some ⟨g3, 0, none⟩) (mapsK nx gs gs.length).length c3) ∧ (wk.setCell ⟨M, k * 24 + s, none⟩ (.int .i64 (V + V2))).cell? ⟨g3, a * 24 + s, none⟩ = some (.int .i64 (q : Int)) ∧ (wk.setCell ⟨M, k * 24 + s, none⟩ (.int .i64 (V + V2))).cell? ⟨M, a * 24 + s, none⟩ = some (.int .i64 V) ∧ (wk.setCell ⟨M, k * 24 + s, none⟩ (.int .i64 (V + V2))).cell? ⟨M, b * 24 + q, none⟩ = some (.int .i64 V2)) from
              ⟨(World.cell?_of_block (a := ⟨Kp, 1, none⟩) (Below.heap_setCell wk ⟨M, k * 24 + s, none⟩ _ Kp hKM2)).trans r1, (World.cell?_of_block (a := ⟨Kp, 2, none⟩) (Below.heap_setCell wk ⟨M, k * 24 + s, none⟩ _ Kp hKM2)).trans r2, (World.cell?_of_block (a := ⟨w.heap.size, 2, none⟩) (Below.heap_setCell wk ⟨M, k * 24 + s, none⟩ _ w.heap.size hwM2)).trans P2, (World.cell?_of_block (a := ⟨g3, a * 24 + s, none⟩) (Below.heap_setCell wk ⟨M, k * 24 + s, none⟩ _ g3 hgM2)).trans CQ, (set_apartC wk M _ _ _ e1).trans CA, (set_apartC wk M _ _ _ e2).trans CB⟩)
            go_region_held3 (fun w' => w'.cell? ⟨Kp, 1, none⟩ = some (.int .i64 (a : Int)) ∧ w'.cell? ⟨Kp, 2, none⟩ = some (.int .i64 (b : Int)) ∧ w'.cell? ⟨w.heap.size, 2, none⟩ = some (.slice (some ⟨g3, 0, none⟩) (mapsK nx gs gs.length).length c3) ∧ w'.cell? ⟨g3, a * 24 + s, none⟩ = some (.int .i64 (q : Int)) ∧ w'.cell? ⟨M, a * 24 + s, none⟩ = some (.int .i64 V) ∧ w'.cell? ⟨M, b * 24 + q, none⟩ = some (.int .i64 V2))
              (first | (with_reducible exact HS.out) | exact HS.out | exact HS2.out)
              (fail)
            all_goals
              go_wp2_with fail
              go_roundw
            case rel => first | exact ⟨s + 1, by omega, by go_num, HNX2.out, HBX.out⟩ | ((repeat apply Exists.intro); exact ⟨⟨s + 1, by omega, by go_num, HNX2.out, HBX.out⟩, rfl⟩) | exact ⟨s + 1, by omega, by go_num, own_drewN HNX2.out 1, below_drewN HBX.out 1⟩ | ((repeat apply Exists.intro); exact ⟨⟨s + 1, by omega, by go_num, own_drewN HNX2.out 1, below_drewN HBX.out 1⟩, rfl⟩)
            case measure => (first | (simp [intOf]; done) | (simp [intOf]; omega))
          · obtain rfl : s = 24 := by omega
            rw [flS_all HR24.out, ← HNX.out] at hos
            have HN9 : Hid (SfRelC wa nx gs w5 M n (.int .i64 ((k + 1 : Nat) : Int)) wu) := Lib.hid ⟨k + 1, hkn, rfl, hos, hBs⟩
            clear hos hBs
            go_wp2_with fail
            go_roundw
            case rel => first | exact HN9.out | ((repeat apply Exists.intro); exact ⟨HN9.out, rfl⟩)
            case measure => (first | (simp [intOf]; done) | (simp [intOf]; omega))
      · have HK := Lib.hid (fun W => kind_letter gs[k] h0 W)
        have HT := tm_lp
        have HVT := Lib.hid (fun s (hs : s < 24) => vis_letter wa nx hkg h0 hs)
        generalize gs[k] = R at *
        obtain ⟨L, l, r⟩ := R
        unfold agg3 at HK
        simp only at HK a0 a1 a2
        clear h0
        go_wp2_with fail
        refine (HK.out _).mono ?_
        rintro e w7 ⟨rfl, hB7⟩
        have hb7 := ((Below.refl _ wo).alloc (Nat.le_refl _) (.cells #[.string L, .int .i64 l, .int .i64 r] 127)).trans (hB7.mono (by simp))
        have HB7 := Lib.hid hb7
        have q2 := (hb7.cell (lt_of_cell p2)).trans p2
        have HRM7 := Lib.hid (HRM.out w7 (HBW.out.trans (hb7.mono HBW.out.size)))
        clear hB7 hb7 a0 a1 a2 p0 p1 p2 p3
        go_wp2_with (first | (with_reducible refine wpList_load_mid rfl 197 _ rfl g3 (k * 24) rfl (iv m) _ HRM7.out und_map rfl HMZ.out ?_))
        have HOWs : Hid (w7.ownsRow M 201 24 (.slice (some ⟨M, 0, none⟩) n n) n (iv (flS (visK wa nx gs k) row 0 n))) := Lib.hid (by
          rw [flS_zero (by rw [HVL.out]; exact hkn)]
          exact own_below HOW.out HB7.out (Nat.le_refl _))
        have HB57 : Hid (Below M w5 w7) := Lib.hid (HBO.out.trans (HB7.out.mono (by omega)))
        clear q2
        go_loopw [32] (fun i wr => ∃ s : Nat, s ≤ 24 ∧ i = .int .i64 s ∧ wr.ownsRow M 201 24 (.slice (some ⟨M, 0, none⟩) n n) n (iv (flS (visK wa nx gs k) row s n)) ∧ Below M w5 wr) (fun i _ => 24 - (intOf i).toNat)
        case atStart => exact ⟨0, by omega, rfl, HOWs.out, HB57.out⟩
        case round =>
          obtain ⟨s, hs, rfl, hos, hBs⟩ := hrel
          obtain ⟨wu, rfl⟩ : ∃ wu : World, wu = wr := ⟨_, rfl⟩
          by_cases hs24 : s < 24
          · have hBs5 : Below w5.heap.size w5 wu := by rw [← HME.out]; exact hBs
            have hBwu := HB.out.trans (hBs5.mono HB.out.size)
            have hix := index_map m HMK.out.1 s hs24
            unfold mv at hix
            have hzr := HRV.out s hs24
            rw [HVT.out s hs24] at hzr
            have hmv : m[s]?.getD 0 = at2 (mapsK nx gs gs.length) k s := by
              unfold at2
              rw [← HMM.out, List.getD_eq_getElem?_getD]
            rw [← hmv] at hzr
            have hbk := (Below.refl _ wu).alloc (Nat.le_refl _) (.cells #[.string ⟨#[]⟩, .int .i64 0, .int .i64 0] 198)
            have HOK : Hid ((wu.alloc (.cells #[.string ⟨#[]⟩, .int .i64 0, .int .i64 0] 198)).ownsRow M 201 24 (.slice (some ⟨M, 0, none⟩) n n) n (iv (flS (visK wa nx gs k) row s n))) := Lib.hid (own_below hos hbk (Nat.le_refl _))
            have hMu : M < wu.heap.size := (hos.lt M rfl).2
            have HBK : Hid (Below M w5 (wu.alloc (.cells #[.string ⟨#[]⟩, .int .i64 0, .int .i64 0] 198))) := Lib.hid (hBs.trans (hbk.mono (by omega)))
            have HPK : Hid (∀ z : Int, Calls Try.prog 104 #[.int .i64 z, .pointer (some ⟨P, 0, none⟩)] (wu.alloc (.cells #[.string ⟨#[]⟩, .int .i64 0, .int .i64 0] 198)) fun e w' => e = .returned (.bool (wa z)) ∧ w' = (wu.alloc (.cells #[.string ⟨#[]⟩, .int .i64 0, .int .i64 0] 198))) := Lib.hid (fun z => HP.out _ z (hBwu.trans (hbk.mono hBwu.size)))
            clear hos hBs hBs5 hBwu hbk hmv
            go_upto_region 12 with fail
            generalize wu.alloc (.cells #[.string ⟨#[]⟩, .int .i64 0, .int .i64 0] 198) = wk at *
            have HZR := Lib.hid hzr
            clear hzr
            go_wp2_with fail
            have hzr := HZR.out
            generalize m[s]?.getD 0 = z at *
            have HWD := Lib.hid (HPK.out z)
            by_cases hzt : wa z = true
            · rw [if_pos hzt] at hzr
              rw [hzt] at HWD
              have hfz : wk.frozen? ⟨M, k * 24 + s, none⟩ = false := HOK.out.frozenAt _
              obtain ⟨old, hct⟩ : ∃ old, wk.cell? ⟨M, k * 24 + s, none⟩ = some old := by
                have hl5 := flS_len (row := row) (s := s) (n := n) HVW.out hr24 (by omega) (by rw [HVL.out]; exact hkn)
                have h9 := World.ownsRow.cellAt HOK.out (k * 24 + s) (by omega)
                rw [iv_get _ _ (by rw [hl5]; omega)] at h9
                exact ⟨_, h9⟩
              have HNX2 : Hid ((wk.setCell ⟨M, k * 24 + s, none⟩ (.int .i64 1)).ownsRow M 201 24 (.slice (some ⟨M, 0, none⟩) n n) n (iv (flS (visK wa nx gs k) row (s + 1) n))) := Lib.hid (by
                have := flS_store (w := wk) HOK.out HVW.out hr24 hs24 (by rw [HVL.out]; exact hkn)
                rw [HVL.out, hzr] at this
                exact this)
              have HBX : Hid (Below M w5 (wk.setCell ⟨M, k * 24 + s, none⟩ (.int .i64 1))) := Lib.hid (HBK.out.setCell (Nat.le_refl _) _)
              have s0' : (0 : Int) ≤ (s : Int) := by omega
              have s1' : (s : Int) < 24 := by omega
              clear hzt hzr
              refine HWD.out.mono ?_
              rintro e w9 ⟨rfl, hw9⟩
              obtain rfl := hw9.symm
              go_wp2_with fail
              go_roundw
              case rel => first | exact ⟨s + 1, by omega, by go_num, HNX2.out, HBX.out⟩ | ((repeat apply Exists.intro); exact ⟨⟨s + 1, by omega, by go_num, HNX2.out, HBX.out⟩, rfl⟩)
              case measure => (first | (simp [intOf]; done) | (simp [intOf]; omega))
            · rw [if_neg hzt] at hzr
              rw [Bool.eq_false_iff.2 hzt] at HWD
              have HNX2 : Hid (wk.ownsRow M 201 24 (.slice (some ⟨M, 0, none⟩) n n) n (iv (flS (visK wa nx gs k) row (s + 1) n))) := Lib.hid (by
                have := HOK.out
                unfold flS at this ⊢
                rw [rowS_skipC hr24 hs24 hzr]
                exact this)
              clear hzt hzr
              refine HWD.out.mono ?_
              rintro e w9 ⟨rfl, hw9⟩
              obtain rfl := hw9.symm
              go_wp2_with fail
              go_roundw
              case rel => first | exact ⟨s + 1, by omega, by go_num, HNX2.out, HBK.out⟩ | ((repeat apply Exists.intro); exact ⟨⟨s + 1, by omega, by go_num, HNX2.out, HBK.out⟩, rfl⟩)
              case measure => (first | (simp [intOf]; done) | (simp [intOf]; omega))
          · obtain rfl : s = 24 := by omega
            rw [flS_all HR24.out, ← HNX.out] at hos
            have HN9 : Hid (SfRelC wa nx gs w5 M n (.int .i64 ((k + 1 : Nat) : Int)) wu) := Lib.hid ⟨k + 1, hkn, rfl, hos, hBs⟩
            clear hos hBs
            go_wp2_with fail
            go_roundw
            case rel => first | exact HN9.out | ((repeat apply Exists.intro); exact ⟨HN9.out, rfl⟩)
            case measure => (first | (simp [intOf]; done) | (simp [intOf]; omega))
    · obtain rfl : k = n := by omega
      have hSB := HSB.out.kept hB'
      have HE := Lib.hid (b5_cells (b5_allC (a' := .slice Ag k cg) (b' := .slice A2 (lens gs).length c2) (c' := .slice A3 (mapsK nx gs gs.length).length c3) (d' := .int .i64 go) (e' := .slice (some ⟨M, 0, none⟩) k k) hSB))
      obtain ⟨z0, z1, z2, z3, z4⟩ := b5_cells hSB
      have f0 := b5_frozenC (o := 0) hSB
      have f1 := b5_frozenC (o := 1) hSB
      have f2 := b5_frozenC (o := 2) hSB
      have f3 := b5_frozenC (o := 3) hSB
      have f4 := b5_frozenC (o := 4) hSB
      have hMR : M ≠ w.heap.size + 1 := by have := HSB.out.lt; rw [HME.out]; omega
      have hR1 : w.heap.size + 1 < wo.heap.size := hSB.lt
      have HSET : Hid (∀ d0 d1 d2 d3 d4, IsS (((((wo.setCell ⟨w.heap.size + 1, 0, none⟩ d0).setCell ⟨w.heap.size + 1, 1, none⟩ d1).setCell ⟨w.heap.size + 1, 2, none⟩ d2).setCell ⟨w.heap.size + 1, 3, none⟩ d3).setCell ⟨w.heap.size + 1, 4, none⟩ d4) 0 (.agg #[.slice Ag k cg, .slice A2 (lens gs).length c2, .slice A3 (mapsK nx gs gs.length).length c3, .int .i64 go, .slice (some ⟨M, 0, none⟩) k k]) (.slice Ag gs.length cg) gs nx (visK wa nx gs gs.length) go ∧ Below w.heap.size w (((((wo.setCell ⟨w.heap.size + 1, 0, none⟩ d0).setCell ⟨w.heap.size + 1, 1, none⟩ d1).setCell ⟨w.heap.size + 1, 2, none⟩ d2).setCell ⟨w.heap.size + 1, 3, none⟩ d3).setCell ⟨w.heap.size + 1, 4, none⟩ d4)) := Lib.hid (fun d0 d1 d2 d3 d4 => by
        have hbF : Below w.heap.size w (((((wo.setCell ⟨w.heap.size + 1, 0, none⟩ d0).setCell ⟨w.heap.size + 1, 1, none⟩ d1).setCell ⟨w.heap.size + 1, 2, none⟩ d2).setCell ⟨w.heap.size + 1, 3, none⟩ d3).setCell ⟨w.heap.size + 1, 4, none⟩ d4) := ((((hBw.setCell (by simp) _).setCell (by simp) _).setCell (by simp) _).setCell (by simp) _).setCell (by simp) _
        have gk : wo.grownBy (((((wo.setCell ⟨w.heap.size + 1, 0, none⟩ d0).setCell ⟨w.heap.size + 1, 1, none⟩ d1).setCell ⟨w.heap.size + 1, 2, none⟩ d2).setCell ⟨w.heap.size + 1, 3, none⟩ d3).setCell ⟨w.heap.size + 1, 4, none⟩ d4) (some (w.heap.size + 1)) := by
          refine ⟨rfl, rfl, rfl, by simp, fun i hi hne => ?_⟩
          have hne' : i ≠ w.heap.size + 1 := fun e => hne (by rw [e])
          rw [Below.heap_setCell _ _ _ _ hne', Below.heap_setCell _ _ _ _ hne', Below.heap_setCell _ _ _ _ hne', Below.heap_setCell _ _ _ _ hne', Below.heap_setCell _ _ _ _ hne']
        have hms := isMs_of_own (World.ownsRow.kept hown gk (.inr (by simp [Value.ownBlock]; exact hMR))) (visK_wide wa nx gs k) (visK_len wa nx gs k)
        have hAk : Value.slice Ag k cg = Value.slice Ag gs.length cg := by rw [HN.out]
        refine ⟨⟨_, _, _, by rw [hAk], own_lower (own_below H2.out hbF (Nat.le_refl _)) (Nat.zero_le _), (H3.out.kept hbF).lower (Nat.zero_le _), ?_⟩, hbF⟩
        rw [← HN.out]
        exact hms.lower (Nat.zero_le _))
      clear hown hB hB' hBw hSB
      go_wp2_with fail
      obtain ⟨y0, y1, y2, y3, y4⟩ := HE.out
      refine bodyPost_ret (v := .agg #[.slice Ag k cg, .slice A2 (lens gs).length c2, .slice A3 (mapsK nx gs gs.length).length c3, .int .i64 go, .slice (some ⟨M, 0, none⟩) k k]) (by simp [results, Try.results88, go_sem, y0, y1, y2, y3, y4]) rfl ⟨_, rfl, (HSET.out _ _ _ _ _).1, (HSET.out _ _ _ _ _).2⟩
end Go.Proofs.Ytaffachjopjbgaa
namespace Go.Proofs.Ytaffachjopjbgaa
open Go.RowKit
open Wd
set_option linter.unusedVariables false
theorem wantedC_any (q t : Int) (P : Nat) (w : World) (h0 : 0 ≤ t ∧ t < 24) (h : w.cell? ⟨P, 0, none⟩ = some (.int .i64 t)) :
    Calls Try.prog 104 #[.int .i64 q, .pointer (some ⟨P, 0, none⟩)] w fun e w' => e = .returned (.bool (decide (q = t))) ∧ w' = w := by
  have hw : IntKind.i64.wrap t = t := by rw [IntKind.wrap_i64]; omega
  by_cases hq : q = t
  · have h1 : (q == t) = true := by simp [hq]
    rw [decide_eq_true hq]
    subst hq
    go_enter Try.func104, Try.ntmps104
    go_wp2_with fail
    go_ret
    exact ⟨by first | rfl | simp, rfl⟩
  · have h1 : (q == t) = false := by simp [hq]
    rw [decide_eq_false hq]
    go_enter Try.func104, Try.ntmps104
    go_wp2_with fail
    go_ret
    exact ⟨by first | rfl | simp [hq], rfl⟩
theorem IsS.shapeV {w : World} {lo : Nat} {sv gv : Value} {gs : List Rl} {nx vs : List (List Int)} {go : Int} (h : IsS w lo sv gv gs nx vs go) : ∃ A2 c2 A3 c3 A4 c4, sv = .agg #[gv, .slice A2 (lens gs).length c2, .slice A3 (mapsK nx gs gs.length).length c3, .int .i64 go, .slice A4 vs.length c4] := by
  obtain ⟨lv, mv, vv, rfl, h2, h3, h4⟩ := h
  obtain ⟨A2, c2, rfl⟩ := own_slice h2
  obtain ⟨A3, c3, rfl, h3'⟩ := h3
  obtain ⟨A4, c4, rfl, h4'⟩ := h4
  exact ⟨A2, c2, A3, c3, A4, c4, rfl⟩
namespace Wd
/-- the counts so far -/
def vcT (nx : List (List Int)) (gs : List Rl) (go : Int) (k j : Nat) : Int := if j < k then allV (visK (fun p => decide (p = (j : Int))) nx gs gs.length) gs go else 0
end Wd
theorem vcT_step (nx : List (List Int)) (gs : List Rl) (go : Int) {k N : Nat} (h : k < N) : (rowF (vcT nx gs go k) N).set k (allV (visK (fun p => decide (p = (k : Int))) nx gs gs.length) gs go) = rowF (vcT nx gs go (k + 1)) N := by
  have h0 : vcT nx gs go k k = 0 := by unfold vcT; rw [if_neg (by omega)]
  have := rowF_set (f := vcT nx gs go k) (d := allV (visK (fun p => decide (p = (k : Int))) nx gs gs.length) gs go) h
  rw [h0, Int.zero_add] at this
  rw [this]
  refine rowF_congr (fun i hi => ?_)
  by_cases e : i = k
  · subst e
    rw [upd1_same, h0, Int.zero_add]
    unfold vcT
    rw [if_pos (by omega)]
  · rw [upd1_ne _ _ e]
    unfold vcT
    by_cases h1 : i < k
    · rw [if_pos h1, if_pos (by omega)]
    · rw [if_neg h1, if_neg (by omega)]
set_option maxRecDepth 100000 in
set_option maxHeartbeats 12800000 in
theorem implVisitCounts (av : Value) (x : Au) (gv : Value) (gs : List Rl) (w : World) (hf : FewA x) (hx : IsAu w av x) (hfr : FewR gs) (hr : Rules w gv gs) :
    Calls Try.prog 34 #[av, .agg #[gv]] w fun e w' => ∃ y, e = .returned (.tuple #[y, .int .i64 (vcA x gs).2]) ∧ OwnsI w' w.heap.size y (vcA x gs).1 ∧ Below w.heap.size w w' := by
  have HIS := Lib.hid (fun W (hb : Below w.heap.size w W) => hx.kept hb)
  have HRU := Lib.hid (fun W (hb : Below w.heap.size w W) => hr.kept hb)
  obtain ⟨st, go, fin, nx⟩ := x
  obtain ⟨f, n, rfl, hF, hN⟩ := hx
  simp only at hF hN
  have hb : Below w.heap.size w ((w.alloc (.cells #[.int .i64 st, .int .i64 go, f, n] 33)).alloc (.cells #[gv] 37)) := ((Below.refl _ w).alloc (Nat.le_refl _) _).alloc (by simp) _
  have hP : B4 ((w.alloc (.cells #[.int .i64 st, .int .i64 go, f, n] 33)).alloc (.cells #[gv] 37)) w.heap.size (.int .i64 st) (.int .i64 go) f n 33 := (B4.new w _ _ _ _ _).alloc _
  have hg : ((w.alloc (.cells #[.int .i64 st, .int .i64 go, f, n] 33)).alloc (.cells #[gv] 37)).cell? ⟨w.heap.size + 1, 0, none⟩ = some gv := by
    have := cell_new (w.alloc (.cells #[.int .i64 st, .int .i64 go, f, n] 33)) gv 37
    rwa [show (w.alloc (.cells #[.int .i64 st, .int .i64 go, f, n] 33)).heap.size = w.heap.size + 1 from by simp] at this
  have HWO := Lib.hid (walkOfAuto_any _ ⟨st, go, fin, nx⟩ gv gs _ hf (HIS.out _ hb) hfr (HRU.out _ hb))
  have HB := Lib.hid hb
  have HP := Lib.hid hP
  obtain ⟨Af, cf, rfl⟩ := hF.shape
  obtain ⟨An, cn, rfl, hNx⟩ := hN
  obtain ⟨Ag, cg, rfl, hRx⟩ := hr
  obtain ⟨⟨p0, p1, p2, p3⟩, _⟩ := blk4_cells hP
  obtain ⟨j0, hj, hy0, hy1, hy2⟩ := info_parts Try.info_int64
  clear hb hP hF hNx hRx
  unfold vcA
  cases hall : (aOk ⟨st, go, fin, nx⟩ && gOk gs)
  · rw [hall] at HWO
    rw [if_neg (by intro h; rw [h.1, h.2] at hall; cases hall)]
    clear hall
    go_enter Try.func34, Try.ntmps34
    go_wp2_with fail
    refine HWO.out.mono ?_
    rintro e w3 ⟨wv, rfl, _, hz, hB3⟩
    have hz := hz trivial
    subst hz
    have HB3 := Lib.hid (HB.out.trans (hB3.mono HB.out.size))
    unfold zeroW
    clear hB3
    go_wp2_with fail
    go_ret2
    exact ⟨_, rfl, World.ownsRow_nil _ _ _ _, HB3.out.alloc HB3.out.size _⟩
  · rw [hall] at HWO
    rw [Bool.and_eq_true] at hall
    rw [if_pos hall]
    obtain ⟨⟨h1, h24⟩, hrow, hlen⟩ := aOk_parts hall.1
    have hgo := aOk_goV hall.1
    simp only at h1 h24 hgo
    simp only at hrow hlen
    simp only at HWO
    have hgt : ((go.toNat : Nat) : Int) = go := by omega
    have HV : Hid (vcL nx gs nx.length go.toNat = rowF (vcT nx gs go nx.length) nx.length) := Lib.hid (by
      unfold vcL
      exact rowF_congr (fun k hk => by unfold vcT; rw [if_pos hk, hgt]))
    have HSF := Lib.hid (fun W wv Pf (t : Int) (ht : 0 ≤ t ∧ t < 24) (hb : Below w.heap.size w W) (hW : ∃ lo, IsW W lo wv (.slice Ag gs.length cg) gs nx go) (hP : W.cell? ⟨Pf, 0, none⟩ = some (.int .i64 t)) => (by obtain ⟨lo, hW⟩ := hW; exact searchFor_anyC wv (.slice Ag gs.length cg) gs nx st go lo Pf (fun p => decide (p = t)) W h1 h24 hrow hlen hall.2 (HRU.out W hb) hW (fun W' z hb' => wantedC_any z t Pf W' ht ((hb'.cell (lt_of_cell hP)).trans hP)) : Calls Try.prog 88 #[wv, .func (.func 104) #[] #[.pointer (some ⟨Pf, 0, none⟩)]] W fun e w' => ∃ sv, e = .returned sv ∧ IsS w' 0 sv (.slice Ag gs.length cg) gs nx (visK (fun p => decide (p = t)) nx gs gs.length) go ∧ Below W.heap.size W w'))
    have HAL := Lib.hid (fun W sv (t : Int) (hb : Below w.heap.size w W) hW => all_any sv (.slice Ag gs.length cg) gs nx (visK (fun p => decide (p = t)) nx gs gs.length) go 0 W hall.2 (HRU.out W hb) (visK_len _ _ _ _) hW (by omega))
    clear hall hrow hgo hgt
    go_enter Try.func34, Try.ntmps34
    go_wp2_with fail
    refine HWO.out.mono ?_
    rintro e w3 ⟨wv, rfl, hyes, _, hB3⟩
    have hw3 := hyes trivial
    have HB3 := Lib.hid (HB.out.trans (hB3.mono HB.out.size))
    have HP3 := Lib.hid (HP.out.kept hB3)
    have HW3 := Lib.hid hw3
    obtain ⟨A2, c2, A3, c3, rfl⟩ := hw3.shape
    clear hyes hw3 hB3 p0 p1 p2 p3 hg
    have hb4 := (Below.refl _ w3).alloc (Nat.le_refl _) (.cells #[.slice Ag gs.length cg, .slice A2 (lens gs).length c2, .slice A3 gs.length c3, .int .i64 go] 110)
    have HW4 := Lib.hid (HW3.out.kept hb4)
    have HB4 := Lib.hid (HB3.out.trans (hb4.mono HB3.out.size))
    have HP4 := Lib.hid (HP3.out.kept hb4)
    have HQ4 : Hid (B4 (w3.alloc (.cells #[.slice Ag gs.length cg, .slice A2 (lens gs).length c2, .slice A3 gs.length c3, .int .i64 go] 110)) w3.heap.size _ _ _ _ _) := Lib.hid (B4.new w3 _ _ _ _ _)
    clear hb4
    go_upto_region 4 with fail
    obtain ⟨Qb, hQb⟩ : ∃ Qb, Qb = w3.heap.size := ⟨_, rfl⟩
    rw [← hQb] at HQ4 ⊢
    generalize w3.alloc (.cells #[.slice Ag gs.length cg, .slice A2 (lens gs).length c2, .slice A3 gs.length c3, .int .i64 go] 110) = w4 at *
    clear hQb
    obtain ⟨⟨p0, p1, p2, p3⟩, _⟩ := blk4_cells HP4.out
    obtain ⟨N, hNE⟩ : ∃ N : Nat, N = nx.length := ⟨_, rfl⟩
    have hst : st = (N : Int) := by omega
    rw [← hNE] at HV
    have HNE := Lib.hid hNE
    clear hNE
    subst hst
    go_wp2_with (refine wpList_make_full _ rfl _ _ 22 rfl w4.heap.size 2 j0 (.int .i64 0) 1 Try.underlying22 hj hy0 hy1 .i64 .i64 _ _ N rfl rfl rfl rfl (by rw [hy2]; omega) (by unfold maxLen; omega) (Nat.le_refl _) ?_)
    intro w5 hown hgr
    have hown : w5.ownsRow w4.heap.size 2 1 (.slice (some ⟨w4.heap.size, 0, none⟩) N N) N (iv (rowF (vcT nx gs go 0) N)) := by
      rw [rowF_congr (g := fun _ => 0) (fun k hk => by unfold vcT; rw [if_neg (by omega)]), rowF_zero, ← made_i64, ← Nat.mul_one N]
      simpa using hown
    have HB5 := Lib.hid (HB4.out.trans ((below_of_grown hgr).mono HB4.out.size))
    have HW5 := Lib.hid (fun W (hb : Below w4.heap.size w4 W) => HW4.out.kept hb)
    have HQ5 := Lib.hid (fun W (hb : Below w4.heap.size w4 W) => HQ4.out.kept hb)
    obtain ⟨C, hC⟩ : ∃ C, C = w4.heap.size := ⟨_, rfl⟩
    have HCE := Lib.hid hC
    have HLC : Hid (w.heap.size ≤ C) := Lib.hid (by rw [hC]; exact HB4.out.size)
    have HST : Hid (w5.ownsRow C 2 1 (.slice (some ⟨C, 0, none⟩) N N) N (iv (rowF (vcT nx gs go 0) N)) ∧ Below C w4 w5) := Lib.hid (by rw [hC]; exact ⟨hown, below_of_grown hgr⟩)
    rw [← hC]
    clear hown hgr hC p0 p1 p2 p3
    go_wp2_with fail
    go_loopw [23] (fun i wr => ∃ k : Nat, k ≤ N ∧ i = .int .i64 k ∧ wr.ownsRow C 2 1 (.slice (some ⟨C, 0, none⟩) N N) N (iv (rowF (vcT nx gs go k) N)) ∧ Below C w4 wr) (fun i _ => N - (intOf i).toNat)
    case atStart => exact ⟨0, Nat.zero_le _, rfl, HST.out.1, HST.out.2⟩
    case round =>
      obtain ⟨k, hk, rfl, hown, hB⟩ := hrel
      obtain ⟨wo, rfl⟩ : ∃ wo : World, wo = wr := ⟨_, rfl⟩
      have HOW := Lib.hid hown
      have HBO := Lib.hid hB
      clear hown hB
      by_cases hkN : k < N
      · have hb6 := (Below.refl _ wo).alloc (Nat.le_refl _) (.cells #[.int .i64 (k : Int)] 3)
        have hB4 : Below w4.heap.size w4 wo := by rw [← HCE.out]; exact HBO.out
        have HW6 := Lib.hid ((HW5.out wo hB4).kept hb6)
        have HQ6 := Lib.hid ((HQ5.out wo hB4).kept hb6)
        have HO6 := Lib.hid (own_below HOW.out hb6 (Nat.le_refl _))
        have HB6 := Lib.hid (HBO.out.trans (hb6.mono (Nat.le_of_lt (HOW.out.lt _ rfl).2)))
        have HV6 := Lib.hid (Var.new wo (.int .i64 (k : Int)) 3)
        have HCL : Hid (C < wo.heap.size) := Lib.hid (HOW.out.lt _ rfl).2
        have k0 : (0 : Int) ≤ (k : Int) := by omega
        have k1 : (k : Int) < (N : Int) := by omega
        have HBw := Lib.hid (HB4.out.trans ((show Below w4.heap.size w4 _ by have := HB6.out; rw [HCE.out] at this; exact this).mono HB4.out.size))
        have HQC : Hid (Qb < C) := Lib.hid (by rw [HCE.out]; exact HQ4.out.lt)
        clear hb6 hB4
        go_upto_region 8 with fail
        obtain ⟨Xb, hXb⟩ : ∃ Xb, Xb = wo.heap.size := ⟨_, rfl⟩
        rw [← hXb] at HV6 HCL ⊢
        generalize wo.alloc (.cells #[.int .i64 (k : Int)] 3) = w6 at *
        clear hXb HOW
        obtain ⟨⟨q0, q1, q2, q3⟩, _⟩ := blk4_cells HQ6.out
        have x0 := HV6.out.cell.1
        have HC6 := Lib.hid (And.intro (And.intro q0 (And.intro q1 (And.intro q2 q3))) x0)
        have kN : k < N := hkN
        obtain ⟨V, hV⟩ : ∃ V, V = allV (visK (fun p => decide (p = (k : Int))) nx gs gs.length) gs go := ⟨_, rfl⟩
        have HVE := Lib.hid hV
        have hk24 : (0 : Int) ≤ (k : Int) ∧ (k : Int) < 24 := by omega
        clear hV
        go_region_held3 (fun w' => (w'.cell? ⟨Qb, 0, none⟩ = some (.slice Ag gs.length cg) ∧ w'.cell? ⟨Qb, 1, none⟩ = some (.slice A2 (lens gs).length c2) ∧ w'.cell? ⟨Qb, 2, none⟩ = some (.slice A3 gs.length c3) ∧ w'.cell? ⟨Qb, 3, none⟩ = some (.int .i64 go)) ∧ w'.cell? ⟨Xb, 0, none⟩ = some (.int .i64 (k : Int)))
          (first | (with_reducible exact HC6.out) | (with_reducible exact HC7.out) | (with_reducible exact HC8.out) | exact HCS.out _ | go_keep)
          (first
            | (go_at_call 88
               refine (HSF.out _ _ _ (k : Int) hk24 ?_ ?_ ?_).mono ?_
               (first | exact HBw.out | exact below_drewN HBw.out 1 | exact below_drewN HBw.out _)
               (first | exact ⟨_, HW6.out⟩ | exact ⟨_, HW6.out.kept (below_drewN (Below.refl _ w6) 1)⟩)
               (first | exact x0 | exact HV6.out.cell.1)
               rintro e w7 ⟨sv, rfl, hS, hB7⟩
               try have hB7 := below_undrew hB7
               have HB7 := Lib.hid hB7
               have HBw7 := Lib.hid (HBw.out.trans (hB7.mono HBw.out.size))
               have HS7 := Lib.hid hS
               obtain ⟨D2, d2, D3, d3, D4, d4, hsv⟩ := hS.shapeV
               subst hsv
               have HQ7 := Lib.hid (HQ6.out.kept hB7)
               have HV7 := Lib.hid (HV6.out.kept hB7)
               have HC7 := Lib.hid (And.intro (blk4_cells HQ7.out).1 HV7.out.cell.1)
               clear hB7 hS)
            | (go_at_call 90
               refine (HAL.out _ _ (k : Int) ?_ ?_).mono ?_
               (first | exact HBw7.out | exact below_drewN HBw7.out 1 | exact below_drewN HBw7.out _)
               (first | exact HS7.out | exact HS7.out.kept (below_drewN (Below.refl _ w7) 1))
               rintro e w8 ⟨rfl, hB8⟩
               try have hB8 := below_undrew hB8
               rw [← HVE.out]
               have HB8 := Lib.hid (HB7.out.trans (hB8.mono HB7.out.size))
               have HQ8 := Lib.hid (HQ7.out.kept hB8)
               have HV8 := Lib.hid (HV7.out.kept hB8)
               have HC8 := Lib.hid (And.intro (blk4_cells HQ8.out).1 HV8.out.cell.1)
               have HO8 := Lib.hid (own_below HO6.out HB8.out (Nat.le_refl _))
               have f8 : w8.frozen? ⟨C, k, none⟩ = false := HO8.out.frozenAt _
               have c8 : ∃ v, w8.cell? ⟨C, k, none⟩ = some v := ⟨_, (HO8.out.cellAt k (by omega)).trans (List.getElem?_eq_getElem (by rw [iv_len, rowF_len]; exact kN))⟩
               obtain ⟨z8, c8⟩ := c8
               have HCS : Hid (∀ d, (((w8.setCell ⟨C, k, none⟩ d).cell? ⟨Qb, 0, none⟩ = some (.slice Ag gs.length cg) ∧ (w8.setCell ⟨C, k, none⟩ d).cell? ⟨Qb, 1, none⟩ = some (.slice A2 (lens gs).length c2) ∧ (w8.setCell ⟨C, k, none⟩ d).cell? ⟨Qb, 2, none⟩ = some (.slice A3 gs.length c3) ∧ (w8.setCell ⟨C, k, none⟩ d).cell? ⟨Qb, 3, none⟩ = some (.int .i64 go)) ∧ (w8.setCell ⟨C, k, none⟩ d).cell? ⟨Xb, 0, none⟩ = some (.int .i64 (k : Int)))) := Lib.hid (fun d => by
                 have h1 : Qb ≠ C := Nat.ne_of_lt HQC.out
                 have h2 : Xb ≠ C := Nat.ne_of_gt HCL.out
                 have hc := HC8.out
                 have hh := fun (a : Nat) (o : Nat) (hne : a ≠ C) => World.cell?_of_block (a := ⟨a, o, none⟩) (Below.heap_setCell w8 ⟨C, k, none⟩ d a hne)
                 rw [hh Qb 0 h1, hh Qb 1 h1, hh Qb 2 h1, hh Qb 3 h1, hh Xb 0 h2]
                 exact hc)
               clear hB8))
        all_goals
          clear q0 q1 q2 q3 x0 hk24
          go_wp2_with fail
          go_roundw
          case rel =>
            refine ⟨k + 1, by omega, by go_num, ?_, ?_⟩
            · rw [← vcT_step nx gs go kN, ← HVE.out]
              exact row_store HO8.out k (by rw [rowF_len]; exact kN) V
            · exact (HB6.out.trans (HB8.out.mono (Nat.le_of_lt (HO6.out.lt _ rfl).2))).setCell (Nat.le_refl _) _
          case measure => simp [intOf]; omega
      · have HKE : Hid (k = N) := Lib.hid (by omega)
        have k1 : ¬ ((k : Int) < (N : Int)) := by omega
        clear hkN hk
        go_wp2_with fail
        go_ret2
        refine ⟨_, rfl, ?_, ?_⟩
        · have hh : vcL nx gs nx.length go.toNat = rowF (vcT nx gs go N) N := by rw [← HNE.out]; exact HV.out
          rw [hh]
          have ho : OwnsI wo C (.slice (some ⟨C, 0, none⟩) N N) (rowF (vcT nx gs go N) N) := by
            unfold OwnsI
            rw [rowF_len]
            have := HOW.out
            rw [HKE.out] at this
            exact this
          exact ho.lower HLC.out
        · exact HB4.out.trans (by have := HBO.out; rw [HCE.out] at this; exact this.mono HB4.out.size)
end Go.Proofs.Ytaffachjopjbgaa
namespace Go.Proofs.Ytaffachjopjbgaa
open Go.RowKit
open Wd
set_option linter.unusedVariables false
set_option maxRecDepth 100000 in
set_option maxHeartbeats 1600000 in
theorem szLLs_any (v : Value) (xss : List (List Int)) (left : Int) (w : World) (hn : xss.length ≤ maxLen) (hr : ∀ r ∈ xss, r.length ≤ maxLen) (h : IsLL w v xss) (h0 : 0 ≤ left) (h1 : left ≤ 1048576) :
    Calls Try.prog 76 #[v, .int .i64 left] w fun e w' => ∃ y, e = .returned (.int .i64 y) ∧ w = w' ∧ Paid left y ((xss.length : Int) + (pre xss xss.length : Nat) + y ≤ left ∧ xss.length ≤ 1048576 ∧ ∀ r ∈ xss, r.length ≤ 1048576) := by
  unfold maxLen at hn
  obtain ⟨A, c, rfl, hin⟩ := h
  by_cases hbig : left - (xss.length : Int) < 0
  · clear hin
    go_enter Try.func76, Try.ntmps76
    go_wp2_with fail
    go_ret
    exact ⟨_, rfl, rfl, .inl rfl⟩
  · have HI := Lib.hid hin
    have HR := Lib.hid hr
    clear hin hr
    go_enter Try.func76, Try.ntmps76
    go_wp2_with fail
    go_loopw [1, 5] (fun p i wr => ∃ k : Nat, k ≤ xss.length ∧ i = .int .i64 k ∧ (∃ q : Int, p = .int .i64 q ∧ 0 ≤ q ∧ (xss.length : Int) + (pre xss k : Nat) + q ≤ left) ∧ (∀ j (hj : j < xss.length), j < k → xss[j].length ≤ 1048576) ∧ w = wr) (fun _ i _ => xss.length - (intOf i).toNat)
    case atStart => exact ⟨0, Nat.zero_le _, rfl, ⟨_, rfl, by omega, by rw [pre_zero]; omega⟩, fun j hj h => by omega, rfl⟩
    case round =>
      obtain ⟨k, hk, rfl, ⟨q, rfl, hq0, hq1⟩, hle, rfl⟩ := hrel
      by_cases hlt : k < xss.length
      · rcases HI.out with hn' | ⟨a, rfl, hc⟩
        · rw [hn'] at hlt; simp at hlt
        obtain ⟨u, c0, hu⟩ := hc k hlt
        obtain ⟨A2, c2, rfl⟩ := hu.shape
        have hm := HR.out xss[k] (List.getElem_mem hlt)
        have HZ := Lib.hid (fun W => szI_any A2 xss[k].length c2 q W hm hq0 (by omega))
        have HLE := Lib.hid (fun (hh : xss[k].length ≤ 1048576) => (fun j (hj : j < xss.length) (h : j < k + 1) => by
          by_cases e : j = k
          · subst e; exact hh
          · exact hle j hj (by omega) : ∀ j (hj : j < xss.length), j < k + 1 → xss[j].length ≤ 1048576))
        have hps := pre_succ xss k hlt
        generalize xss[k].length = m at *
        generalize pre xss k = pk at *
        have HPS := Lib.hid hps
        clear hps
        clear hu hc hle
        by_cases hneg : q - (m : Int) < 0
        · rw [if_pos hneg] at HZ
          go_wp2_with fail
          refine (HZ.out _).mono ?_
          rintro e w2 ⟨rfl, rfl⟩
          go_wp2_with fail
          go_ret
          exact ⟨_, rfl, rfl, .inl rfl⟩
        · rw [if_neg hneg] at HZ
          go_wp2_with fail
          refine (HZ.out _).mono ?_
          rintro e w2 ⟨rfl, rfl⟩
          go_wp2_with fail
          go_roundw
          case rel => exact ⟨k + 1, by omega, by go_num, ⟨_, rfl, by omega, by rw [HPS.out]; omega⟩, HLE.out (by omega), by trivial⟩
          case measure => simp [intOf]; omega
      · obtain rfl : k = xss.length := by omega
        go_wp2_with fail
        go_ret
        exact ⟨_, rfl, rfl, .inr ⟨hq0, by omega, hq1, by omega, fun r hr => by obtain ⟨j, hj, e⟩ := List.getElem_of_mem hr; rw [← e]; exact hle j hj hj⟩⟩

set_option maxRecDepth 100000 in
set_option maxHeartbeats 1600000 in
theorem szAutoS_any (v : Value) (x : Au) (left : Int) (w : World) (hm : MaxA x) (h : IsAu w v x) (h0 : 0 ≤ left) (h1 : left ≤ 1048576) :
    Calls Try.prog 17 #[v, .int .i64 left] w fun e w' => ∃ y, e = .returned (.int .i64 y) ∧ Below w.heap.size w w' ∧ Paid left y (auN x + y ≤ left ∧ FewA x) := by
  obtain ⟨f, n, rfl, hf, hn⟩ := h
  obtain ⟨A, c, rfl⟩ := hf.shape
  have hfm := hm.fin
  have HZ := Lib.hid (fun W => szI_any A x.fin.length c left W hfm h0 h1)
  have HN := Lib.hid (hn.kept ((Below.refl _ w).alloc (Nat.le_refl _) (.cells #[.int .i64 x.st, .int .i64 x.go, .slice A x.fin.length c, n] 25)))
  have HM := Lib.hid hm
  have hB := (Below.refl _ w).alloc (Nat.le_refl _) (.cells #[.int .i64 x.st, .int .i64 x.go, .slice A x.fin.length c, n] 25)
  have HB := Lib.hid hB
  clear hf hn hm hB
  by_cases hneg : left - (x.fin.length : Int) < 0
  · rw [if_pos hneg] at HZ
    go_enter Try.func17, Try.ntmps17
    go_wp2_with fail
    refine (HZ.out _).mono ?_
    rintro e w2 ⟨rfl, rfl⟩
    go_wp2_with fail
    go_ret
    exact ⟨_, rfl, HB.out, .inl rfl⟩
  · rw [if_neg hneg] at HZ
    go_enter Try.func17, Try.ntmps17
    go_wp2_with fail
    refine (HZ.out _).mono ?_
    rintro e w2 ⟨rfl, rfl⟩
    go_wp2_with fail
    refine (szLLs_any n x.nx _ _ HM.out.nx HM.out.row HN.out (by omega) (by omega)).mono ?_
    rintro e w2 ⟨y, rfl, rfl, hp⟩
    rcases hp with rfl | ⟨hy0, hy1, hsum, hl, hr⟩
    · go_wp2_with fail
      go_ret
      exact ⟨_, rfl, HB.out, .inl rfl⟩
    · go_wp2_with fail
      go_ret
      exact ⟨_, rfl, HB.out, .inr ⟨hy0, by omega, by unfold auN; omega, by omega, hl, hr⟩⟩
end Go.Proofs.Ytaffachjopjbgaa
namespace Go.Proofs.Ytaffachjopjbgaa
open Go.RowKit
open Wd
set_option linter.unusedVariables false

namespace Wd
/-- the digits of a number, in front of a text -/
def dig : Nat → Nat → ByteArray → ByteArray
  | 0, _, out => out
  | f + 1, k, out => if k = 0 then out else dig f (k / 10) (⟨#[UInt8.ofNat (48 + k % 10)]⟩ ++ out)
theorem dig_done (f : Nat) (out : ByteArray) : dig f 0 out = out := by cases f <;> simp [dig]
theorem dig_step {f k : Nat} (out : ByteArray) (h : 0 < k) (hf : k ≤ f + 1) : dig (f + 1) k out = dig f (k / 10) (⟨#[UInt8.ofNat (48 + k % 10)]⟩ ++ out) := by
  rw [dig, if_neg (by omega)]
/-- the text of a mark -/
def mkT (k : Nat) : ByteArray := if k = 0 then ⟨#[109, 48]⟩ else ⟨#[109]⟩ ++ dig k k ⟨#[]⟩
end Wd

set_option maxRecDepth 100000 in
set_option maxHeartbeats 800000 in
theorem markText_pos (n : Nat) (h0 : 0 < n) (h1 : n ≤ 4000000) (w : World) :
    Calls Try.prog 136 #[.int .i64 n] w fun e w' => e = .returned (.string (mkT n)) ∧ Below w.heap.size w w' := by
  have hmk : mkT n = ⟨#[109]⟩ ++ dig n n ⟨#[]⟩ := by rw [mkT, if_neg (by omega)]
  have HM := Lib.hid hmk
  have hp : (0 : Int) < (n : Int) := by omega
  clear hmk
  go_enter Try.func136, Try.ntmps136
  go_wp2
  go_loopw [3, 0] (fun x i wr => ∃ (k f : Nat) (out : ByteArray), i = .int .i64 k ∧ x = .string out ∧ k ≤ f ∧ k ≤ n ∧ out.size + k ≤ n ∧ dig f k out = dig n n ⟨#[]⟩ ∧ Below w.heap.size w wr)
    (fun _ i _ => (intOf i).toNat)
  case atStart => exact ⟨n, n, ⟨#[]⟩, rfl, rfl, Nat.le_refl _, Nat.le_refl _, by simp [ByteArray.size], rfl, Below.refl _ _⟩
  case round =>
    obtain ⟨k, f, out, rfl, rfl, hf, hkn, hsz, hd, hB⟩ := hrel
    by_cases hk : 0 < k
    · obtain ⟨f', rfl⟩ : ∃ f', f = f' + 1 := ⟨f - 1, by omega⟩
      rw [dig_step out hk hf] at hd
      have hlt : k / 10 < k := Nat.div_lt_self hk (by omega)
      have hmod : k % 10 < 10 := Nat.mod_lt _ (by omega)
      have hu : (UInt8.ofNat (48 + k % 10)).toNat = 48 + k % 10 := by simp; omega
      generalize hcc : UInt8.ofNat (48 + k % 10) = c at hd hu
      have hs2 := hB.size
      have hconv : (convert 158 9 (.slice (some ⟨wr.heap.size, 0, none⟩) 1 1)).run Try.prog (wr.alloc (.cells #[.int .u8 (48 + (k : Int) % 10)] 5)) = .ok (.string ⟨#[c]⟩) (wr.alloc (.cells #[.int .u8 (48 + (k : Int) % 10)] 5)) := run_convert_bytes_back (P := Try.prog) (wr.alloc (.cells #[.int .u8 (48 + (k : Int) % 10)] 5)) 158 9 5 ⟨wr.heap.size, 0, none⟩ 1 [c] Try.underlying158 Try.underlying5 Try.underlying9 (fun j hj => by
        match j, hj with
        | 0, _ => simp [Addr.add, hu])
      have hadd := run_string_add_sum (P := Try.prog) (wr.alloc (.cells #[.int .u8 (48 + (k : Int) % 10)] 5)) ⟨#[c]⟩ out (by have : (⟨#[c]⟩ : ByteArray).size = 1 := rfl; omega)
      have hso : (⟨#[c]⟩ ++ out : ByteArray).size = 1 + out.size := by rw [ByteArray.size_append]; rfl
      have HD := Lib.hid hd
      clear hd hcc hu
      have kp : (0 : Int) < (k : Int) := by omega
      go_wp2
      go_roundw
      case rel => exact ⟨k / 10, f', _, by go_num, rfl, by omega, by omega, by rw [hso]; omega, HD.out, hB.alloc hs2 _⟩
      case measure => simp [intOf]; omega
    · have hk0 : k = 0 := by omega
      subst hk0
      rw [dig_done] at hd
      subst hd
      have hadd := run_string_add_sum (P := Try.prog) wr ⟨#[109]⟩ (dig n n ⟨#[]⟩) (by have : (⟨#[109]⟩ : ByteArray).size = 1 := rfl; omega)
      rw [← HM.out] at hadd
      go_wp2
      go_ret
      exact ⟨rfl, hB⟩

theorem markText (n : Nat) (h1 : n ≤ 4000000) (w : World) :
    Calls Try.prog 136 #[.int .i64 n] w fun e w' => e = .returned (.string (mkT n)) ∧ Below w.heap.size w w' := by
  by_cases h0 : 0 < n
  · exact markText_pos n h0 h1 w
  · have : n = 0 := by omega
    subst this
    go_enter Try.func136, Try.ntmps136
    go_wp2
    go_ret
    exact ⟨rfl, Below.refl _ _⟩
end Go.Proofs.Ytaffachjopjbgaa
namespace Go.Proofs.Ytaffachjopjbgaa
open Go.RowKit
open Wd
set_option linter.unusedVariables false

namespace Wd
/-- the marks' rules -/
def mkR (k n : Nat) : List Rl := (List.range n).map fun j => ⟨mkT (k + 3 * j), ((k + 3 * j + 1 : Nat) : Int), ((k + 3 * j + 2 : Nat) : Int)⟩
theorem mkR_len (k n : Nat) : (mkR k n).length = n := by simp [mkR]
theorem mkR_set (k : Nat) (gs : List Rl) (j : Nat) (h : j < gs.length) :
    (mkR k j ++ gs.drop j).set j ⟨mkT (k + 3 * j), ((k + 3 * j + 1 : Nat) : Int), ((k + 3 * j + 2 : Nat) : Int)⟩ = mkR k (j + 1) ++ gs.drop (j + 1) := by
  have e2 : (mkR k j).length = j := mkR_len k j
  rw [List.set_append_right _ _ (by omega), e2, Nat.sub_self, List.drop_eq_getElem_cons h, List.set_cons_zero]
  simp [mkR, List.range_succ]
theorem mkR_all (k : Nat) (gs : List Rl) : mkR k gs.length ++ gs.drop gs.length = mkR k gs.length := by simp
end Wd
theorem rGrownBelow {w w' : World} (h : Below w.heap.size w w') (row : Option Nat) : w.grownBy w' row := ⟨h.os, h.tape, h.output, h.size, fun i hi _ => h.block i hi⟩
theorem rGrownTrans {a b c : World} {row : Option Nat} (h : a.grownBy b row) (h' : b.grownBy c row) : a.grownBy c row :=
  ⟨h'.os.trans h.os, h'.tape.trans h.tape, h'.output.trans h.output, Nat.le_trans h.size h'.size, fun i hi hne => (h'.block i (Nat.lt_of_lt_of_le hi h.size) hne).trans (h.block i hi hne)⟩
theorem own_cells3 {w : World} {B e g c : Nat} {gs : List Rl} (h : w.ownsRow B e 3 (.slice (some ⟨g, 0, none⟩) gs.length c) gs.length (rv gs)) (k : Nat) (hk : k < gs.length) :
    (w.cell? ⟨g, k * 3, none⟩ = some (.string gs[k].L) ∧ w.cell? ⟨g, k * 3 + 1, none⟩ = some (.int .i64 gs[k].l) ∧ w.cell? ⟨g, k * 3 + 2, none⟩ = some (.int .i64 gs[k].r)) ∧
    w.frozen? ⟨g, k * 3, none⟩ = false ∧ w.frozen? ⟨g, k * 3 + 1, none⟩ = false ∧ w.frozen? ⟨g, k * 3 + 2, none⟩ = false := by
  refine ⟨⟨?_, ?_, ?_⟩, h.frozenAt _, h.frozenAt _, h.frozenAt _⟩
  · rw [h.cellAt (k * 3) (by omega)]; exact rv_get gs k hk 0 (by omega)
  · rw [h.cellAt (k * 3 + 1) (by omega)]; exact rv_get gs k hk 1 (by omega)
  · rw [h.cellAt (k * 3 + 2) (by omega)]; exact rv_get gs k hk 2 (by omega)

theorem markR_zero (a : Option Addr) (c : Nat) (k : Int) (w : World) :
    Calls Try.prog 105 #[.slice a 0 c, .int .i64 k] w fun e w' => e = .returned (.int .i64 k) ∧ w = w' := by
  go_enter Try.func105, Try.ntmps105
  go_wp2
  refine wp_loop_rounds 1 ?_
  rw [rounds_succ]
  go_wp2
  go_ret
  exact ⟨rfl, rfl⟩

set_option maxRecDepth 100000 in
set_option maxHeartbeats 1600000 in
theorem markR_some (g c n B : Nat) (gs : List Rl) (hng : gs.length = n) (hn : n ≤ 1048576) (k : Nat) (hk1 : k + 3 * n ≤ 3900000) (w : World) (h : w.ownsRow B 127 3 (.slice (some ⟨g, 0, none⟩) n c) n (rv gs)) :
    Calls Try.prog 105 #[.slice (some ⟨g, 0, none⟩) n c, .int .i64 k] w fun e w' => e = .returned (.int .i64 ((k : Int) + 3 * n)) ∧
      w'.ownsRow B 127 3 (.slice (some ⟨g, 0, none⟩) n c) n (rv (mkR k n)) ∧ w.grownBy w' (some g) := by
  have HN := Lib.hid hng
  clear hng
  go_enter Try.func105, Try.ntmps105
  go_wp2
  go_loopw [1, 5] (fun q i wr => ∃ j : Nat, j ≤ n ∧ i = .int .i64 j ∧ q = .int .i64 ((k + 3 * j : Nat) : Int) ∧ wr.ownsRow B 127 3 (.slice (some ⟨g, 0, none⟩) n c) n (rv (mkR k j ++ gs.drop j)) ∧ w.grownBy wr (some g))
    (fun _ i _ => n - (intOf i).toNat)
  case atStart => exact ⟨0, Nat.zero_le _, rfl, rfl, by simpa [mkR] using h, World.grownBy.refl _ _⟩
  case round =>
    obtain ⟨j, hj, rfl, rfl, hown, hgr⟩ := hrel
    by_cases hlt : j < n
    · have hjz : j < gs.length := by rw [HN.out]; exact hlt
      have hl : (mkR k j ++ gs.drop j).length = n := by rw [List.length_append, mkR_len, List.length_drop, HN.out]; omega
      have HM := Lib.hid (markText (k + 3 * j) (by omega) wr)
      have HST := Lib.hid (mkR_set k gs j hjz)
      generalize hq : k + 3 * j = q at HM HST ⊢
      have HQ := Lib.hid hq
      have hq1 : q ≤ 3900000 := by omega
      have HO := Lib.hid hown
      have HGR := Lib.hid hgr
      clear hq hown hgr
      go_wp2_with fail
      refine HM.out.mono ?_
      rintro e w1 ⟨rfl, hb1⟩
      have hown1 := own_below HO.out hb1 (Nat.le_refl _)
      obtain ⟨⟨c0, c1, c2⟩, f0, f1, f2⟩ := own_cells3 (by rw [hl]; exact hown1) j (by rw [hl]; exact hlt)
      have hst := own_set3 hown1 j (by rw [hl]; exact hlt) ⟨mkT q, ((q + 1 : Nat) : Int), ((q + 2 : Nat) : Int)⟩
      rw [HST.out] at hst
      have hg2 := rGrownTrans HGR.out (rGrownTrans (rGrownBelow hb1 (some g)) (only_setCell (only_setCell (only_setCell (World.grownBy.refl w1 (some g)) (p := ⟨g, j * 3, none⟩) (.inl rfl) (.string (mkT q))) (p := ⟨g, j * 3 + 1, none⟩) (.inl rfl) (.int .i64 ((q + 1 : Nat) : Int))) (p := ⟨g, j * 3 + 2, none⟩) (.inl rfl) (.int .i64 ((q + 2 : Nat) : Int))))
      generalize (mkR k j ++ gs.drop j)[j] = z at c0 c1 c2
      obtain ⟨zL, zl, zr⟩ := z
      simp only at c0 c1 c2
      simp only at hst
      generalize mkT q = t at *
      have HS2 := Lib.hid hst
      have HG2 := Lib.hid hg2
      clear hst hg2 hown1 hb1 HM HST hl hjz
      go_wp2
      go_roundw
      case rel => exact ⟨j + 1, by omega, by go_num, by have := HQ.out; go_num, HS2.out, HG2.out⟩
      case measure => simp [intOf]; omega
    · have hjn : j = n := by omega
      have hown' : wr.ownsRow B 127 3 (.slice (some ⟨g, 0, none⟩) n c) n (rv (mkR k n)) := by
        rw [hjn, ← HN.out, mkR_all, HN.out] at hown; exact hown
      have HJ := Lib.hid hjn
      clear hjn hown
      go_wp2
      go_ret
      exact ⟨ret_int (by have := HJ.out; omega), hown', hgr⟩

theorem markGrammar_any (v : Value) (gs : List Rl) (B : Nat) (k : Nat) (hk1 : k + 3 * gs.length ≤ 3900000) (w : World) (h : OwnsR w B v gs) (hn : gs.length ≤ 1048576) :
    Calls Try.prog 37 #[.agg #[v], .int .i64 k] w fun e w' => e = .returned (.int .i64 ((k : Int) + 3 * gs.length)) ∧ OwnsR w' B v (mkR k gs.length) ∧ w.grownBy w' v.ownBlock := by
  have hb := (Below.refl _ w).alloc (Nat.le_refl _) (.cells #[v] 37)
  have h1 := own_below h hb (Nat.le_refl _)
  rcases h.2 with ⟨rfl, h0⟩ | ⟨g, c, cur, rfl, _⟩
  · have HB := Lib.hid hb
    have hgs : gs = [] := List.eq_nil_of_length_eq_zero h0
    subst hgs
    have HZ := Lib.hid (fun W => markR_zero none 0 k W)
    clear h h1 h0 hb
    go_enter Try.func37, Try.ntmps37
    go_wp2_with fail
    refine (HZ.out _).mono ?_
    rintro e w1 ⟨rfl, rfl⟩
    go_wp2_with fail
    go_ret
    exact ⟨by simp, World.ownsRow_nil _ _ _ _, rGrownBelow HB.out _⟩
  · have HB := Lib.hid hb
    have HM := Lib.hid (markR_some g c gs.length B gs rfl hn k hk1 _ h1)
    clear h h1 hb
    go_enter Try.func37, Try.ntmps37
    go_wp2_with fail
    refine HM.out.mono ?_
    rintro e w1 ⟨rfl, h2, h3⟩
    have H2 := Lib.hid h2
    have H3 := Lib.hid h3
    clear h2 h3
    go_wp2_with fail
    go_ret
    exact ⟨rfl, by unfold OwnsR; rw [mkR_len]; exact H2.out, rGrownTrans (rGrownBelow HB.out _) H3.out⟩
end Go.Proofs.Ytaffachjopjbgaa
namespace Go.Proofs.Ytaffachjopjbgaa
open Go.RowKit
open Wd
set_option linter.unusedVariables false
set_option maxRecDepth 100000 in
set_option maxHeartbeats 1600000 in
theorem markLL (v : Value) (U : List Value) (Z : List (List Int)) (lo : Nat) (k : Int) (w : World) (hn : Z.length ≤ 1048576) (hr : ∀ r ∈ Z, r.length ≤ 1048576) (hk0 : 0 ≤ k) (hk1 : k ≤ 2097152) (h : OwnM w lo v U Z) :
    Calls Try.prog 53 #[v, .int .i64 k] w fun e w' => e = .returned (.int .i64 (k + pre Z Z.length)) ∧ OwnM w' lo v U (mkF Z.length k Z) ∧ OnlyIn U w w' := by
  have HM := Lib.hid h
  have HN := Lib.hid h.len
  have HP := Lib.hid (fun j hj => pre_le Z 1048576 hr j hj)
  have HR := Lib.hid hr
  have HNE := Lib.hid h.ne
  obtain ⟨n, hn'⟩ : ∃ n, n = Z.length := ⟨_, rfl⟩
  rw [← hn'] at hn ⊢
  have HZ := Lib.hid hn'
  rcases h.shape with ⟨rfl, h0⟩ | ⟨g, c, rfl, _⟩
  · have : n = 0 := by rw [hn', ← h.len, h0]; rfl
    subst this
    clear hn' hr h
    go_enter Try.func53, Try.ntmps53
    go_wp2
    refine wp_loop_rounds 1 ?_
    rw [rounds_succ]
    go_wp2
    go_ret
    refine ⟨ret_int (by rw [pre_zero]; simp), ?_, OnlyIn.refl _ _⟩
    rw [mkF_zero]; exact HM.out
  · have hun : U.length = n := by rw [h.len, hn']
    rw [hun]
    have HU := Lib.hid hun
    clear hn' hr h hun
    go_enter Try.func53, Try.ntmps53
    go_wp2_with fail
    go_loopw [1, 5] (fun q i wr => ∃ j : Nat, j ≤ n ∧ i = .int .i64 j ∧ q = .int .i64 (k + pre Z j) ∧ Rws wr lo U (mkF j k Z) ∧ OnlyIn U w wr) (fun _ i _ => n - (intOf i).toNat)
    case atStart => exact ⟨0, Nat.zero_le _, rfl, by rw [pre_zero]; simp, by rw [mkF_zero]; exact HM.out.rows, OnlyIn.refl _ _⟩
    case round =>
      obtain ⟨j, hj, rfl, rfl, hrows, honly⟩ := hrel
      obtain ⟨wo, rfl⟩ : ∃ wo : World, wo = wr := ⟨_, rfl⟩
      have hout := own_only HM.out.outer honly HNE.out
      have HOL := Lib.hid honly
      by_cases hlt : j < n
      · have hju : j < U.length := by rw [HU.out]; exact hlt
        have hjz : j < Z.length := by rw [← HZ.out]; exact hlt
        have c0 := hout.cellAt j (by rw [HU.out]; omega)
        rw [List.getElem?_eq_getElem hju] at c0
        have hget := mkF_get j k Z j hjz
        rw [if_neg (Nat.lt_irrefl _)] at hget
        have hp := HP.out j (by omega)
        have hp1 := HP.out (j + 1) (by omega)
        have hps := pre_succ Z j hjz
        have hown := hrows.row j _ _ (List.getElem?_eq_getElem hju) hget
        have hlen := HR.out _ (List.getElem_mem hjz)
        obtain ⟨z, hz⟩ : ∃ z, z = pre Z j := ⟨_, rfl⟩
        have HC := Lib.hid (markI U[j] Z[j] lo (k + z) (by omega) (by rw [hz]; omega) wo hown hlen)
        have HNXT : Hid (∀ (w' : World) , OwnsI w' lo U[j] (marks (k + z) Z[j].length) → wo.grownBy w' U[j].ownBlock → Rws w' lo U (mkF (j + 1) k Z) ∧ OnlyIn U w w') := Lib.hid (fun w' ho hg => by
          refine ⟨?_, HOL.out.trans (OnlyIn.of_grown hg (List.getElem_mem hju))⟩
          have := hrows.mark (List.getElem?_eq_getElem hju) hg ho
          rw [hz] at this
          rwa [mkF_set j k Z hjz] at this)
        have HPS : Hid (pre Z (j + 1) = z + Z[j].length) := Lib.hid (by rw [hz]; exact hps)
        obtain ⟨A2, c2, hA2⟩ := own_slice hown
        rw [← hz]
        have hsum0 : (0 : Int) ≤ z := by omega
        have hsum1 : (z : Int) ≤ 1099511627776 := by rw [hz]; omega
        have hl0 : (Z[j].length : Int) ≤ 1048576 := by omega
        rw [hA2] at c0 HC HNXT
        generalize Z[j].length = L at *
        clear hout hrows honly hget hp hp1 hps hown hlen hz hA2 hju hjz
        go_wp2_with fail
        refine HC.out.mono ?_
        rintro e w5 ⟨rfl, ho5, hg5⟩
        have HO := Lib.hid (HNXT.out w5 ho5 hg5)
        clear ho5 hg5
        go_wp2_with fail
        go_roundw
        case rel => exact ⟨j + 1, by omega, by go_num, by rw [HPS.out]; go_num, HO.out.1, HO.out.2⟩
        case measure => simp [intOf]; omega
      · obtain rfl : j = n := by omega
        have HF : Hid (OwnM wo lo (.slice (some ⟨g, 0, none⟩) j c) U (mkF j k Z) ∧ OnlyIn U w wo) := Lib.hid ⟨⟨by rw [HU.out] at hout ⊢; exact hout, hrows⟩, honly⟩
        clear hout hrows honly HOL
        go_wp2_with fail
        go_ret
        exact ⟨rfl, HF.out.1, HF.out.2⟩
set_option maxRecDepth 100000 in
set_option maxHeartbeats 1600000 in
theorem heldLL (v : Value) (U : List Value) (Z : List (List Int)) (lo : Nat) (k : Int) (w : World) (hn : Z.length ≤ 1048576) (hr : ∀ r ∈ Z, r.length ≤ 1048576) (hk0 : 0 ≤ k) (hk1 : k ≤ 2097152) (h : OwnM w lo v U (mkF Z.length k Z)) :
    Calls Try.prog 54 #[v, .int .i64 k] w fun e w' => e = .returned (.int .i64 (k + pre Z Z.length)) ∧ w = w' := by
  have HM := Lib.hid h
  have hlen := h.len
  rw [mkF_len] at hlen
  have HP := Lib.hid (fun j hj => pre_le Z 1048576 hr j hj)
  have HR := Lib.hid hr
  obtain ⟨n, hn'⟩ : ∃ n, n = Z.length := ⟨_, rfl⟩
  rw [← hn'] at hn ⊢
  have HZ := Lib.hid hn'
  rcases h.shape with ⟨rfl, h0⟩ | ⟨g, c, rfl, _⟩
  · have : n = 0 := by rw [hn', ← hlen, h0]; rfl
    subst this
    clear hn' hr h hlen
    go_enter Try.func54, Try.ntmps54
    go_wp2
    refine wp_loop_rounds 1 ?_
    rw [rounds_succ]
    go_wp2
    go_ret
    exact ⟨ret_int (by rw [pre_zero]; simp), rfl⟩
  · have hun : U.length = n := by rw [hlen, hn']
    rw [hun]
    have HU := Lib.hid hun
    clear hn' hr h hun hlen
    go_enter Try.func54, Try.ntmps54
    go_wp2_with fail
    go_loopw [1, 5] (fun q i wr => ∃ j : Nat, j ≤ n ∧ i = .int .i64 j ∧ q = .int .i64 (k + pre Z j) ∧ wr = w) (fun _ i _ => n - (intOf i).toNat)
    case atStart => exact ⟨0, Nat.zero_le _, rfl, by rw [pre_zero]; simp, rfl⟩
    case round =>
      obtain ⟨j, hj, rfl, rfl, rfl⟩ := hrel
      by_cases hlt : j < n
      · have hju : j < U.length := by rw [HU.out]; exact hlt
        have hjz : j < Z.length := by rw [← HZ.out]; exact hlt
        have c0 := HM.out.outer.cellAt j (by rw [HU.out]; omega)
        rw [List.getElem?_eq_getElem hju] at c0
        have hget := mkF_get Z.length k Z j hjz
        rw [if_pos hjz] at hget
        have hp := HP.out j (by omega)
        have hp1 := HP.out (j + 1) (by omega)
        have hps := pre_succ Z j hjz
        have hown := HM.out.rows.row j _ _ (List.getElem?_eq_getElem hju) hget
        have hlen := HR.out _ (List.getElem_mem hjz)
        obtain ⟨z, hz⟩ : ∃ z, z = pre Z j := ⟨_, rfl⟩
        have HC := Lib.hid (heldI U[j] Z[j].length lo (k + z) (by omega) (by rw [hz]; omega) wr (by rw [hz]; exact hown) hlen)
        have HPS : Hid (pre Z (j + 1) = z + Z[j].length) := Lib.hid (by rw [hz]; exact hps)
        obtain ⟨A2, c2, hA2⟩ := own_slice hown
        rw [marks_len] at hA2
        rw [← hz]
        have hsum0 : (0 : Int) ≤ z := by omega
        have hsum1 : (z : Int) ≤ 1099511627776 := by rw [hz]; omega
        have hl0 : (Z[j].length : Int) ≤ 1048576 := by omega
        have hnn : ¬ (k + (z : Int) + (Z[j].length : Int) < 0) := by omega
        rw [hA2] at c0 HC
        generalize Z[j].length = L at *
        clear hget hp hp1 hps hown hlen hz hA2 hju hjz
        go_wp2_with fail
        refine HC.out.mono ?_
        rintro e w5 ⟨rfl, rfl⟩
        go_wp2_with fail
        go_roundw
        case rel => exact ⟨j + 1, by omega, by go_num, by rw [HPS.out]; go_num, by first | rfl | trivial⟩
        case measure => simp [intOf]; omega
      · obtain rfl : j = n := by omega
        go_wp2_with fail
        go_ret
        exact ⟨rfl, rfl⟩
set_option maxRecDepth 100000 in
set_option maxHeartbeats 1600000 in
theorem markAu (f n : Value) (U : List Value) (x : Au) (lo : Nat) (w : World) (hf : FewA x) (h : OwnA w lo f n U x.fin x.nx) :
    Calls Try.prog 36 #[.agg #[.int .i64 x.st, .int .i64 x.go, f, n], .int .i64 1] w fun e w' => e = .returned (.int .i64 (1 + auN x)) ∧ OwnA w' lo f n U (marks 1 x.fin.length) (mkF x.nx.length (1 + x.fin.length) x.nx) ∧ OnlyIn (f :: U) w w' := by
  have hb := (Below.refl _ w).alloc (Nat.le_refl _) (.cells #[.int .i64 x.st, .int .i64 x.go, f, n] 33)
  have hP := heap_alloc_new w (.cells #[.int .i64 x.st, .int .i64 x.go, f, n] 33)
  have ha := h.kept hb
  have hfl := hf.fin
  have HF := Lib.hid (markI f x.fin lo 1 (by omega) (by omega) _ ha.fin hf.fin)
  have HNX : Hid (∀ w', OwnsI w' lo f (marks 1 x.fin.length) → (w.alloc (.cells #[.int .i64 x.st, .int .i64 x.go, f, n] 33)).grownBy w' f.ownBlock → OwnM w' lo n U x.nx ∧ w'.heap[w.heap.size]? = some (.cells #[.int .i64 x.st, .int .i64 x.go, f, n] 33 (0, 0))) := Lib.hid (fun w' ho hg => by
    have hg' : OnlyIn [f] (w.alloc (.cells #[.int .i64 x.st, .int .i64 x.go, f, n] 33)) w' := OnlyIn.of_grown hg (by simp)
    refine ⟨⟨own_only ha.nx.outer hg' (fun u hu => ?_), ?_⟩, ?_⟩
    · obtain rfl : u = f := by simpa using hu
      exact own_kinds_ne ha.fin ha.nx.outer (by decide)
    · refine ⟨ha.nx.rows.len, fun j u zs h1 h2 => own_only (ha.nx.rows.row j u zs h1 h2) hg' (fun y hy => ?_), ha.nx.rows.ne⟩
      obtain rfl : y = f := by simpa using hy
      exact ha.ne u (List.mem_iff_getElem?.2 ⟨j, h1⟩)
    · rw [hg.block w.heap.size (by simp) (fun e => by have := (h.fin.lt _ e.symm).2; omega)]
      exact hP)
  have HM := Lib.hid (fun W (hW : OwnM W lo n U x.nx) => markLL n U x.nx lo (1 + x.fin.length) W hf.nx hf.row (by omega) (by omega) hW)
  have HFIN : Hid (∀ w1 w2, OwnsI w1 lo f (marks 1 x.fin.length) → (w.alloc (.cells #[.int .i64 x.st, .int .i64 x.go, f, n] 33)).grownBy w1 f.ownBlock → OwnM w2 lo n U (mkF x.nx.length (1 + x.fin.length) x.nx) → OnlyIn U w1 w2 → OwnA w2 lo f n U (marks 1 x.fin.length) (mkF x.nx.length (1 + x.fin.length) x.nx) ∧ OnlyIn (f :: U) w w2) := Lib.hid (fun w1 w2 h1 h2 h3 h4 => by
    refine ⟨⟨own_only h1 h4 (fun u hu => ?_), h3, h.ne⟩, ?_⟩
    · rcases h.ne u hu with h5 | h5
      · cases hq : u.ownBlock with
        | none => exact .inl rfl
        | some q => exact .inr (by rw [h5]; simp)
      · exact .inr fun e => h5 e.symm
    · exact ((OnlyIn.of_below hb).trans (OnlyIn.of_grown h2 (by simp))).trans (h4.mono fun u hu => by simp [hu]))
  have hb0 : 0 ≤ (x.fin.length : Int) := by omega
  have hb1 : (x.fin.length : Int) ≤ 1048576 := by omega
  obtain ⟨Af, cf, rfl⟩ := own_slice h.fin
  obtain ⟨An, cn, rfl⟩ := own_slice h.nx.outer
  obtain ⟨⟨p0, p1, p2, p3⟩, _⟩ := blk4_cells hP
  clear hb hP ha hf h hfl
  unfold auN
  generalize x.fin.length = N at *
  go_enter Try.func36, Try.ntmps36
  go_wp2_with fail
  refine HF.out.mono ?_
  rintro e w1 ⟨rfl, ho1, hg1⟩
  have HN1 := Lib.hid (HNX.out w1 ho1 hg1)
  have HF1 := Lib.hid (fun w2 => HFIN.out w1 w2 ho1 hg1)
  clear ho1 hg1 p0 p1 p2 p3
  obtain ⟨⟨p0, p1, p2, p3⟩, _⟩ := blk4_cells HN1.out.2
  go_wp2_with fail
  refine (HM.out _ HN1.out.1).mono ?_
  rintro e w2 ⟨rfl, ho2, hg2⟩
  have HR := Lib.hid (HF1.out w2 ho2 hg2)
  clear ho2 hg2 p0 p1 p2 p3
  go_wp2_with fail
  go_ret
  exact ⟨ret_int (by omega), HR.out.1, HR.out.2⟩
set_option maxRecDepth 100000 in
set_option maxHeartbeats 1600000 in
theorem heldAu (f n : Value) (U : List Value) (x : Au) (lo : Nat) (w : World) (hf : FewA x) (h : OwnA w lo f n U (marks 1 x.fin.length) (mkF x.nx.length (1 + x.fin.length) x.nx)) :
    Calls Try.prog 42 #[.agg #[.int .i64 x.st, .int .i64 x.go, f, n], .int .i64 1] w fun e w' => e = .returned (.int .i64 (1 + auN x)) ∧ Below w.heap.size w w' := by
  have hb := (Below.refl _ w).alloc (Nat.le_refl _) (.cells #[.int .i64 x.st, .int .i64 x.go, f, n] 33)
  have hP := heap_alloc_new w (.cells #[.int .i64 x.st, .int .i64 x.go, f, n] 33)
  have ha := h.kept hb
  have hfl := hf.fin
  have HF := Lib.hid (heldI f x.fin.length lo 1 (by omega) (by omega) _ ha.fin hf.fin)
  have HM := Lib.hid (heldLL n U x.nx lo (1 + x.fin.length) _ hf.nx hf.row (by omega) (by omega) ha.nx)
  have HB := Lib.hid hb
  have hpb := pre_le x.nx 1048576 hf.row x.nx.length (Nat.le_refl _)
  have hpn := hf.nx
  have hb0 : 0 ≤ (x.fin.length : Int) := by omega
  have hb1 : (x.fin.length : Int) ≤ 1048576 := by omega
  have hq0 : (0 : Int) ≤ (pre x.nx x.nx.length : Int) := by omega
  have hn1 : ¬ (1 + (x.fin.length : Int) < 0) := by omega
  have hn2 : ¬ (1 + (x.fin.length : Int) + (pre x.nx x.nx.length : Int) < 0) := by omega
  obtain ⟨Af, cf, rfl⟩ := own_slice h.fin
  obtain ⟨An, cn, rfl⟩ := own_slice h.nx.outer
  obtain ⟨⟨p0, p1, p2, p3⟩, _⟩ := blk4_cells hP
  clear hb hP ha hf h hfl hpb hpn
  unfold auN
  generalize x.fin.length = N at *
  generalize pre x.nx x.nx.length = P at *
  go_enter Try.func42, Try.ntmps42
  go_wp2_with fail
  refine HF.out.mono ?_
  rintro e w1 ⟨rfl, rfl⟩
  go_wp2_with fail
  refine HM.out.mono ?_
  rintro e w1 ⟨rfl, rfl⟩
  go_wp2_with fail
  go_ret
  exact ⟨ret_int (by omega), HB.out⟩
end Go.Proofs.Ytaffachjopjbgaa
