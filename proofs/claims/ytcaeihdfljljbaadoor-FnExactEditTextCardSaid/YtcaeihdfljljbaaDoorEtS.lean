/-
  The text of an edit. Walks: spec.l07Words, spec.EditText.
-/
import Derived.Test.YtcaeihdfljljbaaDoorDecI
import Derived.Test.YtcaeihdfljljbaaDoorUnpS4
import Derived.Test.YtcaeihdfljljbaaDoorEdS
import Derived.Test.YtcaeihdfljljbaaDoorEdF
import Derived.Deep.DeepCutAuto
namespace Go.Proofs.YtcaeihdfljljbaaDoor
open Go.RowKit
open Wd
set_option linter.unusedVariables false
namespace Wd
theorem et_sz (u t : ByteArray) : (u ++ t).size = u.size + t.size := ByteArray.size_append
theorem edW_size (k : Int) : (edW k).size ≤ 6 := by
  unfold edW
  repeat' split
  all_goals decide
/-- the text, by what is mentioned -/
def edT4 (U : ByteArray) (b1 b2 b3 b4 : Bool) (J K P M : ByteArray) : ByteArray :=
  let t1 := if b1 = true then U ++ (⟨#[32]⟩ ++ J) else U
  let t2 := if b2 = true then t1 ++ (⟨#[32]⟩ ++ K) else t1
  let t3 := if b3 = true then t2 ++ (⟨#[32]⟩ ++ P) else t2
  if b4 = true then t3 ++ (⟨#[32]⟩ ++ M) else t3
def parT (gs : List Rl) : ByteArray := ⟨(partW gs 0 (wordLen gs)).toArray⟩
def edA (x : Ed) : ByteArray := if edOk x = true ∧ wordLen x.gs ≤ 2000 then edT4 ((edW x.k ++ ⟨#[32]⟩) ++ decT x.i.toNat) (hasJ x.k) (hasK x.k) (hasP x.k) (hasM x.k) (decT x.j.toNat) (decT x.t.toNat) (parT x.gs) x.m else ⟨#[]⟩
/-- what a valid edit's parts are -/
structure OkE (x : Ed) : Prop where
  k : 1 ≤ x.k ∧ x.k ≤ 7
  i : 0 ≤ x.i ∧ x.i ≤ 1000000000000000
  j : 0 ≤ x.j ∧ x.j ≤ 1000000000000000
  t : 0 ≤ x.t ∧ x.t ≤ 1000000000000000
  g : gOk x.gs = true
  p : hasP x.k = true → 0 < x.gs.length
  n : hasP x.k = false → wordLen x.gs = 0
  m : x.m.size ≤ 4
theorem numOk_bd {n : Int} {b : Bool} (h : numOk n b = true) : 0 ≤ n ∧ n ≤ 1000000000000000 := by
  unfold numOk at h
  cases b
  · rw [if_neg (by decide), decide_eq_true_iff] at h; omega
  · rw [if_pos rfl, decide_eq_true_iff] at h; exact h
theorem OkE.of {x : Ed} (h : edOk x = true) : OkE x := by
  unfold edOk at h
  simp only [Bool.and_eq_true, decide_eq_true_iff] at h
  obtain ⟨h1, ⟨h2, h3, h4⟩, _, h5, h6, h7⟩ := h
  have h5 : decide (0 < x.gs.length) = hasP x.k := by simpa using h5
  refine ⟨h1, numOk_bd h2, numOk_bd h3, numOk_bd h4, h6, fun h => ?_, fun h => ?_, ?_⟩
  · rw [h] at h5; exact of_decide_eq_true h5
  · rw [h] at h5
    have := of_decide_eq_false h5
    exact wordLen_zero (by omega)
  · unfold mapOk at h7
    cases hm : hasM x.k
    · rw [hm, if_neg (by decide), decide_eq_true_iff] at h7; omega
    · rw [hm, if_pos rfl, Bool.and_eq_true, decide_eq_true_iff] at h7; omega
theorem parT_size {gs : List Rl} (hok : gOk gs = true) (hg : 0 < gs.length) : ((parT gs).size : Int) = wordLen gs := by
  have hb := wordLen_bd' hok
  have := partW_len hok hg (i := 0) (j := wordLen gs) ⟨by omega, hb.1, Int.le_refl _⟩
  have h2 : (parT gs).size = (partW gs 0 (wordLen gs)).length := by simp [parT, ByteArray.size]
  omega
end Wd
theorem decE (n : Nat) (W : World) (h : n ≤ 1000000000000000) :
    Calls Tryd.prog 27 #[.int .i64 (n : Int)] W fun e w' => e = .returned (.string (decT n)) ∧ Below W.heap.size W w' := dec_any (n + 1) n W (by omega) (by omega)
theorem undrewE {B : Nat} {w w' : World} (h : Below B w.drew w') : Below B w w' := ⟨h.os, h.tape, h.output, h.size, h.block⟩
theorem words7_any (k : Nat) (w : World) (h : 1 ≤ k ∧ k ≤ 7) :
    Calls Tryd.prog 43 #[] w fun e w' => e = .returned (.slice (some ⟨w.heap.size, 0, none⟩) 8 8) ∧ Below w.heap.size w w' ∧ w'.cell? ⟨w.heap.size, k, none⟩ = some (.string (edW (k : Int))) ∧ w.heap.size < w'.heap.size := by
  have hc : (w.alloc (.cells #[.string ⟨#[]⟩, .string ⟨#[105, 110, 115, 101, 114, 116]⟩, .string ⟨#[100, 101, 108, 101, 116, 101]⟩, .string ⟨#[99, 111, 112, 121]⟩, .string ⟨#[109, 111, 118, 101]⟩, .string ⟨#[116, 117, 114, 110]⟩, .string ⟨#[114, 101, 112, 101, 97, 116]⟩, .string ⟨#[109, 97, 112]⟩] 9)).cell? ⟨w.heap.size, k, none⟩ = some (.string (edW (k : Int))) := by
    rw [cell_of_row _ _ _ _ _ _ (heap_alloc_new w _)]
    obtain rfl | rfl | rfl | rfl | rfl | rfl | rfl : k = 1 ∨ k = 2 ∨ k = 3 ∨ k = 4 ∨ k = 5 ∨ k = 6 ∨ k = 7 := by omega
    all_goals rfl
  have HC := Lib.hid hc
  clear hc
  go_enter Tryd.func43, Tryd.ntmps43
  go_wp2
  go_ret
  exact ⟨rfl, (Below.refl _ _).alloc (Nat.le_refl _) _, HC.out, by simp⟩
set_option maxRecDepth 100000 in
set_option maxHeartbeats 25600000 in
theorem specEditText (v : Value) (x : Ed) (w : World) (hf : FewE x) (h : IsEd w v x) :
    Calls Tryd.prog 16 #[v] w fun e w' => e = .returned (.string (edA x)) ∧ Below w.heap.size w w' := by
  obtain ⟨u, rfl, hr⟩ := h
  have hb0 := (Below.refl _ w).alloc (Nat.le_refl _) (.cells #[.int .i64 x.k, .int .i64 x.i, .int .i64 x.j, .int .i64 x.t, u, .string x.m] 46)
  have HC := Lib.hid (l07Ok_any w.heap.size x u _ (heap_alloc_new w _) (hr.kept hb0) hf)
  obtain ⟨k, i, j, t, gs, m⟩ := x
  simp only at hr hb0 HC
  have hP0 := heap_alloc_new w (.cells #[.int .i64 k, .int .i64 i, .int .i64 j, .int .i64 t, u, .string m] 46)
  have hs0 : w.heap.size < (w.alloc (.cells #[.int .i64 k, .int .i64 i, .int .i64 j, .int .i64 t, u, .string m] 46)).heap.size := by simp
  have HG := Lib.hid (fun W (hb : Below w.heap.size w W) => hr.kept hb)
  have HB0 := Lib.hid hb0
  have HP0 := Lib.hid hP0
  have HS0 := Lib.hid hs0
  obtain ⟨A, c, rfl, _⟩ := hr
  obtain ⟨hf1, _⟩ := hf
  simp only at hf1
  clear hb0 hP0 hs0
  show Calls Tryd.prog _ #[.agg #[.int .i64 k, .int .i64 i, .int .i64 j, .int .i64 t, .slice A gs.length c, .string m]] _ _
  cases hok : edOk ⟨k, i, j, t, gs, m⟩
  · have HE : Hid (edA ⟨k, i, j, t, gs, m⟩ = ⟨#[]⟩) := Lib.hid (by unfold edA; rw [hok, if_neg (by rintro ⟨h, _⟩; cases h)])
    rw [HE.out]
    rw [hok] at HC
    clear hok
    go_enter Tryd.func16, Tryd.ntmps16
    go_wp2_with fail
    refine HC.out.mono ?_
    rintro e w1 ⟨rfl, hB1⟩
    have HB1 := Lib.hid (HB0.out.trans (hB1.mono (Nat.le_of_lt HS0.out)))
    clear hB1
    go_wp2_with fail
    go_ret
    exact ⟨rfl, HB1.out⟩
  · have hO := OkE.of hok
    obtain ⟨T, hT⟩ : ∃ T, T = edA ⟨k, i, j, t, gs, m⟩ := ⟨_, rfl⟩
    rw [← hT]
    have hT2 : T = if wordLen gs ≤ 2000 then edT4 ((edW k ++ ⟨#[32]⟩) ++ decT i.toNat) (hasJ k) (hasK k) (hasP k) (hasM k) (decT j.toNat) (decT t.toNat) (parT gs) m else ⟨#[]⟩ := by
      rw [hT]
      unfold edA
      simp only [hok, true_and]
    rw [hok] at HC
    obtain ⟨⟨hk1, hk7⟩, ⟨hi0, hi1⟩, ⟨hj0, hj1⟩, ⟨ht0, ht1⟩, hg, hp, hnp, hm4⟩ := hO
    simp only at hk1 hk7 hi0 hi1 hj0 hj1 ht0 ht1 hg hp hnp hm4
    obtain ⟨kk, rfl⟩ : ∃ n : Nat, k = n := ⟨k.toNat, by omega⟩
    obtain ⟨ii, rfl⟩ : ∃ n : Nat, i = n := ⟨i.toNat, by omega⟩
    obtain ⟨jj, rfl⟩ : ∃ n : Nat, j = n := ⟨j.toNat, by omega⟩
    obtain ⟨tt, rfl⟩ : ∃ n : Nat, t = n := ⟨t.toNat, by omega⟩
    simp only [Int.toNat_natCast] at hT2
    have hwl := wordLen_bd' hg
    have HL := Lib.hid (fun W (hb : Below w.heap.size w W) (h : GP4 W w.heap.size gs) => l02Length4_any w.heap.size gs W hf1 h (gOk_fs hg))
    have HUN := Lib.hid (fun W (h : GP4 W w.heap.size gs) (h2 : wordLen gs ≤ 2000) (h3 : 0 < gs.length) => l02Unpack4_any w.heap.size gs 0 (wordLen gs) W hf1 h hg (by omega) hwl.1 (by omega) (by omega) hwl.2 (partW_len hg h3 ⟨by omega, hwl.1, Int.le_refl _⟩))
    have HPZ := Lib.hid (fun h => parT_size hg h)
    have HW := Lib.hid (fun W => words7_any kk W (by omega))
    have HU := Lib.hid (fun W => uses7_any (kk : Int) W ⟨hk1, hk7⟩)
    have hus := edU_size (kk : Int)
    obtain ⟨⟨u1, u2⟩, u3, u4⟩ := edU_has (k := (kk : Int)) ⟨hk1, hk7⟩
    have HH1 := Lib.hid (fun W => has7_any (edU (kk : Int)) 74 W hus)
    have HH2 := Lib.hid (fun W => has7_any (edU (kk : Int)) 75 W hus)
    have HH3 := Lib.hid (fun W => has7_any (edU (kk : Int)) 80 W hus)
    have HH4 := Lib.hid (fun W => has7_any (edU (kk : Int)) 77 W hus)
    rw [u1] at HH1
    rw [u2] at HH2
    rw [u3] at HH3
    rw [u4] at HH4
    have HDA := Lib.hid (fun W => decE ii W (by omega))
    have HDJ := Lib.hid (fun W => decE jj W (by omega))
    have HDT := Lib.hid (fun W => decE tt W (by omega))
    have sW := edW_size (kk : Int)
    have sA := decT_size (n := ii) (by omega)
    have sJ := decT_size (n := jj) (by omega)
    have sT := decT_size (n := tt) (by omega)
    have k0 : (0 : Int) ≤ (kk : Int) := by omega
    have k1 : (kk : Int) < 8 := by omega
    have HKK : Hid (1 ≤ kk ∧ kk ≤ 7) := Lib.hid (by omega)
    have HT := Lib.hid hT2
    have HPP := Lib.hid (And.intro hp hnp)
    clear hT hT2 hok u1 u2 u3 u4 hus hf1 hg hp hnp hi0 hi1 hj0 hj1 ht0 ht1 hk1 hk7 hwl
    go_enter Tryd.func16, Tryd.ntmps16
    go_wp2_with fail
    refine HC.out.mono ?_
    rintro e w3 ⟨rfl, hB3⟩
    have HP3 := Lib.hid ((hB3.block w.heap.size HS0.out).trans HP0.out)
    have HB3 := Lib.hid (HB0.out.trans (hB3.mono (Nat.le_of_lt HS0.out)))
    have HS3 : Hid (w.heap.size < w3.heap.size) := Lib.hid (by have := hB3.size; have := HS0.out; omega)
    have HPK := Lib.hid (fun W (hb : Below w3.heap.size w3 W) => (blk6_cells ((hb.block w.heap.size HS3.out).trans HP3.out)).1)
    obtain ⟨⟨p0, p1, p2, p3, p4, p5⟩, _⟩ := blk6_cells HP3.out
    clear hB3
    go_upto_region 3 with fail
    go_cut [3] (fun s3 wx => s3 = .string ((edW (kk : Int) ++ ⟨#[32]⟩) ++ decT ii) ∧ Below w3.heap.size w3 wx)
    case first =>
      have hc1 : (9223372036854775807 < (edW (kk : Int)).size + 1) = False := by simp; omega
      have hc2 : (9223372036854775807 < (edW (kk : Int)).size + 1 + (decT ii).size) = False := by simp; omega
      clear HU HH1 HH2 HH3 HH4 HDJ HDT HL HUN HPZ HG sJ sT HP3 HP0 HT HPP HKK
      go_region_with
        (first
          | (go_at_call 43
             refine (HW.out _).mono ?_
             rintro e w5 ⟨rfl, hB5, hc5, hs5⟩
             (try have hc5 : w5.cell? ⟨w3.heap.size, kk, none⟩ = some (.string (edW (kk : Int))) := hc5)
             (try have hs5 : w3.heap.size < w5.heap.size := hs5)
             have hb5 : Below w3.heap.size w3 w5 := by first | exact HB6.out.trans (hB5.mono HB6.out.size) | exact undrewE hB5
             obtain ⟨r0, r1, r2, r3, r4, r5⟩ := HPK.out w5 hb5
             have HB5 := Lib.hid hb5
             clear hb5 hB5)
          | (go_at_call 27
             refine (HDA.out _).mono ?_
             rintro e w6 ⟨rfl, hB6⟩
             have hb6 : Below w3.heap.size w3 w6 := by first | exact HB5.out.trans (hB6.mono HB5.out.size) | exact undrewE hB6
             obtain ⟨t0, t1, t2, t3, t4, t5⟩ := HPK.out w6 hb6
             (try have hx6 : w6.cell? ⟨w3.heap.size, kk, none⟩ = some (.string (edW (kk : Int))) := (hB6.cell (p := ⟨w3.heap.size, kk, none⟩) hs5).trans hc5)
             have HB6 := Lib.hid hb6
             clear hb6 hB6))
      all_goals (go_wp2_with fail; go_meet)
      all_goals first
        | (exact ⟨rfl, HB6.out⟩)
        | (exact ⟨rfl, HB5.out⟩)
    case rest =>
      obtain ⟨rfl, hBc⟩ := hcut
      have sU : ((edW (kk : Int) ++ ⟨#[32]⟩) ++ decT ii).size ≤ 26 := by rw [et_sz, et_sz]; have h1 : (⟨#[32]⟩ : ByteArray).size = 1 := rfl; omega
      clear HDA HW sW sA HP0 p0 p1 p2 p3 p4 p5
      have HPC := Lib.hid (fun W (hb : Below wc.heap.size wc W) => HPK.out W (hBc.trans (hb.mono hBc.size)))
      have HBC := Lib.hid (HB3.out.trans (hBc.mono HB3.out.size))
      have HGP := Lib.hid (fun W (hb : Below wc.heap.size wc W) => show GP4 W w.heap.size gs from ⟨_, (HPC.out W hb).2.2.2.2.1, HG.out W (HBC.out.trans (hb.mono HBC.out.size))⟩)
      have HLC := Lib.hid (fun W (hb : Below wc.heap.size wc W) => HL.out W (HBC.out.trans (hb.mono HBC.out.size)) (HGP.out W hb))
      have HUC := Lib.hid (fun W (hb : Below wc.heap.size wc W) => HUN.out W (HGP.out W hb))
      have HB := Lib.hid (Below.refl wc.heap.size wc)
      have hpt : (⟨(partW gs 0 (wordLen gs)).toArray⟩ : ByteArray) = parT gs := rfl
      rw [hpt] at HUC
      generalize (edW (kk : Int) ++ ⟨#[32]⟩) ++ decT ii = U at *
      generalize parT gs = PT at *
      generalize decT jj = J at *
      generalize decT tt = K at *
      obtain ⟨q0, q1, q2, q3, q4, q5⟩ := HPC.out wc HB.out
      clear hBc HPK HB3 HP3 HL HUN HG hpt
      have HKC : Hid ((((hasJ (kk : Int) = false ∧ hasK (kk : Int) = false) ∧ hasP (kk : Int) = true) ∧ hasM (kk : Int) = false) ∨ (((hasJ (kk : Int) = true ∧ hasK (kk : Int) = false) ∧ hasP (kk : Int) = false) ∧ hasM (kk : Int) = false) ∨ (((hasJ (kk : Int) = true ∧ hasK (kk : Int) = true) ∧ hasP (kk : Int) = false) ∧ hasM (kk : Int) = false) ∨ (((hasJ (kk : Int) = true ∧ hasK (kk : Int) = false) ∧ hasP (kk : Int) = false) ∧ hasM (kk : Int) = true)) := Lib.hid (by
        have := HKK.out
        obtain rfl | rfl | rfl | rfl | rfl | rfl | rfl : kk = 1 ∨ kk = 2 ∨ kk = 3 ∨ kk = 4 ∨ kk = 5 ∨ kk = 6 ∨ kk = 7 := by omega
        all_goals decide)
      rcases HKC.out with ⟨⟨⟨e1, e2⟩, e3⟩, e4⟩ | ⟨⟨⟨e1, e2⟩, e3⟩, e4⟩ | ⟨⟨⟨e1, e2⟩, e3⟩, e4⟩ | ⟨⟨⟨e1, e2⟩, e3⟩, e4⟩
      · rw [e1] at HH1
        rw [e2] at HH2
        rw [e3] at HH3
        rw [e4] at HH4
        rw [e1, e2, e3, e4] at HT
        have hpp := HPP.out
        rw [e3] at hpp
        have hgl := hpp.1 rfl
        by_cases hbig : 2000 < wordLen gs
        · have HTT : Hid (T = ⟨#[]⟩) := Lib.hid (by rw [HT.out, if_neg (by omega)])
          have hd : decide (2000 < wordLen gs) = true := decide_eq_true hbig
          generalize wordLen gs = WL at *
          clear HT hpp hbig HUC e1 e2 e3 e4
          go_wp2_with fail
          refine (HU.out _).mono ?_
          rintro e x0 ⟨rfl, hBx0⟩
          have HB := Lib.hid (HB.out.trans (hBx0.mono HB.out.size))
          obtain ⟨q0, q1, q2, q3, q4, q5⟩ := HPC.out x0 HB.out
          clear hBx0
          go_wp2_with fail
          refine (HH1.out _).mono ?_
          rintro e x1 ⟨rfl, hwx1⟩
          obtain rfl := hwx1.symm
          go_wp2_with fail
          refine (HH2.out _).mono ?_
          rintro e x2 ⟨rfl, hwx2⟩
          obtain rfl := hwx2.symm
          go_wp2_with fail
          refine (HH3.out _).mono ?_
          rintro e x3 ⟨rfl, hwx3⟩
          obtain rfl := hwx3.symm
          go_wp2_with fail
          refine (HLC.out _ HB.out).mono ?_
          rintro e x4 ⟨rfl, hBx4⟩
          have HB := Lib.hid (HB.out.trans (hBx4.mono HB.out.size))
          obtain ⟨q0, q1, q2, q3, q4, q5⟩ := HPC.out x4 HB.out
          clear hBx4
          go_wp2_with fail
          go_ret
          exact ⟨by rw [HTT.out]; rfl, HBC.out.trans (HB.out.mono HBC.out.size)⟩
        · have hTT : T = (U ++ (⟨#[32]⟩ ++ PT)) := by rw [HT.out, if_pos (by omega)]; rfl
          have hps := HPZ.out hgl
          have hd : decide (2000 < wordLen gs) = false := decide_eq_false hbig
          have HWL : Hid (wordLen gs ≤ 2000 ∧ 0 < gs.length) := Lib.hid ⟨by omega, hgl⟩
          have cc0 : (9223372036854775807 < 1 + PT.size) = False := by simp; omega
          have cc1 : (9223372036854775807 < U.size + (1 + PT.size)) = False := by simp; omega
          have HTT := Lib.hid hTT
          generalize wordLen gs = WL at *
          clear HT hTT hpp hbig hps e1 e2 e3 e4
          go_wp2_with fail
          refine (HU.out _).mono ?_
          rintro e x0 ⟨rfl, hBx0⟩
          have HB := Lib.hid (HB.out.trans (hBx0.mono HB.out.size))
          obtain ⟨q0, q1, q2, q3, q4, q5⟩ := HPC.out x0 HB.out
          clear hBx0
          go_wp2_with fail
          refine (HH1.out _).mono ?_
          rintro e x1 ⟨rfl, hwx1⟩
          obtain rfl := hwx1.symm
          go_wp2_with fail
          refine (HH2.out _).mono ?_
          rintro e x2 ⟨rfl, hwx2⟩
          obtain rfl := hwx2.symm
          go_wp2_with fail
          refine (HH3.out _).mono ?_
          rintro e x3 ⟨rfl, hwx3⟩
          obtain rfl := hwx3.symm
          go_wp2_with fail
          refine (HLC.out _ HB.out).mono ?_
          rintro e x4 ⟨rfl, hBx4⟩
          have HB := Lib.hid (HB.out.trans (hBx4.mono HB.out.size))
          obtain ⟨q0, q1, q2, q3, q4, q5⟩ := HPC.out x4 HB.out
          clear hBx4
          go_wp2_with fail
          refine (HLC.out _ HB.out).mono ?_
          rintro e x5 ⟨rfl, hBx5⟩
          have HB := Lib.hid (HB.out.trans (hBx5.mono HB.out.size))
          obtain ⟨q0, q1, q2, q3, q4, q5⟩ := HPC.out x5 HB.out
          clear hBx5
          go_wp2_with fail
          refine (HUC.out _ HB.out HWL.out.1 HWL.out.2).mono ?_
          rintro e x6 ⟨rfl, hBx6⟩
          have HB := Lib.hid (HB.out.trans (hBx6.mono HB.out.size))
          obtain ⟨q0, q1, q2, q3, q4, q5⟩ := HPC.out x6 HB.out
          clear hBx6
          go_wp2_with fail
          refine (HH4.out _).mono ?_
          rintro e x7 ⟨rfl, hwx7⟩
          obtain rfl := hwx7.symm
          go_wp2_with fail
          go_ret
          exact ⟨by rw [HTT.out]; rfl, HBC.out.trans (HB.out.mono HBC.out.size)⟩
      · rw [e1] at HH1
        rw [e2] at HH2
        rw [e3] at HH3
        rw [e4] at HH4
        rw [e1, e2, e3, e4] at HT
        have hpp := HPP.out
        rw [e3] at hpp
        have hwl0 := hpp.2 rfl
        have hTT : T = (U ++ (⟨#[32]⟩ ++ J)) := by rw [HT.out, if_pos (by omega)]; rfl
        have cc0 : (9223372036854775807 < 1 + J.size) = False := by simp; omega
        have cc1 : (9223372036854775807 < U.size + (1 + J.size)) = False := by simp; omega
        have HTT := Lib.hid hTT
        clear HT hTT hpp hwl0 e1 e2 e3 e4
        go_wp2_with fail
        refine (HU.out _).mono ?_
        rintro e x0 ⟨rfl, hBx0⟩
        have HB := Lib.hid (HB.out.trans (hBx0.mono HB.out.size))
        obtain ⟨q0, q1, q2, q3, q4, q5⟩ := HPC.out x0 HB.out
        clear hBx0
        go_wp2_with fail
        refine (HH1.out _).mono ?_
        rintro e x1 ⟨rfl, hwx1⟩
        obtain rfl := hwx1.symm
        go_wp2_with fail
        refine (HDJ.out _).mono ?_
        rintro e x2 ⟨rfl, hBx2⟩
        have HB := Lib.hid (HB.out.trans (hBx2.mono HB.out.size))
        obtain ⟨q0, q1, q2, q3, q4, q5⟩ := HPC.out x2 HB.out
        clear hBx2
        go_wp2_with fail
        refine (HH2.out _).mono ?_
        rintro e x3 ⟨rfl, hwx3⟩
        obtain rfl := hwx3.symm
        go_wp2_with fail
        refine (HH3.out _).mono ?_
        rintro e x4 ⟨rfl, hwx4⟩
        obtain rfl := hwx4.symm
        go_wp2_with fail
        refine (HH4.out _).mono ?_
        rintro e x5 ⟨rfl, hwx5⟩
        obtain rfl := hwx5.symm
        go_wp2_with fail
        go_ret
        exact ⟨by rw [HTT.out]; rfl, HBC.out.trans (HB.out.mono HBC.out.size)⟩
      · rw [e1] at HH1
        rw [e2] at HH2
        rw [e3] at HH3
        rw [e4] at HH4
        rw [e1, e2, e3, e4] at HT
        have hpp := HPP.out
        rw [e3] at hpp
        have hwl0 := hpp.2 rfl
        have hTT : T = ((U ++ (⟨#[32]⟩ ++ J)) ++ (⟨#[32]⟩ ++ K)) := by rw [HT.out, if_pos (by omega)]; rfl
        have cc0 : (9223372036854775807 < 1 + J.size) = False := by simp; omega
        have cc1 : (9223372036854775807 < U.size + (1 + J.size)) = False := by simp; omega
        have cc2 : (9223372036854775807 < 1 + K.size) = False := by simp; omega
        have cc3 : (9223372036854775807 < U.size + (1 + J.size) + (1 + K.size)) = False := by simp; omega
        have HTT := Lib.hid hTT
        clear HT hTT hpp hwl0 e1 e2 e3 e4
        go_wp2_with fail
        refine (HU.out _).mono ?_
        rintro e x0 ⟨rfl, hBx0⟩
        have HB := Lib.hid (HB.out.trans (hBx0.mono HB.out.size))
        obtain ⟨q0, q1, q2, q3, q4, q5⟩ := HPC.out x0 HB.out
        clear hBx0
        go_wp2_with fail
        refine (HH1.out _).mono ?_
        rintro e x1 ⟨rfl, hwx1⟩
        obtain rfl := hwx1.symm
        go_wp2_with fail
        refine (HDJ.out _).mono ?_
        rintro e x2 ⟨rfl, hBx2⟩
        have HB := Lib.hid (HB.out.trans (hBx2.mono HB.out.size))
        obtain ⟨q0, q1, q2, q3, q4, q5⟩ := HPC.out x2 HB.out
        clear hBx2
        go_wp2_with fail
        refine (HH2.out _).mono ?_
        rintro e x3 ⟨rfl, hwx3⟩
        obtain rfl := hwx3.symm
        go_wp2_with fail
        refine (HDT.out _).mono ?_
        rintro e x4 ⟨rfl, hBx4⟩
        have HB := Lib.hid (HB.out.trans (hBx4.mono HB.out.size))
        obtain ⟨q0, q1, q2, q3, q4, q5⟩ := HPC.out x4 HB.out
        clear hBx4
        go_wp2_with fail
        refine (HH3.out _).mono ?_
        rintro e x5 ⟨rfl, hwx5⟩
        obtain rfl := hwx5.symm
        go_wp2_with fail
        refine (HH4.out _).mono ?_
        rintro e x6 ⟨rfl, hwx6⟩
        obtain rfl := hwx6.symm
        go_wp2_with fail
        go_ret
        exact ⟨by rw [HTT.out]; rfl, HBC.out.trans (HB.out.mono HBC.out.size)⟩
      · rw [e1] at HH1
        rw [e2] at HH2
        rw [e3] at HH3
        rw [e4] at HH4
        rw [e1, e2, e3, e4] at HT
        have hpp := HPP.out
        rw [e3] at hpp
        have hwl0 := hpp.2 rfl
        have hTT : T = ((U ++ (⟨#[32]⟩ ++ J)) ++ (⟨#[32]⟩ ++ m)) := by rw [HT.out, if_pos (by omega)]; rfl
        have cc0 : (9223372036854775807 < 1 + J.size) = False := by simp; omega
        have cc1 : (9223372036854775807 < U.size + (1 + J.size)) = False := by simp; omega
        have cc2 : (9223372036854775807 < 1 + m.size) = False := by simp; omega
        have cc3 : (9223372036854775807 < U.size + (1 + J.size) + (1 + m.size)) = False := by simp; omega
        have HTT := Lib.hid hTT
        clear HT hTT hpp hwl0 e1 e2 e3 e4
        go_wp2_with fail
        refine (HU.out _).mono ?_
        rintro e x0 ⟨rfl, hBx0⟩
        have HB := Lib.hid (HB.out.trans (hBx0.mono HB.out.size))
        obtain ⟨q0, q1, q2, q3, q4, q5⟩ := HPC.out x0 HB.out
        clear hBx0
        go_wp2_with fail
        refine (HH1.out _).mono ?_
        rintro e x1 ⟨rfl, hwx1⟩
        obtain rfl := hwx1.symm
        go_wp2_with fail
        refine (HDJ.out _).mono ?_
        rintro e x2 ⟨rfl, hBx2⟩
        have HB := Lib.hid (HB.out.trans (hBx2.mono HB.out.size))
        obtain ⟨q0, q1, q2, q3, q4, q5⟩ := HPC.out x2 HB.out
        clear hBx2
        go_wp2_with fail
        refine (HH2.out _).mono ?_
        rintro e x3 ⟨rfl, hwx3⟩
        obtain rfl := hwx3.symm
        go_wp2_with fail
        refine (HH3.out _).mono ?_
        rintro e x4 ⟨rfl, hwx4⟩
        obtain rfl := hwx4.symm
        go_wp2_with fail
        refine (HH4.out _).mono ?_
        rintro e x5 ⟨rfl, hwx5⟩
        obtain rfl := hwx5.symm
        go_wp2_with fail
        go_ret
        exact ⟨by rw [HTT.out]; rfl, HBC.out.trans (HB.out.mono HBC.out.size)⟩
end Go.Proofs.YtcaeihdfljljbaaDoor
