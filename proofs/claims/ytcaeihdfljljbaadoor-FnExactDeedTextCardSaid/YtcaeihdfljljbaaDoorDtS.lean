/-
  The text of a deed. Walks: spec.l08Words, spec.DeedText.
-/
import Derived.Test.YtcaeihdfljljbaaDoorDecS
import Derived.Test.YtcaeihdfljljbaaDoorDdM
import Derived.Deep.DeepCutAuto
namespace Go.Proofs.YtcaeihdfljljbaaDoor
open Go.RowKit
open Wd
set_option linter.unusedVariables false
namespace Wd
/-- the words of the kinds -/
def ddW (k : Nat) : ByteArray := ([⟨#[]⟩, ⟨#[112, 117, 116]⟩, ⟨#[115, 97, 118, 101]⟩, ⟨#[99, 114, 97, 115, 104]⟩, ⟨#[111, 102, 102, 101, 114]⟩, ⟨#[97, 115, 107]⟩, ⟨#[100, 101, 108, 105, 118, 101, 114]⟩, ⟨#[99, 111, 112, 121]⟩, ⟨#[100, 114, 111, 112]⟩, ⟨#[115, 119, 101, 101, 112]⟩] : List ByteArray).getD k ⟨#[]⟩
/-- a blank and a number -/
def blT (n : Nat) : ByteArray := ⟨#[32]⟩ ++ decT n
/-- the text of a deed -/
def ddT (k a b c : Nat) : ByteArray :=
  let t := ddW k ++ blT a
  let u := if 1 < ddN (k : Int) then t ++ blT b else t
  if 2 < ddN (k : Int) then u ++ blT c else u
theorem ddW_size {k : Nat} (h : k ≤ 9) : (ddW k).size ≤ 7 := by
  obtain rfl | rfl | rfl | rfl | rfl | rfl | rfl | rfl | rfl | rfl : k = 0 ∨ k = 1 ∨ k = 2 ∨ k = 3 ∨ k = 4 ∨ k = 5 ∨ k = 6 ∨ k = 7 ∨ k = 8 ∨ k = 9 := by omega
  all_goals decide
theorem app_size (u t : ByteArray) : (u ++ t).size = u.size + t.size := ByteArray.size_append
theorem blT_size {n : Nat} (h : n ≤ 9223372036854775807) : (blT n).size ≤ 20 := by
  unfold blT
  rw [app_size]
  have := decT_size h
  have h1 : (⟨#[32]⟩ : ByteArray).size = 1 := rfl
  omega
theorem bl_first (u : ByteArray) (n : Nat) : (u ++ ⟨#[32]⟩) ++ decT n = u ++ blT n := by
  unfold blT
  exact ByteArray.append_assoc
end Wd
theorem words8_any (k : Nat) (w : World) (h : 1 ≤ k ∧ k ≤ 9) :
    Calls Tryd.prog 26 #[] w fun e w' => e = .returned (.slice (some ⟨w.heap.size, 0, none⟩) 10 10) ∧ Below w.heap.size w w' ∧ w'.cell? ⟨w.heap.size, k, none⟩ = some (.string (ddW k)) ∧ w.heap.size < w'.heap.size := by
  have hc : (w.alloc (.cells #[.string ⟨#[]⟩, .string ⟨#[112, 117, 116]⟩, .string ⟨#[115, 97, 118, 101]⟩, .string ⟨#[99, 114, 97, 115, 104]⟩, .string ⟨#[111, 102, 102, 101, 114]⟩, .string ⟨#[97, 115, 107]⟩, .string ⟨#[100, 101, 108, 105, 118, 101, 114]⟩, .string ⟨#[99, 111, 112, 121]⟩, .string ⟨#[100, 114, 111, 112]⟩, .string ⟨#[115, 119, 101, 101, 112]⟩] 9)).cell? ⟨w.heap.size, k, none⟩ = some (.string (ddW k)) := by
    rw [cell_of_row _ _ _ _ _ _ (heap_alloc_new w _)]
    obtain rfl | rfl | rfl | rfl | rfl | rfl | rfl | rfl | rfl : k = 1 ∨ k = 2 ∨ k = 3 ∨ k = 4 ∨ k = 5 ∨ k = 6 ∨ k = 7 ∨ k = 8 ∨ k = 9 := by omega
    all_goals rfl
  have HC := Lib.hid hc
  clear hc
  go_enter Tryd.func26, Tryd.ntmps26
  go_wp2
  go_ret
  exact ⟨rfl, (Below.refl _ _).alloc (Nat.le_refl _) _, HC.out, by simp⟩
set_option maxRecDepth 100000 in
set_option maxHeartbeats 12800000 in
theorem specDeedText (k a b c : Int) (w : World) :
    Calls Tryd.prog 7 #[.agg #[.int .i64 k, .int .i64 a, .int .i64 b, .int .i64 c]] w fun e w' => e = .returned (.string (if ddOk k a b c = true then ddT k.toNat a.toNat b.toNat c.toNat else ⟨#[]⟩)) ∧ Below w.heap.size w w' := by
  have hb0 := (Below.refl _ w).alloc (Nat.le_refl _) (.cells #[.int .i64 k, .int .i64 a, .int .i64 b, .int .i64 c] 25)
  have hP0 := heap_alloc_new w (.cells #[.int .i64 k, .int .i64 a, .int .i64 b, .int .i64 c] 25)
  have hs0 : w.heap.size < (w.alloc (.cells #[.int .i64 k, .int .i64 a, .int .i64 b, .int .i64 c] 25)).heap.size := by simp
  have HV := Lib.hid (fun W => specValidDeed k a b c W)
  have HB0 := Lib.hid hb0
  have HP0 := Lib.hid hP0
  have HS0 := Lib.hid hs0
  clear hb0 hP0 hs0
  cases hok : ddOk k a b c
  · rw [hok] at HV
    rw [if_neg (by decide)]
    clear hok
    go_enter Tryd.func7, Tryd.ntmps7
    go_wp2_with fail
    refine (HV.out _).mono ?_
    rintro e w1 ⟨rfl, hB1⟩
    have HB1 := Lib.hid (HB0.out.trans (hB1.mono (by simp)))
    clear hB1
    go_wp2_with fail
    go_ret
    exact ⟨rfl, HB1.out⟩
  · rw [hok] at HV
    rw [if_pos rfl]
    obtain ⟨⟨hk1, hk9⟩, ⟨ha0, ha1⟩, ⟨hb0, hb1⟩, hc0, hc1⟩ : (1 ≤ k ∧ k ≤ 9) ∧ (0 ≤ a ∧ a ≤ 999) ∧ (0 ≤ b ∧ b ≤ 999) ∧ (0 ≤ c ∧ c ≤ 999) := by
      unfold ddOk dnOk at hok
      simp only [Bool.and_eq_true, decide_eq_true_iff] at hok
      exact ⟨hok.1, hok.2.1, hok.2.2.1, hok.2.2.2.1⟩
    clear hok
    obtain ⟨kk, rfl⟩ : ∃ n : Nat, k = n := ⟨k.toNat, by omega⟩
    obtain ⟨aa, rfl⟩ : ∃ n : Nat, a = n := ⟨a.toNat, by omega⟩
    obtain ⟨bb, rfl⟩ : ∃ n : Nat, b = n := ⟨b.toNat, by omega⟩
    obtain ⟨cc, rfl⟩ : ∃ n : Nat, c = n := ⟨c.toNat, by omega⟩
    simp only [Int.toNat_natCast]
    obtain ⟨T, hT⟩ : ∃ T, T = ddT kk aa bb cc := ⟨_, rfl⟩
    rw [← hT]
    have HF := Lib.hid (fun W => fields8_any (kk : Int) W ⟨hk1, hk9⟩)
    have HW := Lib.hid (fun W => words8_any kk W (by omega))
    have HDA := Lib.hid (fun W => dec_any (aa + 1) aa W (by omega) (by omega))
    have HDB := Lib.hid (fun W => dec_any (bb + 1) bb W (by omega) (by omega))
    have HDC := Lib.hid (fun W => dec_any (cc + 1) cc W (by omega) (by omega))
    have sW := ddW_size (k := kk) (by omega)
    have sA := decT_size (n := aa) (by omega)
    have sB := decT_size (n := bb) (by omega)
    have sC := decT_size (n := cc) (by omega)
    have k0 : (0 : Int) ≤ (kk : Int) := by omega
    have k1 : (kk : Int) < 10 := by omega
    have HT := Lib.hid hT
    clear hT
    go_enter Tryd.func7, Tryd.ntmps7
    go_wp2_with fail
    refine (HV.out _).mono ?_
    rintro e w3 ⟨rfl, hB3⟩
    have HP3 := Lib.hid ((hB3.block w.heap.size HS0.out).trans HP0.out)
    have HB3 := Lib.hid (HB0.out.trans (hB3.mono (by simp)))
    have HS3 : Hid (w.heap.size < w3.heap.size) := Lib.hid (by have := hB3.size; have := HS0.out; omega)
    have HPK := Lib.hid (fun W (hb : Below w3.heap.size w3 W) => (dblk_cells ((hb.block w.heap.size HS3.out).trans HP3.out)).1)
    obtain ⟨⟨p0, p1, p2, p3⟩, _⟩ := dblk_cells HP3.out
    clear hB3
    go_upto_region 3 with fail
    go_cut [3] (fun s3 wx => s3 = .string (ddW kk ++ blT aa) ∧ Below w3.heap.size w3 wx)
    case first =>
      have hc1 : (9223372036854775807 < (ddW kk).size + 1) = False := by simp; omega
      have hc2 : (9223372036854775807 < (ddW kk).size + 1 + (decT aa).size) = False := by simp; omega
      have hc3 : (9223372036854775807 < (ddW kk ++ ⟨#[32]⟩).size + (decT aa).size) = False := by rw [app_size]; have h1 : (⟨#[32]⟩ : ByteArray).size = 1 := rfl; simp [h1]; omega
      clear HF HDB HDC HV sB sC HP3 HP0
      go_region_with
        (first
          | (go_at_call 26
             refine (HW.out _).mono ?_
             rintro e w5 ⟨rfl, hB5, hc5, hs5⟩
             (try have hc5 : w5.cell? ⟨w3.heap.size, kk, none⟩ = some (.string (ddW kk)) := hc5)
             (try have hs5 : w3.heap.size < w5.heap.size := hs5)
             have hb5 : Below w3.heap.size w3 w5 := by first | exact HB6.out.trans (hB5.mono HB6.out.size) | exact undrewD hB5
             obtain ⟨r0, r1, r2, r3⟩ := HPK.out w5 hb5
             have HB5 := Lib.hid hb5
             clear hb5 hB5)
          | (go_at_call 27
             refine (HDA.out _).mono ?_
             rintro e w6 ⟨rfl, hB6⟩
             have hb6 : Below w3.heap.size w3 w6 := by first | exact HB5.out.trans (hB6.mono HB5.out.size) | exact undrewD hB6
             obtain ⟨t0, t1, t2, t3⟩ := HPK.out w6 hb6
             (try have hx6 : w6.cell? ⟨w3.heap.size, kk, none⟩ = some (.string (ddW kk)) := (hB6.cell (p := ⟨w3.heap.size, kk, none⟩) hs5).trans hc5)
             have HB6 := Lib.hid hb6
             clear hb6 hB6))
      all_goals (go_wp2_with fail; go_meet)
      all_goals first
        | (exact ⟨by rw [bl_first], HB6.out⟩)
        | (exact ⟨by rw [bl_first], HB5.out⟩)
    case rest =>
      obtain ⟨rfl, hBc⟩ := hcut
      have HE : Hid (T = if 2 < ddN (kk : Int) then (if 1 < ddN (kk : Int) then (ddW kk ++ blT aa) ++ blT bb else ddW kk ++ blT aa) ++ blT cc else (if 1 < ddN (kk : Int) then (ddW kk ++ blT aa) ++ blT bb else ddW kk ++ blT aa)) := Lib.hid HT.out
      have sU : (ddW kk ++ blT aa).size ≤ 27 := by rw [app_size]; have := blT_size (n := aa) (by omega); omega
      have eB : blT bb = ⟨#[32]⟩ ++ decT bb := rfl
      have eC : blT cc = ⟨#[32]⟩ ++ decT cc := rfl
      have HEB := Lib.hid (And.intro eB eC)
      clear eB eC HT HDA HW HP0 HB0 p0 p1 p2 p3
      have HPC := Lib.hid (fun W (hb : Below wc.heap.size wc W) => HPK.out W (hBc.trans (hb.mono hBc.size)))
      have HBC := Lib.hid (HB3.out.trans (hBc.mono HB3.out.size))
      clear hBc HPK HB3 HP3
      generalize ddN (kk : Int) = N at *
      generalize ddW kk ++ blT aa = U at *
      have c1 : (9223372036854775807 < 1 + (decT bb).size) = False := by simp; omega
      have c2 : (9223372036854775807 < U.size + (1 + (decT bb).size)) = False := by simp; omega
      have c3 : (9223372036854775807 < U.size + ((⟨#[32]⟩ : ByteArray) ++ decT bb).size) = False := by rw [app_size]; have h1 : (⟨#[32]⟩ : ByteArray).size = 1 := rfl; simp [h1]; omega
      have c4 : (9223372036854775807 < 1 + (decT cc).size) = False := by simp; omega
      have c5 : (9223372036854775807 < U.size + (1 + (decT cc).size)) = False := by simp; omega
      have c6 : (9223372036854775807 < U.size + ((⟨#[32]⟩ : ByteArray) ++ decT cc).size) = False := by rw [app_size]; have h1 : (⟨#[32]⟩ : ByteArray).size = 1 := rfl; simp [h1]; omega
      have c7 : (9223372036854775807 < (U ++ ((⟨#[32]⟩ : ByteArray) ++ decT bb)).size + ((⟨#[32]⟩ : ByteArray) ++ decT cc).size) = False := by simp only [app_size]; have h1 : (⟨#[32]⟩ : ByteArray).size = 1 := rfl; simp [h1]; omega
      have c8 : (9223372036854775807 < U.size + (1 + (decT bb).size) + (1 + (decT cc).size)) = False := by simp; omega
      obtain ⟨q0, q1, q2, q3⟩ := HPC.out wc (Below.refl _ _)
      by_cases h1 : 1 < N
      · have h1' : decide (1 < N) = true := decide_eq_true h1
        by_cases h2 : 2 < N
        · have h2' : decide (2 < N) = true := decide_eq_true h2
          have HR : Hid (T = (U ++ (⟨#[32]⟩ ++ decT bb)) ++ (⟨#[32]⟩ ++ decT cc)) := Lib.hid (by rw [HE.out, if_pos h1, if_pos h2, HEB.out.1, HEB.out.2])
          clear h1 h2
          go_wp2_with fail
          refine (HF.out _).mono ?_
          rintro e w4 ⟨rfl, hB4⟩
          obtain ⟨r0, r1, r2, r3⟩ := HPC.out w4 hB4
          have HB4 := Lib.hid hB4
          clear hB4
          go_wp2_with fail
          refine (HDB.out _).mono ?_
          rintro e w5 ⟨rfl, hB5⟩
          have HB5 := Lib.hid (HB4.out.trans (hB5.mono HB4.out.size))
          obtain ⟨s0, s1, s2, s3⟩ := HPC.out w5 HB5.out
          clear hB5
          go_wp2_with fail
          refine (HF.out _).mono ?_
          rintro e w6 ⟨rfl, hB6⟩
          have HB6 := Lib.hid (HB5.out.trans (hB6.mono HB5.out.size))
          obtain ⟨t0, t1, t2, t3⟩ := HPC.out w6 HB6.out
          clear hB6
          go_wp2_with fail
          refine (HDC.out _).mono ?_
          rintro e w7 ⟨rfl, hB7⟩
          have HB7 := Lib.hid (HBC.out.trans ((HB6.out.trans (hB7.mono HB6.out.size)).mono HBC.out.size))
          clear hB7
          go_wp2_with fail
          go_ret
          exact ⟨by rw [HR.out]; rfl, HB7.out⟩
        · have h2' : decide (2 < N) = false := decide_eq_false h2
          have HR : Hid (T = U ++ (⟨#[32]⟩ ++ decT bb)) := Lib.hid (by rw [HE.out, if_neg h2, if_pos h1, HEB.out.1])
          clear h1 h2
          go_wp2_with fail
          refine (HF.out _).mono ?_
          rintro e w4 ⟨rfl, hB4⟩
          obtain ⟨r0, r1, r2, r3⟩ := HPC.out w4 hB4
          have HB4 := Lib.hid hB4
          clear hB4
          go_wp2_with fail
          refine (HDB.out _).mono ?_
          rintro e w5 ⟨rfl, hB5⟩
          have HB5 := Lib.hid (HB4.out.trans (hB5.mono HB4.out.size))
          obtain ⟨s0, s1, s2, s3⟩ := HPC.out w5 HB5.out
          clear hB5
          go_wp2_with fail
          refine (HF.out _).mono ?_
          rintro e w6 ⟨rfl, hB6⟩
          have HB6 := Lib.hid (HBC.out.trans ((HB5.out.trans (hB6.mono HB5.out.size)).mono HBC.out.size))
          clear hB6
          go_wp2_with fail
          go_ret
          exact ⟨by rw [HR.out]; rfl, HB6.out⟩
      · have h1' : decide (1 < N) = false := decide_eq_false h1
        have h2' : decide (2 < N) = false := decide_eq_false (by omega)
        have HR : Hid (T = U) := Lib.hid (by rw [HE.out, if_neg (by omega), if_neg h1])
        clear h1
        go_wp2_with fail
        refine (HF.out _).mono ?_
        rintro e w4 ⟨rfl, hB4⟩
        obtain ⟨r0, r1, r2, r3⟩ := HPC.out w4 hB4
        have HB4 := Lib.hid hB4
        clear hB4
        go_wp2_with fail
        refine (HF.out _).mono ?_
        rintro e w6 ⟨rfl, hB6⟩
        have HB6 := Lib.hid (HBC.out.trans ((HB4.out.trans (hB6.mono HB4.out.size)).mono HBC.out.size))
        clear hB6
        go_wp2_with fail
        go_ret
        exact ⟨by rw [HR.out]; rfl, HB6.out⟩
end Go.Proofs.YtcaeihdfljljbaaDoor
