/-
  Walk: impl.FactorsText.
-/
import Derived.Test.YtcaeihdfljljbaaDoorFxS
import Derived.Test.YtcaeihdfljljbaaDoorBldE
namespace Go.Proofs.YtcaeihdfljljbaaDoor
open Go.RowKit
open Wd
set_option linter.unusedVariables false
abbrev byT (t : ByteArray) : List UInt8 := t.data.toList
theorem byT_app (u t : ByteArray) : byT (u ++ t) = byT u ++ byT t := by simp [byT]
theorem byT_len (u : ByteArray) : (byT u).length = u.size := Array.length_toList
/-- between two factors -/
def FxRel (gs : List Rl) (w1 : World) (b : Nat) (i : Value) (wr : World) : Prop :=
  ∃ k : Nat, k ≤ gs.length ∧ i = .int .i64 k ∧ Bld b b (byT (fsT (gs.take k))) wr ∧ Below b w1 wr
set_option maxRecDepth 100000 in
set_option maxHeartbeats 12800000 in
theorem implFactorsText (v : Value) (gs : List Rl) (w : World) (hf : FewR gs) (hr : Rules w v gs) (hw : WfF gs) (ht : Pow10 w) :
    Calls Tryd.prog 13 #[v] w fun e w' => e = .returned (.string (if facOk gs = true then fsT gs else ⟨#[]⟩)) ∧ Below w.heap.size w w' := by
  have HV := Lib.hid (implValidFactors v gs w hf hr hw)
  have HTB := Lib.hid (fun W (hb : Below w.heap.size w W) => ht.kept hb)
  have hn := hf.len
  obtain ⟨A, c, rfl, hrr⟩ := hr
  cases hok : facOk gs
  · rw [hok] at HV
    rw [if_neg (by decide)]
    clear hok
    go_enter Tryd.func13, Tryd.ntmps13
    go_wp2_with fail
    refine HV.out.mono ?_
    rintro e w1 ⟨rfl, hB1⟩
    have HB1 := Lib.hid hB1
    clear hB1
    go_wp2_with fail
    go_ret
    exact ⟨rfl, HB1.out⟩
  · have hO := OkF.of hok
    rw [hok] at HV
    rw [if_pos rfl]
    have HR := Lib.hid hrr
    have HO := Lib.hid hO
    obtain ⟨n, hng⟩ : ∃ n, n = gs.length := ⟨_, rfl⟩
    rw [← hng] at hn HV ⊢
    have HN := Lib.hid hng
    clear hrr hok hO hng hf hw ht
    go_enter Tryd.func13, Tryd.ntmps13
    go_wp2_with fail
    refine HV.out.mono ?_
    rintro e w1 ⟨rfl, hB1⟩
    have HB1 := Lib.hid hB1
    obtain ⟨b, hbe⟩ : ∃ b, b = w1.heap.size := ⟨_, rfl⟩
    have hb2 := (Below.refl _ w1).alloc (Nat.le_refl _) (.cells #[.pointer none, .slice none 0 0] 79)
    have hbd : Bld w1.heap.size w1.heap.size [] (w1.alloc (.cells #[.pointer none, .slice none 0 0] 79)) := Lib.IsBuilderF.of (Lib.fresh_isBuilder _ _ w1)
    rw [← hbe] at hb2 hbd
    have HB2 := Lib.hid hb2
    have HBD := Lib.hid hbd
    have HWB : Hid (∀ W, Below b w1 W → Below w.heap.size w W) := Lib.hid (fun W h => HB1.out.trans (h.mono (by rw [hbe]; exact HB1.out.size)))
    have HBZ : Hid (b = w1.heap.size) := Lib.hid hbe
    clear hB1 hb2 hbd HV
    go_upto_region 4 with fail
    rw [← hbe]
    clear hbe
    generalize w1.alloc (.cells #[.pointer none, .slice none 0 0] 79) = w2 at *
    go_wp2_with fail
    go_loopw [11] (fun i wr => FxRel gs w1 b i wr) (fun i _ => n - (intOf i).toNat)
    case atStart => exact ⟨0, Nat.zero_le _, rfl, HBD.out, HB2.out⟩
    case round =>
      obtain ⟨k, hk, rfl, hbd, hB⟩ := hrel
      obtain ⟨wo, rfl⟩ : ∃ wo : World, wo = wr := ⟨_, rfl⟩
      rw [← HN.out] at hk
      have hbw := (bld_lt hbd).2
      by_cases hlt : k < n
      · have hkg : k < gs.length := by rw [← HN.out]; exact hlt
        rcases HR.out with h0 | ⟨g, rfl, hg, hc⟩
        · rw [h0] at hkg; simp at hkg
        obtain ⟨a0, a1, a2⟩ := rules_cells hc hkg
        have hBw := HWB.out _ hB
        rw [← hBw.cell (p := ⟨g, k * 3, none⟩) hg] at a0
        rw [← hBw.cell (p := ⟨g, k * 3 + 1, none⟩) hg] at a1
        rw [← hBw.cell (p := ⟨g, k * 3 + 2, none⟩) hg] at a2
        have hsn := fsT_take gs k hkg
        have hx := HO.out.all k hkg
        have hU := HO.out.size k
        have t1 : (0 : Int) ≤ (k : Int) := by omega
        have t2 : (k : Int) < (n : Int) := by omega
        have HKN : Hid (k + 1 ≤ n) := Lib.hid (by omega)
        have HREL : Hid (∀ t W, fsT (gs.take (k + 1)) = t → Bld b b (byT t) W → Below b w1 W → FxRel gs w1 b (.int .i64 ((k + 1 : Nat) : Int)) W) := Lib.hid (fun t W h1 h2 h3 => ⟨k + 1, by have := HKN.out; have := HN.out; omega, rfl, by rw [h1]; exact h2, h3⟩)
        generalize fsT (gs.take k) = U at *
        generalize fsT (gs.take (k + 1)) = U2 at *
        generalize gs[k] = x at *
        obtain ⟨L, l, r⟩ := x
        simp only at a0 a1 a2
        have hb4 := hB.alloc (Nat.le_of_lt hbw) (.cells #[.string L, .int .i64 l, .int .i64 r] 74)
        have hbk := (Below.refl _ wo).alloc (Nat.le_refl _) (.cells #[.string L, .int .i64 l, .int .i64 r] 74)
        have hbd4 := bld_kept hbd hbk
        have HR4 := Lib.hid (heap_alloc_new wo (.cells #[.string L, .int .i64 l, .int .i64 r] 74))
        have HRS := Lib.hid (show wo.heap.size < (wo.alloc (.cells #[.string L, .int .i64 l, .int .i64 r] 74)).heap.size by simp)
        obtain ⟨R, hR⟩ : ∃ R, R = wo.heap.size := ⟨_, rfl⟩
        have HB4 := Lib.hid hb4
        have HBD4 := Lib.hid hbd4
        have HRB : Hid (b < R) := Lib.hid (by rw [hR]; exact hbw)
        clear hc hg hBw hb4 hbk hbd4 hbd hB
        go_upto_region 7 with fail
        rw [← hR] at HR4 HRS ⊢
        clear hR hbw a0 a1 a2
        generalize wo.alloc (.cells #[.string L, .int .i64 l, .int .i64 r] 74) = w4 at *
        have r0 : w4.cell? ⟨R, 0, none⟩ = some (.string L) := by rw [cell_of_row _ _ _ _ _ _ HR4.out]; rfl
        have r1 : w4.cell? ⟨R, 1, none⟩ = some (.int .i64 l) := by rw [cell_of_row _ _ _ _ _ _ HR4.out]; rfl
        have r2 : w4.cell? ⟨R, 2, none⟩ = some (.int .i64 r) := by rw [cell_of_row _ _ _ _ _ _ HR4.out]; rfl
        have HSZ : Hid (b ≤ w4.heap.size) := Lib.hid (Nat.le_of_lt (Nat.lt_trans HRB.out HRS.out))
        rcases hx with ⟨hL, ⟨hl0, hl1⟩, hr0, hr1⟩ | ⟨cc, hL⟩
        · simp only at hL hl0 hl1 hr0 hr1
          subst hL
          obtain ⟨l, rfl⟩ : ∃ m : Nat, l = m := ⟨l.toNat, by omega⟩
          obtain ⟨r, rfl⟩ : ∃ m : Nat, r = m := ⟨r.toNat, by omega⟩
          have HSN : Hid (U2 = U ++ (((decT l ++ ⟨#[32]⟩) ++ decT r) ++ ⟨#[10]⟩)) := Lib.hid (by rw [hsn]; rfl)
          have HLR : Hid (l ≤ 1000000000000000 ∧ r ≤ 1000000000000000) := Lib.hid (by omega)
          have s1 := decT_size (n := l) (by omega)
          have s2 := decT_size (n := r) (by omega)
          have HTS : Hid ((((decT l ++ ⟨#[32]⟩) ++ decT r) ++ ⟨#[10]⟩ : ByteArray).size ≤ 60) := Lib.hid (by
            rw [fx_sz, fx_sz, fx_sz]
            have e1 : (⟨#[32]⟩ : ByteArray).size = 1 := rfl
            have e2 : (⟨#[10]⟩ : ByteArray).size = 1 := rfl
            omega)
          have c1 : (9223372036854775807 < (decT l).size + 1) = False := by simp; omega
          have c2 : (9223372036854775807 < (decT l).size + 1 + (decT r).size) = False := by simp; omega
          have c3 : (9223372036854775807 < (decT l).size + 1 + (decT r).size + 1) = False := by simp; omega
          have HWS := Lib.hid (fun W (h1 : Bld b b (byT U) W) (h2 : b ≤ W.heap.size) => Tryd.wstr b b (Lib.byteCells (byT U)) (((decT l ++ ⟨#[32]⟩) ++ decT r) ++ ⟨#[10]⟩) W h1 (by rw [Lib.byteCells_length, byT_len]; have := HTS.out; omega) h2)
          have HNB : Hid (∀ W, Lib.BuilderAtF 79 5 b b (.pointer (some ⟨b, 0, none⟩)) (Lib.byteCells (byT U) ++ Lib.strCells (((decT l ++ ⟨#[32]⟩) ++ decT r) ++ ⟨#[10]⟩)) W → Bld b b (byT (U ++ (((decT l ++ ⟨#[32]⟩) ++ decT r) ++ ⟨#[10]⟩))) W) := Lib.hid (fun W h => by
            unfold Bld
            rw [byT_app, byteCells_app]
            exact .inr h)
          have HF := Lib.hid (fun q (h : q ≤ 1000000000000000) W (hb : Below b w1 W) => formatN q W (by omega) (HTB.out W (HWB.out W hb)))
          have HK := Lib.hid (fun W (hb : Below w4.heap.size w4 W) => And.intro ((hb.cell (p := ⟨R, 1, none⟩) HRS.out).trans r1) ((hb.cell (p := ⟨R, 2, none⟩) HRS.out).trans r2))
          have HC := Lib.hid (And.intro r1 r2)
          have HB := Lib.hid (Below.refl w4.heap.size w4)
          have HKO : Hid (∀ W W', Below w4.heap.size w4 W → Oth8 b W W' → W'.cell? ⟨R, 1, none⟩ = some (.int .i64 (l : Int)) ∧ W'.cell? ⟨R, 2, none⟩ = some (.int .i64 (r : Int))) := Lib.hid (fun W W' hb ho => by
            have h1 := ho R _ ((hb.block R HRS.out).trans HR4.out) (by have := HRB.out; simp; omega) (by intro c fz h; injection h with _ h2 _; exact absurd h2 (by decide))
            exact ⟨by rw [cell_of_row _ _ _ _ _ _ h1]; rfl, by rw [cell_of_row _ _ _ _ _ _ h1]; rfl⟩)
          have HP := Lib.hid (fun W (hb : Below w4.heap.size w4 W) => And.intro (HB4.out.trans (hb.mono HSZ.out)) (And.intro (bld_kept HBD4.out hb) (Nat.le_trans HSZ.out hb.size)))
          clear hsn hl0 hl1 hr0 hr1 s1 s2 hU
          go_upto_region 9 with fail
          go_region_held3 (fun w' => w'.cell? ⟨R, 1, none⟩ = some (.int .i64 (l : Int)) ∧ w'.cell? ⟨R, 2, none⟩ = some (.int .i64 (r : Int)))
            (first | (with_reducible exact HC.out) | (with_reducible go_keep) | exact HC.out | go_keep)
            (first
              | (go_at_call 38
                 refine (HF.out _ ?_ _ ?_).mono ?_
                 (first | exact HLR.out.1 | exact HLR.out.2)
                 (first | (with_reducible exact (HP.out _ HB.out).1) | (with_reducible exact below_drewN (HP.out _ HB.out).1 1) | exact below_drewN (HP.out _ HB.out).1 _)
                 rintro e w5 ⟨rfl, hB5⟩
                 have HB := Lib.hid (show Below w4.heap.size w4 w5 from by first | (with_reducible exact HB.out.trans (hB5.mono HB.out.size)) | (with_reducible exact HB.out.trans ((undrewF hB5).mono HB.out.size)) | exact HB.out.trans ((below_undrew hB5).mono HB.out.size))
                 have HC := Lib.hid (HK.out w5 HB.out)
                 clear hB5)
              | (go_at_call 37
                 refine (HWS.out _ (HP.out _ HB.out).2.1 (HP.out _ HB.out).2.2).mono ?_
                 rintro e w7 ⟨rfl, hbd7, hB7, hO7⟩
                 have HC := Lib.hid (HKO.out _ w7 HB.out hO7)
                 have HST := Lib.hid (HREL.out _ w7 HSN.out (HNB.out _ hbd7) ((HP.out _ HB.out).1.trans hB7))
                 clear hbd7 hB7 hO7))
          all_goals
            go_wp2_with fail
            go_roundw
          all_goals first | exact HST.out | ((repeat apply Exists.intro); exact ⟨HST.out, rfl⟩) | (have := HST.out; simpa using this) | (simp [intOf]; done) | (simp [intOf]; have := HKN.out; omega) | (have := HKN.out; omega)
        · simp only at hL
          subst hL
          have HSN : Hid (U2 = U ++ (⟨#[cc]⟩ ++ ⟨#[10]⟩)) := Lib.hid (by rw [hsn]; rfl)
          have hcat : (⟨#[cc]⟩ ++ ⟨#[10]⟩ : ByteArray) = ⟨#[cc, 10]⟩ := rfl
          rw [hcat] at HSN
          have HWS := Lib.hid (fun W (h1 : Bld b b (byT U) W) (h2 : b ≤ W.heap.size) => Tryd.wstr b b (Lib.byteCells (byT U)) ⟨#[cc, 10]⟩ W h1 (by rw [Lib.byteCells_length, byT_len]; have : (⟨#[cc, 10]⟩ : ByteArray).size = 2 := rfl; omega) h2)
          have HNB : Hid (∀ W, Lib.BuilderAtF 79 5 b b (.pointer (some ⟨b, 0, none⟩)) (Lib.byteCells (byT U) ++ Lib.strCells ⟨#[cc, 10]⟩) W → Bld b b (byT (U ++ ⟨#[cc, 10]⟩)) W) := Lib.hid (fun W h => by
            unfold Bld
            rw [byT_app, byteCells_app]
            exact .inr h)
          clear hsn hU hcat
          go_wp2_with fail
          refine (HWS.out _ HBD4.out HSZ.out).mono ?_
          rintro e w7 ⟨rfl, hbd7, hB7, _⟩
          have HST := Lib.hid (HREL.out _ w7 HSN.out (HNB.out _ hbd7) (HB4.out.trans hB7))
          clear hbd7 hB7 r0 r1 r2
          go_wp2_with fail
          go_roundw
          all_goals first | exact HST.out | ((repeat apply Exists.intro); exact ⟨HST.out, rfl⟩) | (have := HST.out; simpa using this) | (simp [intOf]; done) | (simp [intOf]; have := HKN.out; omega) | (have := HKN.out; omega)
      · obtain rfl : k = n := by omega
        have hE : fsT (gs.take k) = fsT gs := by rw [List.take_of_length_le (by have := HN.out; omega)]
        rw [hE] at hbd
        have HS := Lib.hid (Tryd.bstr b b (byT (fsT gs)) wo hbd (Nat.le_of_lt hbw))
        have HB := Lib.hid hB
        obtain ⟨T, hT⟩ : ∃ T, T = fsT gs := ⟨_, rfl⟩
        rw [← hT] at HS
        have HE := Lib.hid hT
        clear hE hbd hB hT
        go_wp2_with fail
        refine HS.out.mono ?_
        rintro e w8 ⟨rfl, _, hB8, _⟩
        have HB8 := Lib.hid (HWB.out _ (HB.out.trans hB8))
        clear hB8
        go_wp2_with fail
        go_ret
        exact ⟨by rw [← HE.out]; rfl, HB8.out⟩
end Go.Proofs.YtcaeihdfljljbaaDoor
