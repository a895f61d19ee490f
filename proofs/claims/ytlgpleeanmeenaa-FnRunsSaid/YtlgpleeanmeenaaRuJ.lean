/-
  Walk: impl.WordOfRuns.
-/
import Derived.Test.YtlgpleeanmeenaaRuI
import Derived.Test.YtlgpleeanmeenaaBldD
import Derived.Deep.QuietTactic
import Derived.BigQuiet
namespace Go.Proofs.Ytlgpleeanmeenaa
open Go.RowKit
open Wd
set_option linter.unusedVariables false
/-- between two runs -/
def WuRel (gs : List Ru) (w1 : World) (b : Nat) (i : Value) (wr : World) : Prop :=
  ∃ k : Nat, k ≤ gs.length ∧ i = .int .i64 k ∧ totU (gs.take k) ≤ 2000 ∧ Bld b b (wordU (gs.take k)) wr ∧ Below b w1 wr
set_option maxRecDepth 100000 in
set_option maxHeartbeats 12800000 in
theorem implWordOfRuns (v : Value) (gs : List Ru) (w : World) (hf : FewU gs) (hr : Runs w v gs) :
    Calls Try.prog 35 #[v] w fun e w' => e = .returned (.tuple #[.string ⟨(ruA gs).1.toArray⟩, .int .i64 (ruA gs).2]) ∧ Below w.heap.size w w' := by
  have HFA := Lib.hid (runsFault_any v gs w hf hr)
  obtain ⟨A, c, rfl, hrr⟩ := hr
  have hn := hf.len
  have HR := Lib.hid hrr
  have HF := Lib.hid hf
  by_cases hz : ruF gs = 0
  case neg =>
    have hans : ruA gs = ([], ruF gs) := by unfold ruA; rw [if_neg hz]
    rw [hans]
    generalize ruF gs = f at *
    have hz' : (f != 0) = true := by simpa using hz
    clear hrr hf hz hans
    go_enter Try.func35, Try.ntmps35
    go_wp2_with fail
    refine HFA.out.mono ?_
    rintro e w1 ⟨rfl, hB1⟩
    have HB1 := Lib.hid hB1
    clear hB1
    go_wp2_with fail
    go_ret2
    exact ⟨rfl, HB1.out⟩
  case pos =>
    rw [hz] at HFA
    have HZ := Lib.hid hz
    have H0 : Hid (∀ j (hj : j < gs.length), runL gs[j] = true) := Lib.hid (fun j hj => by
      rcases hq : runL gs[j] with _ | _
      · have := ruG_one hj hq; omega
      · rfl)
    have H1 : Hid (∀ j (hj : j < gs.length), runC gs[j] = true) := Lib.hid (fun j hj => by
      rcases hq : runC gs[j] with _ | _
      · have := ruG_two hj H0.out hq; omega
      · rfl)
    obtain ⟨ans, hans⟩ : ∃ ans, ans = ruA gs := ⟨_, rfl⟩
    rw [← hans]
    have HA := Lib.hid hans
    obtain ⟨n, hng⟩ : ∃ n, n = gs.length := ⟨_, rfl⟩
    rw [← hng] at hn HFA ⊢
    have HN := Lib.hid hng
    clear hrr hf hz hans hng
    go_enter Try.func35, Try.ntmps35
    go_wp2_with fail
    refine HFA.out.mono ?_
    rintro e w1 ⟨rfl, hB1⟩
    have HB1 := Lib.hid hB1
    obtain ⟨b, hbe⟩ : ∃ b, b = w1.heap.size := ⟨_, rfl⟩
    have hb2 := (Below.refl _ w1).alloc (Nat.le_refl _) (.cells #[.pointer none, .slice none 0 0] 120)
    have hbd : Bld w1.heap.size w1.heap.size [] (w1.alloc (.cells #[.pointer none, .slice none 0 0] 120)) := Lib.IsBuilderF.of (Lib.fresh_isBuilder _ _ w1)
    rw [← hbe] at hb2 hbd
    have HB2 := Lib.hid hb2
    have HBD := Lib.hid hbd
    have HWB : Hid (∀ W, Below b w1 W → Below w.heap.size w W) := Lib.hid (fun W h => HB1.out.trans (h.mono (by rw [hbe]; exact HB1.out.size)))
    have HBZ : Hid (b = w1.heap.size) := Lib.hid hbe
    clear hB1 hb2 hbd
    go_upto_region 5 with fail
    rw [← hbe]
    clear hbe
    generalize w1.alloc (.cells #[.pointer none, .slice none 0 0] 120) = w2 at *
    go_wp2_with fail
    go_loopw [15] (fun i wr => WuRel gs w1 b i wr) (fun i _ => n - (intOf i).toNat)
    case atStart => exact ⟨0, Nat.zero_le _, rfl, by simp [totU], HBD.out, HB2.out⟩
    case round =>
      obtain ⟨k, hk, rfl, htot, hbd, hB⟩ := hrel
      obtain ⟨wo, rfl⟩ : ∃ wo : World, wo = wr := ⟨_, rfl⟩
      rw [← HN.out] at hk
      have hbw := (bld_lt hbd).2
      by_cases hlt : k < n
      · have hkg : k < gs.length := by rw [← HN.out]; exact hlt
        rcases HR.out with h0 | ⟨g, rfl, hg, hc⟩
        · rw [h0] at hkg; simp at hkg
        obtain ⟨a0, a1⟩ := runs_cells hc hkg
        have hBw := HWB.out _ hB
        rw [← hBw.cell (p := ⟨g, k * 2, none⟩) hg] at a0
        rw [← hBw.cell (p := ⟨g, k * 2 + 1, none⟩) hg] at a1
        have hl1 : gs[k].L.size = 1 := by
          have := H0.out k hkg
          unfold runL at this
          rw [Bool.and_eq_true, decide_eq_true_iff] at this
          exact this.1
        have hc1 : 1 ≤ gs[k].l := of_decide_eq_true (H1.out k hkg)
        have hle := totU_le H1.out k
        have hTK := totU_take hkg
        have hWK := wordU_take hkg
        have hWL := wordU_len H0.out H1.out k (by omega)
        have HLG : Hid (2000 - totU (gs.take k) < gs[k].l → ans = ([], 3)) := Lib.hid (fun h => by
          rw [HA.out]
          exact ruA_long hkg HZ.out H1.out (by omega))
        have HX : Hid (∀ ct : Nat, gs[k].l = (ct : Int) → wordU (gs.take (k + 1)) = wordU (gs.take k) ++ Lib.repeatL gs[k].L.data.toList ct) := Lib.hid (fun ct h => by rw [hWK, h, Int.toNat_natCast])
        obtain ⟨T, hT⟩ : ∃ T, T = totU (gs.take k) := ⟨_, rfl⟩
        obtain ⟨T2, hT2⟩ : ∃ T2, T2 = totU (gs.take (k + 1)) := ⟨_, rfl⟩
        rw [← hT] at htot hle hWL HLG hTK
        rw [← hT2] at hTK
        have HT2 := Lib.hid hT2
        obtain ⟨u, hu⟩ : ∃ u, u = wordU (gs.take k) := ⟨_, rfl⟩
        obtain ⟨u2, hu2⟩ : ∃ u2, u2 = wordU (gs.take (k + 1)) := ⟨_, rfl⟩
        rw [← hu] at hbd hWL HX
        rw [← hu2] at HX
        have HU2 := Lib.hid hu2
        generalize gs[k] = x at *
        obtain ⟨L, l⟩ := x
        simp only at a0 a1 hl1 hc1 HLG HX hTK
        have hb4 := hB.alloc (Nat.le_of_lt hbw) (.cells #[.string L, .int .i64 l] 73)
        have hbk := (Below.refl _ wo).alloc (Nat.le_refl _) (.cells #[.string L, .int .i64 l] 73)
        have hbd4 := bld_kept hbd hbk
        have HR4 := Lib.hid (heap_alloc_new wo (.cells #[.string L, .int .i64 l] 73))
        have HRS := Lib.hid (show wo.heap.size < (wo.alloc (.cells #[.string L, .int .i64 l] 73)).heap.size by simp)
        obtain ⟨R, hR⟩ : ∃ R, R = wo.heap.size := ⟨_, rfl⟩
        have HB4 := Lib.hid hb4
        have HBD4 := Lib.hid hbd4
        have HRB : Hid (b < R) := Lib.hid (by rw [hR]; exact hbw)
        clear hc hg hBw hWK hT hT2 hu hu2 hb4 hbk hbd4 hbd hB
        go_upto_region 8 with fail
        rw [← hR] at HR4 HRS ⊢
        clear hR hbw
        generalize wo.alloc (.cells #[.string L, .int .i64 l] 73) = w4 at *
        have r0 : w4.cell? ⟨R, 0, none⟩ = some (.string L) := by rw [cell_of_row _ _ _ _ _ _ HR4.out]; rfl
        have r1 : w4.cell? ⟨R, 1, none⟩ = some (.int .i64 l) := by rw [cell_of_row _ _ _ _ _ _ HR4.out]; rfl
        have hlen : ((Lib.byteCells u).length : Int) = T := by rw [Lib.byteCells_length]; exact hWL
        have HLE : Hid (∀ m, Calls Try.prog 92 #[.pointer (some ⟨b, 0, none⟩)] (w4.drewN m) fun e w' => e = .returned (.int .i64 T) ∧ w' = w4.drewN m) := Lib.hid (fun m => by
          have := Try.Builder_Len_f b b (Lib.byteCells u) (w4.drewN m) HBD4.out
          rw [hlen] at this
          exact this)
        clear a0 a1 hlen
        by_cases hbig : 2000 - T < l
        · have hb := HLG.out hbig
          subst hb
          have hd : decide (2000 - T < l) = true := decide_eq_true hbig
          clear HLG HX hTK hWL
          go_quiet ((first | (go_at_call 92; exact Calls.quiet_of_same (HLE.out _))))
          go_wp2_with fail
          go_ret2
          exact ⟨rfl, HWB.out _ (below_drewN HB4.out _)⟩
        · have hd : decide (2000 - T < l) = false := decide_eq_false hbig
          obtain ⟨ct, rfl⟩ : ∃ ct : Nat, l = (ct : Int) := ⟨l.toNat, by omega⟩
          have hx := HX.out ct rfl
          have hrl : (Lib.repeatL L.data.toList ct).length = ct := by
            have : L.data.toList.length = 1 := by simpa using hl1
            rw [Lib.repeatL_length, this, Nat.mul_one]
          have hul : u.length ≤ 2000 := by omega
          have HRP := Lib.hid (fun W => Try.strings_Repeat L ct W (by omega) (by rw [hl1]; omega))
          obtain ⟨t, ht⟩ : ∃ t : ByteArray, t = ⟨(Lib.repeatL L.data.toList ct).toArray⟩ := ⟨_, rfl⟩
          have htl : t.data.toList = Lib.repeatL L.data.toList ct := by rw [ht]
          have hts : t.size = ct := by
            rw [ht]
            show (Lib.repeatL L.data.toList ct).toArray.size = ct
            rw [List.size_toArray, hrl]
          rw [← ht] at HRP
          have HT4 : Hid (T2 ≤ 2000) := Lib.hid (by rw [hTK]; omega)
          have HWS := Lib.hid (fun W (h1 : Bld b b u W) (h2 : b ≤ W.heap.size) => Try.wstr b b (Lib.byteCells u) t W h1 (by rw [Lib.byteCells_length]; omega) h2)
          have HNB : Hid (∀ W, Lib.BuilderAtF 120 5 b b (.pointer (some ⟨b, 0, none⟩)) (Lib.byteCells u ++ Lib.strCells t) W → Bld b b (wordU (gs.take (k + 1))) W) := Lib.hid (fun W h => by
            rw [← HU2.out, hx]
            unfold Bld
            rw [byteCells_app, ← htl]
            exact .inr h)
          have hkn : ((k : Int) + 1 ≤ n) := by omega
          clear HLG HX hTK hWL hx hrl hul ht htl hts
          go_quiet ((first | (go_at_call 92; exact Calls.quiet_of_same (HLE.out _))))
          have hB5 := below_drewN HB4.out nq
          have hbd5 : Bld b b u (w4.drewN nq) := HBD4.out
          have s0 : (w4.drewN nq).cell? ⟨R, 0, none⟩ = some (.string L) := r0
          have s1 : (w4.drewN nq).cell? ⟨R, 1, none⟩ = some (.int .i64 (ct : Int)) := r1
          have hsz : b < (w4.drewN nq).heap.size := (bld_lt hbd5).2
          clear r0 r1 hd hbig
          generalize w4.drewN nq = w5 at *
          have HB5 := Lib.hid hB5
          have HBD5 := Lib.hid hbd5
          have HSZ := Lib.hid hsz
          clear hB5 hbd5 hsz
          go_wp2_with fail
          refine (HRP.out _).mono ?_
          rintro e w6 ⟨rfl, hB6⟩
          have HB6 := Lib.hid (HB5.out.trans (hB6.mono (Nat.le_of_lt HSZ.out)))
          have HBD6 := Lib.hid (bld_kept HBD5.out hB6)
          have HS6 : Hid (b ≤ w6.heap.size) := Lib.hid (Nat.le_trans (Nat.le_of_lt HSZ.out) hB6.size)
          clear hB6 s0 s1
          go_wp2_with fail
          refine (HWS.out _ HBD6.out HS6.out).mono ?_
          rintro e w7 ⟨rfl, hbd7, hB7, _⟩
          have HST : Hid (WuRel gs w1 b (.int .i64 ((k + 1 : Nat) : Int)) w7) := Lib.hid ⟨k + 1, by have := HN.out; omega, rfl, by rw [← HT2.out]; exact HT4.out, HNB.out _ hbd7, HB6.out.trans hB7⟩
          clear hbd7 hB7
          go_wp2_with fail
          go_roundw
          all_goals first | exact HST.out | ((repeat apply Exists.intro); exact ⟨HST.out, rfl⟩) | (have := HST.out; simpa using this) | (simp [intOf]; done) | (simp [intOf]; omega) | omega
      · have hkn : k = gs.length := by have := HN.out; omega
        subst hkn
        have hb := HA.out.trans (ruA_all HZ.out htot)
        obtain ⟨uu, huu⟩ : ∃ uu, uu = wordU (gs.take gs.length) := ⟨_, rfl⟩
        rw [← huu] at hb hbd
        have HSTR := Lib.hid (Try.Builder_String_any_k b b uu wo hbd (Nat.le_of_lt hbw))
        have HB := Lib.hid hB
        have HBB := Lib.hid (show b ≤ wo.heap.size from Nat.le_of_lt hbw)
        subst hb
        clear hB htot hbd hbw huu
        go_wp2_with fail
        refine HSTR.out.mono ?_
        rintro e w5 ⟨rfl, _, hB5, _⟩
        have HB5 := Lib.hid (HB.out.trans hB5)
        clear hB5
        go_wp2_with fail
        go_ret2
        exact ⟨rfl, HWB.out _ HB5.out⟩
end Go.Proofs.Ytlgpleeanmeenaa
