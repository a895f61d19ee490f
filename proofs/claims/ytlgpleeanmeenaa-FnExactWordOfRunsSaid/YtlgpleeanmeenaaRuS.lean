/-
  Walk: spec.WordOfRuns.
-/
import Derived.Test.YtlgpleeanmeenaaRuN
import Derived.Test.YtlgpleeanmeenaaTimes
import Derived.Test.YtlgpleeanmeenaaOk
import Derived.Deep.QuietTactic
import Derived.Deep.RegionHeld3
import Derived.BigQuiet
namespace Go.Proofs.Ytlgpleeanmeenaa
open Go.RowKit
open Wd
set_option linter.unusedVariables false
set_option maxRecDepth 100000 in
set_option maxHeartbeats 12800000 in
theorem specWordOfRuns (v : Value) (gs : List Ru) (w : World) (hf : FewU gs) (hr : Runs w v gs) :
    Calls Try.prog 33 #[v] w fun e w' => e = .returned (.tuple #[.string ⟨(ruA gs).1.toArray⟩, .int .i64 (ruA gs).2]) ∧ Below w.heap.size w w' := by
  obtain ⟨A, c, rfl, hrr⟩ := hr
  obtain ⟨n, hng⟩ : ∃ n, n = gs.length := ⟨_, rfl⟩
  have hn := hf.len
  rw [← hng] at hn ⊢
  have HN := Lib.hid hng
  have HR := Lib.hid hrr
  have HF := Lib.hid hf
  obtain ⟨ans, hans⟩ : ∃ ans, ans = ruA gs := ⟨_, rfl⟩
  rw [← hans]
  have HA := Lib.hid hans
  clear hng hrr hf hans
  go_enter Try.func33, Try.ntmps33
  go_wp2
  go_loopw [4] (fun i wr => ∃ k : Nat, k ≤ n ∧ i = .int .i64 k ∧ (∀ j (hj : j < gs.length), j < k → runL gs[j] = true) ∧ w = wr) (fun i _ => n - (intOf i).toNat)
  case atStart => exact ⟨0, Nat.zero_le _, rfl, fun j hj h => by omega, rfl⟩
  case round =>
    obtain ⟨k, hk, rfl, hall, rfl⟩ := hrel
    have HALL := Lib.hid hall
    clear hall
    by_cases hlt : k < n
    · have hkg : k < gs.length := by rw [← HN.out]; exact hlt
      rcases HR.out with h0 | ⟨g, rfl, hg, hc⟩
      · rw [h0] at hkg; simp at hkg
      obtain ⟨a0, a1⟩ := runs_cells hc hkg
      have HNX : Hid (runL gs[k] = true → ∀ j (hj : j < gs.length), j < k + 1 → runL gs[j] = true) := Lib.hid (fun h j hj hjk => by
        by_cases e : j = k
        · subst e; exact h
        · exact HALL.out j hj (by omega))
      have HBD : Hid (runL gs[k] = false → ans = ([], 1)) := Lib.hid (fun h => by rw [HA.out]; exact ruF_one hkg h)
      have HS := Lib.hid (specOk gs[k].L w (HF.out.at_ k hkg))
      unfold runL at HNX HBD
      generalize gs[k] = x at *
      obtain ⟨L, l⟩ := x
      simp only at a0 a1 HNX HBD HS
      clear hc hg a1
      by_cases h1 : L.size = 1
      · have h1' : ((L.size : Int) != 1) = false := by simp [h1]
        cases hok : okL L.data.toList
        · rw [hok] at HS HBD
          have hb := HBD.out (by simp)
          clear hok h1
          subst hb
          go_wp2_with fail
          refine HS.out.mono ?_
          rintro e w1 ⟨rfl, rfl⟩
          go_wp2_with fail
          go_ret2
          exact ⟨rfl, Below.refl _ _⟩
        · rw [hok] at HS HNX
          have HNY := Lib.hid (HNX.out (by rw [decide_eq_true h1]; rfl))
          clear hok h1
          go_wp2_with fail
          refine HS.out.mono ?_
          rintro e w1 ⟨rfl, rfl⟩
          go_wp2_with fail
          go_roundw
          case rel => exact ⟨k + 1, by omega, by go_num, HNY.out, by first | rfl | trivial⟩
          case measure => simp [intOf]; omega
      · have h1' : ((L.size : Int) != 1) = true := by simp; omega
        have hb := HBD.out (by rw [decide_eq_false h1]; rfl)
        clear h1
        subst hb
        go_wp2_with fail
        go_ret2
        exact ⟨rfl, Below.refl _ _⟩
    · have hkn : k = n := by omega
      have H0 : Hid (∀ j (hj : j < gs.length), runL gs[j] = true) := Lib.hid (fun j hj => HALL.out j hj (by have := HN.out; omega))
      clear hkn HALL
      go_wp2_with fail
      clear hlt
      go_loopw [5] (fun i wr => ∃ k : Nat, k ≤ n ∧ i = .int .i64 k ∧ (∀ j (hj : j < gs.length), j < k → runC gs[j] = true) ∧ w = wr) (fun i _ => n - (intOf i).toNat)
      case atStart => exact ⟨0, Nat.zero_le _, rfl, fun j hj h => by omega, by first | rfl | trivial⟩
      case round =>
        obtain ⟨k, hk, rfl, hall, rfl⟩ := hrel
        have HALL := Lib.hid hall
        clear hall
        by_cases hlt : k < n
        · have hkg : k < gs.length := by rw [← HN.out]; exact hlt
          rcases HR.out with h0 | ⟨g, rfl, hg, hc⟩
          · rw [h0] at hkg; simp at hkg
          obtain ⟨a0, a1⟩ := runs_cells hc hkg
          have HNX : Hid (runC gs[k] = true → ∀ j (hj : j < gs.length), j < k + 1 → runC gs[j] = true) := Lib.hid (fun h j hj hjk => by
            by_cases e : j = k
            · subst e; exact h
            · exact HALL.out j hj (by omega))
          have HBD : Hid (runC gs[k] = false → ans = ([], 2)) := Lib.hid (fun h => by rw [HA.out]; exact ruF_two hkg H0.out h)
          obtain ⟨l, hl⟩ : ∃ l, l = gs[k].l := ⟨_, rfl⟩
          have HC : Hid (runC gs[k] = decide (1 ≤ l)) := Lib.hid (by rw [hl]; rfl)
          rw [← hl] at a1
          clear hc hg a0 hl
          by_cases h1 : l < 1
          · have hb := HBD.out (by rw [HC.out]; exact decide_eq_false (by omega))
            subst hb
            go_wp2_with fail
            go_ret2
            exact ⟨rfl, Below.refl _ _⟩
          · have HNY := Lib.hid (HNX.out (by rw [HC.out]; exact decide_eq_true (by omega)))
            go_wp2_with fail
            go_roundw
            case rel => exact ⟨k + 1, by omega, by go_num, HNY.out, by first | rfl | trivial⟩
            case measure => simp [intOf]; omega
        · have hkn : k = n := by omega
          have H1 : Hid (∀ j (hj : j < gs.length), runC gs[j] = true) := Lib.hid (fun j hj => HALL.out j hj (by have := HN.out; omega))
          clear hkn HALL
          go_wp2_with fail
          clear hlt
          go_loopw [6] (fun i wr => ∃ k : Nat, 1 ≤ k ∧ (k ≤ n ∨ k = 1) ∧ i = .int .i64 k ∧ (∀ j (hj : j < gs.length), 0 < j → j < k → (gs[j].L.toList == gs[j - 1].L.toList) = false) ∧ Drawn w wr) (fun i _ => n - (intOf i).toNat)
          case atStart => exact ⟨1, by omega, .inr rfl, rfl, fun j hj h h' => by omega, Drawn.refl _⟩
          case round =>
            obtain ⟨k, hk1, hk, rfl, hall, q, rfl⟩ := hrel
            have HALL := Lib.hid hall
            clear hall
            by_cases hlt : k < n
            · have hkg : k < gs.length := by rw [← HN.out]; exact hlt
              rcases HR.out with h0 | ⟨g, rfl, hg, hc⟩
              · rw [h0] at hkg; simp at hkg
              obtain ⟨m, rfl⟩ : ∃ m, k = m + 1 := ⟨k - 1, by omega⟩
              have hmg : m < gs.length := by omega
              obtain ⟨a0, a1⟩ := runs_cells hc hkg
              obtain ⟨b0, b1⟩ := runs_cells hc hmg
              have HNX : Hid ((gs[m + 1].L.toList == gs[m].L.toList) = false → ∀ j (hj : j < gs.length), 0 < j → j < m + 1 + 1 → (gs[j].L.toList == gs[j - 1].L.toList) = false) := Lib.hid (fun h j hj hj0 hjk => by
                by_cases e : j = m + 1
                · subst e; exact h
                · exact HALL.out j hj hj0 (by omega))
              have HBD : Hid ((gs[m + 1].L.toList == gs[m].L.toList) = true → ans = ([], 4)) := Lib.hid (fun h => by rw [HA.out]; exact ruF_four hkg (by omega) H0.out H1.out h)
              have c0 : (w.drewN q).cell? ⟨g, (m + 1) * 2, none⟩ = some (.string gs[m + 1].L) := a0
              have d0 : (w.drewN q).cell? ⟨g, m * 2, none⟩ = some (.string gs[m].L) := b0
              have hB := below_drewN (Below.refl w.heap.size w) q
              generalize gs[m + 1].L = L1 at *
              generalize gs[m].L = L2 at *
              have HB := Lib.hid hB
              have HQD : Hid (∀ m, Drawn w ((w.drewN q).drewN m)) := Lib.hid (fun m => ⟨q + m, by rw [World.drewN_drewN]⟩)
              clear hc hg a0 a1 b0 b1 hB hkg hmg
              generalize w.drewN q = w3 at *
              cases heq : (L1.toList == L2.toList)
              · have HNY := Lib.hid (HNX.out heq)
                clear HNX HBD
                go_wp2_with fail
                go_quiet (fail)
                go_wp2_with fail
                go_roundw
                case rel => exact ⟨m + 1 + 1, by omega, .inl (by omega), by go_num, HNY.out, HQD.out _⟩
                case measure => simp [intOf]; omega
              · have hb := HBD.out heq
                subst hb
                go_wp2_with fail
                go_quiet (fail)
                go_wp2_with fail
                go_ret2
                exact ⟨rfl, below_drewN HB.out _⟩
            · have H2 : Hid (∀ j (hj : j < gs.length), 0 < j → (gs[j].L.toList == gs[j - 1].L.toList) = false) := Lib.hid (fun j hj h => HALL.out j hj h (by have := HN.out; omega))
              have HZ : Hid (ruF gs = 0) := Lib.hid (ruF_none H0.out H1.out H2.out)
              have HB := Lib.hid (below_drewN (Below.refl w.heap.size w) q)
              clear hk HALL H2
              generalize w.drewN q = w3 at *
              go_wp2_with fail
              clear hlt
              go_loopw [7, 8, 9] (fun lf o i wr => ∃ k : Nat, k ≤ n ∧ i = .int .i64 k ∧ lf = .int .i64 (2000 - totU (gs.take k)) ∧ o = .string ⟨(wordU (gs.take k)).toArray⟩ ∧ totU (gs.take k) ≤ 2000 ∧ Below w.heap.size w wr) (fun _ _ i _ => n - (intOf i).toNat)
              case atStart => exact ⟨0, Nat.zero_le _, rfl, by simp [totU], by simp [wordU], by simp [totU], HB.out⟩
              case round =>
                obtain ⟨k, hk, rfl, rfl, rfl, htot, hB⟩ := hrel
                obtain ⟨wo, rfl⟩ : ∃ wo : World, wo = wr := ⟨_, rfl⟩
                by_cases hlt : k < n
                · have hkg : k < gs.length := by rw [← HN.out]; exact hlt
                  rcases HR.out with h0 | ⟨g, rfl, hg, hc⟩
                  · rw [h0] at hkg; simp at hkg
                  obtain ⟨a0, a1⟩ := runs_cells hc hkg
                  rw [← hB.cell (p := ⟨g, k * 2, none⟩) hg] at a0
                  rw [← hB.cell (p := ⟨g, k * 2 + 1, none⟩) hg] at a1
                  have hl1 : gs[k].L.size = 1 := by
                    have := H0.out k hkg
                    unfold runL at this
                    rw [Bool.and_eq_true, decide_eq_true_iff] at this
                    exact this.1
                  have hc1 : 1 ≤ gs[k].l := of_decide_eq_true (H1.out k hkg)
                  have hle := totU_le H1.out k
                  have hTK := totU_take hkg
                  have hWK := wordU_take hkg
                  have hWL := wordU_len H0.out H1.out k (by omega)
                  obtain ⟨ct, hct⟩ : ∃ ct : Nat, gs[k].l = (ct : Int) := ⟨gs[k].l.toNat, by omega⟩
                  rw [hct] at a1 hTK hWK hc1
                  have hWK : Hid (∀ u t : ByteArray, u = ⟨(wordU (gs.take k)).toArray⟩ → t = ⟨(Lib.repeatL gs[k].L.data.toList ct).toArray⟩ → u ++ t = ⟨(wordU (gs.take (k + 1))).toArray⟩) := Lib.hid (by
                    rintro u t rfl rfl
                    rw [ba_app, hWK, Int.toNat_natCast])
                  have HLG : Hid (2000 - totU (gs.take k) < (ct : Int) → ans = ([], 3)) := Lib.hid (fun h => by
                    rw [HA.out]
                    exact ruA_long hkg HZ.out H1.out (by rw [hct]; omega))
                  obtain ⟨T, hT⟩ : ∃ T, T = totU (gs.take k) := ⟨_, rfl⟩
                  obtain ⟨T2, hT2⟩ : ∃ T2, T2 = totU (gs.take (k + 1)) := ⟨_, rfl⟩
                  rw [← hT] at htot hle hWL HLG hTK ⊢
                  rw [← hT2] at hTK
                  have HT2 := Lib.hid hT2
                  obtain ⟨u, hu⟩ : ∃ u : ByteArray, u = ⟨(wordU (gs.take k)).toArray⟩ := ⟨_, rfl⟩
                  have hus : (u.size : Int) = T := by rw [← hWL, hu]; show ((wordU (gs.take k)).toArray.size : Int) = _; rw [List.size_toArray]
                  rw [← hu]
                  obtain ⟨u2, hu2⟩ : ∃ u2 : ByteArray, u2 = ⟨(wordU (gs.take (k + 1))).toArray⟩ := ⟨_, rfl⟩
                  rw [← hu2] at hWK
                  have HU2 := Lib.hid hu2
                  have HWK := Lib.hid (fun t => hWK.out u t hu)
                  generalize gs[k].L = L at *
                  by_cases hbig : 2000 - T < (ct : Int)
                  · have hb := HLG.out hbig
                    subst hb
                    have HB := Lib.hid hB
                    clear HLG HWK hWK hT hT2 hu hu2 hc hg hct hWL hTK
                    go_wp2_with fail
                    go_ret2
                    exact ⟨rfl, HB.out⟩
                  · have hsz : L.size * ct ≤ 1000000 := by rw [hl1]; omega
                    obtain ⟨t, ht⟩ : ∃ t : ByteArray, t = ⟨(Lib.repeatL L.data.toList ct).toArray⟩ := ⟨_, rfl⟩
                    have hts : t.size = ct := by
                      rw [ht]
                      have : L.data.toList.length = 1 := by simpa using hl1
                      show (Lib.repeatL L.data.toList ct).toArray.size = ct
                      rw [List.size_toArray, Lib.repeatL_length, this, Nat.mul_one]
                    have hc1' := fun W => specTimes L ct W hsz (by omega) (by omega)
                    rw [← ht] at hc1'
                    have HTM := Lib.hid hc1'
                    have HCC := Lib.hid (HWK.out t ht)
                    have HT3 : Hid (2000 - T - (ct : Int) = 2000 - T2) := Lib.hid (by rw [hTK]; omega)
                    have HT4 : Hid (T2 ≤ 2000) := Lib.hid (by rw [hTK]; omega)
                    have HB := Lib.hid hB
                    have HC := Lib.hid (And.intro a0 a1)
                    have HLT := Lib.hid (Nat.lt_of_lt_of_le hg hB.size)
                    have hut : (9223372036854775807 < u.size + t.size) = False := eq_false (by omega)
                    have hut2 : u.size + t.size ≤ 9223372036854775807 := by omega
                    clear HLG HWK hWK hT hT2 hu hu2 hc hct hWL hTK ht hc1' hB hsz hg hts hus
                    go_wp2_with fail
                    go_region_held3 (fun w' => w'.cell? ⟨g, k * 2, none⟩ = some (.string L) ∧ w'.cell? ⟨g, k * 2 + 1, none⟩ = some (.int .i64 (ct : Int))) (first | (with_reducible exact HC.out) | (with_reducible exact HC9.out) | go_keep)
                      (first
                        | (go_at_call 89
                           refine (HTM.out _).mono ?_
                           rintro e w5 ⟨rfl, hB5⟩
                           have hB5 := below_undrew hB5
                           have HB9 := Lib.hid (HB.out.trans (hB5.mono HB.out.size))
                           have HC9 := Lib.hid (And.intro ((hB5.cell (p := ⟨g, k * 2, none⟩) HLT.out).trans HC.out.1) ((hB5.cell (p := ⟨g, k * 2 + 1, none⟩) HLT.out).trans HC.out.2))
                           clear hB5))
                    go_wp2_with fail
                    go_roundw
                    case rel => exact ⟨k + 1, by omega, by go_num, by rw [← HT2.out, ← HT3.out], by rw [HCC.out, HU2.out], by rw [← HT2.out]; exact HT4.out, HB9.out⟩
                    case measure => simp [intOf]; omega
                · have hkn : k = gs.length := by have := HN.out; omega
                  subst hkn
                  have hb := HA.out.trans (ruA_all HZ.out htot)
                  subst hb
                  have HB := Lib.hid hB
                  clear hB htot
                  go_wp2_with fail
                  go_ret2
                  exact ⟨rfl, HB.out⟩
end Go.Proofs.Ytlgpleeanmeenaa
