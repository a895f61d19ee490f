/-
  Walk: impl.runsFault.
-/
import Derived.Test.YtlgpleeanmeenaaRuN
import Derived.Test.YtlgpleeanmeenaaRuTo
import Derived.Test.YtlgpleeanmeenaaKind
import Derived.Deep.QuietTactic
import Derived.BigQuiet
namespace Go.Proofs.Ytlgpleeanmeenaa
open Go.RowKit
open Wd
set_option linter.unusedVariables false
namespace Wd
theorem ruG_one {gs : List Ru} {k : Nat} (hk : k < gs.length) (h : runL gs[k] = false) : ruF gs = 1 := by
  have h1 : gs.all runL = false := by
    rw [List.all_eq_false]
    exact ⟨gs[k], List.getElem_mem hk, by rw [h]; decide⟩
  unfold ruF; rw [h1]; rfl
theorem ruG_two {gs : List Ru} {k : Nat} (hk : k < gs.length) (h0 : ∀ j (hj : j < gs.length), runL gs[j] = true) (h : runC gs[k] = false) : ruF gs = 2 := by
  have h1 : gs.all runC = false := by
    rw [List.all_eq_false]
    exact ⟨gs[k], List.getElem_mem hk, by rw [h]; decide⟩
  unfold ruF; rw [all_of h0, h1]; rfl
theorem ruG_four {gs : List Ru} {k : Nat} (hk : k < gs.length) (hp : 0 < k) (h0 : ∀ j (hj : j < gs.length), runL gs[j] = true) (h1 : ∀ j (hj : j < gs.length), runC gs[j] = true) (h : (gs[k].L.toList == gs[k - 1].L.toList) = true) : ruF gs = 4 := by
  have h3 : adjOk gs = false := decide_eq_false fun hh => by
    have := hh k hk hp
    rw [h] at this
    cases this
  unfold ruF; rw [all_of h0, all_of h1, h3]; rfl
end Wd
theorem isLetU_any (L : ByteArray) (w : World) :
    Calls Try.prog 139 #[.string L] w fun e w' => e = .returned (.bool (decide (L.size = 1) && okL L.data.toList)) ∧ w = w' := by
  by_cases h : L.size = 0
  · obtain rfl := empty_arr h
    go_enter Try.func139, Try.ntmps139
    go_wp2
    go_ret
    exact ⟨rfl, rfl⟩
  · exact isLetter_any L h w
set_option maxRecDepth 100000 in
set_option maxHeartbeats 12800000 in
theorem runsFault_any (v : Value) (gs : List Ru) (w : World) (hf : FewU gs) (hr : Runs w v gs) :
    Calls Try.prog 91 #[v] w fun e w' => e = .returned (.int .i64 (ruF gs)) ∧ Below w.heap.size w w' := by
  obtain ⟨A, c, rfl, hrr⟩ := hr
  obtain ⟨n, hng⟩ : ∃ n, n = gs.length := ⟨_, rfl⟩
  have hn := hf.len
  rw [← hng] at hn ⊢
  have HN := Lib.hid hng
  have HR := Lib.hid hrr
  have HF := Lib.hid hf
  obtain ⟨ans, hans⟩ : ∃ ans, ans = ruF gs := ⟨_, rfl⟩
  rw [← hans]
  have HA := Lib.hid hans
  clear hng hrr hf hans
  go_enter Try.func91, Try.ntmps91
  go_wp2
  go_loopw [10] (fun i wr => ∃ k : Nat, k ≤ n ∧ i = .int .i64 k ∧ (∀ j (hj : j < gs.length), j < k → runL gs[j] = true) ∧ Below w.heap.size w wr) (fun i _ => n - (intOf i).toNat)
  case atStart => exact ⟨0, Nat.zero_le _, rfl, fun j hj h => by omega, Below.refl _ _⟩
  case round =>
    obtain ⟨k, hk, rfl, hall, hB⟩ := hrel
    have HALL := Lib.hid hall
    clear hall
    by_cases hlt : k < n
    · have hkg : k < gs.length := by rw [← HN.out]; exact hlt
      rcases HR.out with h0 | ⟨g, rfl, hg, hc⟩
      · rw [h0] at hkg; simp at hkg
      obtain ⟨a0, a1⟩ := runs_cells hc hkg
      rw [← hB.cell (p := ⟨g, k * 2, none⟩) hg] at a0
      rw [← hB.cell (p := ⟨g, k * 2 + 1, none⟩) hg] at a1
      have HNX : Hid (runL gs[k] = true → ∀ j (hj : j < gs.length), j < k + 1 → runL gs[j] = true) := Lib.hid (fun h j hj hjk => by
        by_cases e : j = k
        · subst e; exact h
        · exact HALL.out j hj (by omega))
      have HBD : Hid (runL gs[k] = false → ans = 1) := Lib.hid (fun h => by rw [HA.out]; exact ruG_one hkg h)
      have HRL : Hid (runL gs[k] = (decide (gs[k].L.size = 1) && okL gs[k].L.data.toList)) := Lib.hid rfl
      generalize gs[k] = x at *
      obtain ⟨L, l⟩ := x
      simp only at a0 a1 HRL
      have HS := Lib.hid (fun W => isLetU_any L W)
      have HB := Lib.hid (hB.alloc hB.size (.cells #[.string L, .int .i64 l] 73))
      clear hc hg hB
      cases hok : (decide (L.size = 1) && okL L.data.toList)
      · have hb := HBD.out (by rw [HRL.out]; exact hok)
        rw [hok] at HS
        clear hok
        subst hb
        go_wp2_with fail
        refine (HS.out _).mono ?_
        rintro e w1 ⟨rfl, rfl⟩
        go_wp2_with fail
        go_ret
        exact ⟨rfl, HB.out⟩
      · have HNY := Lib.hid (HNX.out (by rw [HRL.out]; exact hok))
        rw [hok] at HS
        clear hok
        go_wp2_with fail
        refine (HS.out _).mono ?_
        rintro e w1 ⟨rfl, rfl⟩
        go_wp2_with fail
        go_roundw
        all_goals first | exact ⟨k + 1, by omega, by go_num, HNY.out, HB.out⟩ | ((repeat apply Exists.intro); exact ⟨⟨k + 1, by omega, by go_num, HNY.out, HB.out⟩, rfl⟩) | (simp [intOf]; done) | (simp [intOf]; omega) | omega
    · have hkn : k = n := by omega
      have H0 : Hid (∀ j (hj : j < gs.length), runL gs[j] = true) := Lib.hid (fun j hj => HALL.out j hj (by have := HN.out; omega))
      have HB0 := Lib.hid hB
      clear hkn HALL hB
      obtain ⟨w2, rfl⟩ : ∃ w2 : World, w2 = wr := ⟨_, rfl⟩
      go_wp2_with fail
      clear hlt
      go_loopw [21] (fun i wr => ∃ k : Nat, k ≤ n ∧ i = .int .i64 k ∧ (∀ j (hj : j < gs.length), j < k → runC gs[j] = true) ∧ Below w.heap.size w wr) (fun i _ => n - (intOf i).toNat)
      case atStart => exact ⟨0, Nat.zero_le _, rfl, fun j hj h => by omega, HB0.out⟩
      case round =>
        obtain ⟨k, hk, rfl, hall, hB⟩ := hrel
        have HALL := Lib.hid hall
        clear hall
        by_cases hlt : k < n
        · have hkg : k < gs.length := by rw [← HN.out]; exact hlt
          rcases HR.out with h0 | ⟨g, rfl, hg, hc⟩
          · rw [h0] at hkg; simp at hkg
          obtain ⟨a0, a1⟩ := runs_cells hc hkg
          rw [← hB.cell (p := ⟨g, k * 2, none⟩) hg] at a0
          rw [← hB.cell (p := ⟨g, k * 2 + 1, none⟩) hg] at a1
          have HNX : Hid (runC gs[k] = true → ∀ j (hj : j < gs.length), j < k + 1 → runC gs[j] = true) := Lib.hid (fun h j hj hjk => by
            by_cases e : j = k
            · subst e; exact h
            · exact HALL.out j hj (by omega))
          have HBD : Hid (runC gs[k] = false → ans = 2) := Lib.hid (fun h => by rw [HA.out]; exact ruG_two hkg H0.out h)
          have HC : Hid (runC gs[k] = decide (1 ≤ gs[k].l)) := Lib.hid rfl
          generalize gs[k] = x at *
          obtain ⟨L, l⟩ := x
          simp only at a0 a1 HC
          have HB := Lib.hid (hB.alloc hB.size (.cells #[.string L, .int .i64 l] 73))
          clear hc hg hB
          by_cases h1 : l < 1
          · have hb := HBD.out (by rw [HC.out]; exact decide_eq_false (by omega))
            subst hb
            go_wp2_with fail
            go_ret
            exact ⟨rfl, HB.out⟩
          · have HNY := Lib.hid (HNX.out (by rw [HC.out]; exact decide_eq_true (by omega)))
            go_wp2_with fail
            go_roundw
            all_goals first | exact ⟨k + 1, by omega, by go_num, HNY.out, HB.out⟩ | ((repeat apply Exists.intro); exact ⟨⟨k + 1, by omega, by go_num, HNY.out, HB.out⟩, rfl⟩) | (simp [intOf]; done) | (simp [intOf]; omega) | omega
        · have hkn : k = n := by omega
          have H1 : Hid (∀ j (hj : j < gs.length), runC gs[j] = true) := Lib.hid (fun j hj => HALL.out j hj (by have := HN.out; omega))
          have HB1 := Lib.hid hB
          clear hkn HALL hB
          obtain ⟨w3, rfl⟩ : ∃ w3 : World, w3 = wr := ⟨_, rfl⟩
          go_wp2_with fail
          clear hlt
          go_loopw [7] (fun i wr => ∃ k : Nat, 1 ≤ k ∧ (k ≤ n ∨ k = 1) ∧ i = .int .i64 k ∧ (∀ j (hj : j < gs.length), 0 < j → j < k → (gs[j].L.toList == gs[j - 1].L.toList) = false) ∧ Below w.heap.size w wr) (fun i _ => n - (intOf i).toNat)
          case atStart => exact ⟨1, by omega, .inr rfl, rfl, fun j hj h h' => by omega, HB1.out⟩
          case round =>
            obtain ⟨k, hk1, hk, rfl, hall, hB⟩ := hrel
            obtain ⟨wo, rfl⟩ : ∃ wo : World, wo = wr := ⟨_, rfl⟩
            have HALL := Lib.hid hall
            clear hall
            by_cases hlt : k < n
            · have hkg : k < gs.length := by rw [← HN.out]; exact hlt
              rcases HR.out with h0 | ⟨g, rfl, hg, hc⟩
              · rw [h0] at hkg; simp at hkg
              obtain ⟨m, rfl⟩ : ∃ m, k = m + 1 := ⟨k - 1, by omega⟩
              have hmg : m < gs.length := by omega
              obtain ⟨a0, a1⟩ := runs_cells hc hkg
              obtain ⟨b0, b1⟩ := runs_cells hc hmg
              have HNX : Hid ((gs[m + 1].L.toList == gs[m].L.toList) = false → ∀ j (hj : j < gs.length), 0 < j → j < m + 1 + 1 → (gs[j].L.toList == gs[j - 1].L.toList) = false) := Lib.hid (fun h j hj hj0 hjk => by
                by_cases e : j = m + 1
                · subst e; exact h
                · exact HALL.out j hj hj0 (by omega))
              have HBD : Hid ((gs[m + 1].L.toList == gs[m].L.toList) = true → ans = 4) := Lib.hid (fun h => by rw [HA.out]; exact ruG_four hkg (by omega) H0.out H1.out h)
              rw [← hB.cell (p := ⟨g, (m + 1) * 2, none⟩) hg] at a0
              rw [← hB.cell (p := ⟨g, m * 2, none⟩) hg] at b0
              generalize gs[m + 1].L = L1 at *
              generalize gs[m].L = L2 at *
              have HB := Lib.hid hB
              clear hc hg a1 b1 hB hkg hmg
              cases heq : (L1.toList == L2.toList)
              · have HNY := Lib.hid (HNX.out heq)
                clear HNX HBD
                go_wp2_with fail
                go_quiet (fail)
                go_wp2_with fail
                go_roundw
                case rel => exact ⟨m + 1 + 1, by omega, .inl (by omega), by go_num, HNY.out, below_drewN HB.out _⟩
                case measure => simp [intOf]; omega
              · have hb := HBD.out heq
                subst hb
                go_wp2_with fail
                go_quiet (fail)
                go_wp2_with fail
                go_ret
                exact ⟨rfl, below_drewN HB.out _⟩
            · have H2 : Hid (∀ j (hj : j < gs.length), 0 < j → (gs[j].L.toList == gs[j - 1].L.toList) = false) := Lib.hid (fun j hj h => HALL.out j hj h (by have := HN.out; omega))
              have hz := HA.out.trans (ruF_none H0.out H1.out H2.out)
              subst hz
              have HB := Lib.hid hB
              clear hk HALL H2 hB
              go_wp2_with fail
              go_ret
              exact ⟨rfl, HB.out⟩
end Go.Proofs.Ytlgpleeanmeenaa
