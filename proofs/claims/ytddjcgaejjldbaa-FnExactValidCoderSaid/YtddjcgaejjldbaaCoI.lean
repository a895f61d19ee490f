/-
  Walks: impl.ValidCoder and what it calls.
-/
import Derived.Test.YtddjcgaejjldbaaCoOk2
import Derived.Test.YtddjcgaejjldbaaAuI2
namespace Go.Proofs.Ytddjcgaejjldbaa
open Go.RowKit
open Wd
set_option linter.unusedVariables false
theorem wrongW_any (s : ByteArray) (w : World) (hs : s.size ≤ maxLen) :
    Calls Try.prog 60 #[.string s] w fun e w' => e = .returned (.bool (!outOk s)) ∧ w' = w := by
  have HO := Lib.hid (fun W => implOk s W hs)
  unfold maxLen at hs
  by_cases hbig : 6 < s.size
  · rw [outOk_big hbig]
    have hd : decide ((6 : Int) < (s.size : Int)) = true := decide_eq_true (by omega)
    have hd2 : decide (6 < s.size) = true := decide_eq_true hbig
    clear HO hbig
    go_enter Try.func60, Try.ntmps60
    go_wp2_with fail
    go_ret
    exact ⟨rfl, rfl⟩
  · rw [outOk_few (by omega)]
    have hd : decide ((6 : Int) < (s.size : Int)) = false := decide_eq_false (by omega)
    have hd2 : decide (6 < s.size) = false := decide_eq_false hbig
    clear hbig
    cases ho : okL s.data.toList
    all_goals
      rw [ho] at HO
      clear ho
      go_enter Try.func60, Try.ntmps60
      go_wp2_with fail
      refine (HO.out _).mono ?_
      rintro e w5 ⟨rfl, rfl⟩
      go_wp2_with fail
      go_ret
      exact ⟨rfl, rfl⟩
set_option maxRecDepth 100000 in
set_option maxHeartbeats 1600000 in
theorem indexG_any (v : Value) (zs : List ByteArray) (w : World) (hl : zs.length ≤ 1048576) (ht : ∀ s ∈ zs, s.size ≤ maxLen) (h : IsSL w v zs) :
    Calls Try.prog 120 #[v, .func (.func 60) #[] #[]] w fun e w' => ∃ y, e = .returned (.int .i64 y) ∧ w' = w ∧ ((zs.all outOk = true ∧ y = -1) ∨ (zs.all outOk = false ∧ 0 ≤ y)) := by
  obtain ⟨A, c, rfl, hin⟩ := h
  have HI := Lib.hid hin
  obtain ⟨N, hN⟩ : ∃ N, N = zs.length := ⟨_, rfl⟩
  rw [← hN] at hl ⊢
  have HN := Lib.hid hN
  have HC := Lib.hid (fun s (h : s.size ≤ maxLen) => wrongW_any s w h)
  have HTX := Lib.hid ht
  clear hin hN ht
  go_enter Try.func120, Try.ntmps120
  go_wp2_with fail
  go_loopw [8] (fun i wr => ∃ k : Nat, k ≤ N ∧ i = .int .i64 k ∧ (∀ j (hj : j < zs.length), j < k → outOk zs[j] = true) ∧ wr = w) (fun i _ => N - (intOf i).toNat)
  case atStart => exact ⟨0, Nat.zero_le _, rfl, fun j hj h => by omega, rfl⟩
  case round =>
    obtain ⟨k, hk, rfl, hall, rfl⟩ := hrel
    have HA := Lib.hid hall
    clear hall
    by_cases hlt : k < N
    · have hkg : k < zs.length := by rw [← HN.out]; exact hlt
      rcases HI.out with hn | ⟨x, rfl, hc⟩
      · rw [hn] at hkg; simp at hkg
      have c0 := hc k hkg
      have HBAD : Hid (¬ (outOk zs[k] = true) → zs.all outOk = false) := Lib.hid (fun h => by
        rw [List.all_eq_false]
        exact ⟨zs[k], List.getElem_mem hkg, h⟩)
      have HG2 : Hid ((outOk zs[k] = true) → ∀ j (hj : j < zs.length), j < k + 1 → outOk zs[j] = true) := Lib.hid (fun h j hj hjq => by
        by_cases e : j = k
        · subst e; exact h
        · exact HA.out j hj (by omega))
      have HW := Lib.hid (HC.out zs[k] (HTX.out _ (List.getElem_mem hkg)))
      generalize zs[k] = z at *
      clear hc hkg
      by_cases hb : outOk z = true
      · rw [hb] at HW
        have HNX := Lib.hid (HG2.out hb)
        clear hb HBAD HG2 HC
        go_wp2_with fail
        refine HW.out.mono ?_
        rintro e w5 ⟨rfl, rfl⟩
        go_wp2_with fail
        go_roundw
        all_goals first | exact ⟨k + 1, by omega, by go_num, HNX.out, by first | rfl | trivial⟩ | ((repeat apply Exists.intro); exact ⟨⟨k + 1, by omega, by go_num, HNX.out, by first | rfl | trivial⟩, by first | rfl | trivial⟩) | (simp [intOf]; done) | (simp [intOf]; omega) | omega
      · rw [(Bool.not_eq_true _).mp hb] at HW
        have HF := Lib.hid (HBAD.out hb)
        clear hb HBAD HG2 HC
        go_wp2_with fail
        refine HW.out.mono ?_
        rintro e w5 ⟨rfl, rfl⟩
        go_wp2_with fail
        go_ret
        exact ⟨_, rfl, rfl, .inr ⟨HF.out, by omega⟩⟩
    · obtain rfl : k = N := by omega
      have HT : Hid (zs.all outOk = true) := Lib.hid (by
        rw [List.all_eq_true]
        intro r hr
        obtain ⟨j, hj, e⟩ := List.getElem_of_mem hr
        rw [← e]
        exact HA.out j hj (by rw [HN.out]; exact hj))
      clear HC
      go_wp2_with fail
      go_ret
      exact ⟨_, rfl, rfl, .inl ⟨HT.out, rfl⟩⟩
theorem containsG_any (v : Value) (zs : List ByteArray) (w : World) (hl : zs.length ≤ 1048576) (ht : ∀ s ∈ zs, s.size ≤ maxLen) (h : IsSL w v zs) :
    Calls Try.prog 62 #[v, .func (.func 60) #[] #[]] w fun e w' => e = .returned (.bool (!zs.all outOk)) ∧ w' = w := by
  have HX := Lib.hid (indexG_any v zs w hl ht h)
  obtain ⟨A, c, rfl, _⟩ := h
  clear ht
  go_enter Try.func62, Try.ntmps62
  go_wp2_with fail
  refine HX.out.mono ?_
  rintro e w5 ⟨y, rfl, rfl, ⟨ha, rfl⟩ | ⟨ha, hy⟩⟩
  · have HA := Lib.hid ha
    clear ha
    go_wp2_with fail
    go_ret
    exact ⟨by rw [HA.out] <;> rfl, rfl⟩
  · have HA := Lib.hid ha
    have hd : decide (0 ≤ y) = true := decide_eq_true hy
    clear ha
    go_wp2_with fail
    go_ret
    exact ⟨by rw [HA.out] <;> first | rfl | (simp; done) | simp [hd], rfl⟩
end Go.Proofs.Ytddjcgaejjldbaa
