/-
  Walks: spec.l04Letter, l04Read: an automaton reads a plain word.
-/
import Derived.Test.YtonbjgecdhmjbaaAuOk2
import Derived.Test.YtonbjgecdhmjbaaOk
namespace Go.Proofs.Ytonbjgecdhmjbaa
open Go.RowKit
open Wd
set_option linter.unusedVariables false
namespace Wd
/-- the next state -/
def stepA (nx : List (List Int)) (t : Int) (c : UInt8) : Int := (nx.getD t.toNat []).getD (c.toNat - 97) 0
/-- the state behind k letters -/
def rdK (nx : List (List Int)) (t : Int) (l : List UInt8) : Nat → Int
  | 0 => t
  | k + 1 => stepA nx (rdK nx t l k) (l.getD k 97)
theorem row_facts {nx : List (List Int)} {st : Int} (h : nx.all (rowOk st) = true) {i : Nat} (hi : i < nx.length) : nx[i].length = 4 ∧ ∀ j (hj : j < nx[i].length), 0 ≤ nx[i][j] ∧ nx[i][j] < st := by
  have h1 := List.all_eq_true.1 h nx[i] (List.getElem_mem hi)
  unfold rowOk at h1
  rw [Bool.and_eq_true, decide_eq_true_iff] at h1
  refine ⟨h1.1, fun j hj => ?_⟩
  have := List.all_eq_true.1 h1.2 nx[i][j] (List.getElem_mem hj)
  rwa [decide_eq_true_iff] at this
theorem step_in {nx : List (List Int)} {st t : Int} {c : UInt8} (h : nx.all (rowOk st) = true) (hl : (nx.length : Int) = st) (h0 : 0 ≤ t ∧ t < st) (hc : lt c = true) : 0 ≤ stepA nx t c ∧ stepA nx t c < st := by
  have h1 := of_lt hc
  have hi : t.toNat < nx.length := by omega
  obtain ⟨h4, hr⟩ := row_facts h hi
  unfold stepA
  rw [List.getD_eq_getElem?_getD (l := nx), List.getElem?_eq_getElem hi, Option.getD_some, List.getD_eq_getElem?_getD, List.getElem?_eq_getElem (by omega), Option.getD_some]
  exact hr _ (by omega)
theorem rdK_in {nx : List (List Int)} {st t : Int} {l : List UInt8} (h : nx.all (rowOk st) = true) (hl : (nx.length : Int) = st) (h0 : 0 ≤ t ∧ t < st) (hc : okL l = true) : ∀ k, k ≤ l.length → 0 ≤ rdK nx t l k ∧ rdK nx t l k < st
  | 0, _ => h0
  | k + 1, hk => by
    have ih := rdK_in h hl h0 hc k (by omega)
    rw [rdK]
    refine step_in h hl ih ?_
    rw [List.getD_eq_getElem?_getD, List.getElem?_eq_getElem (by omega), Option.getD_some]
    exact okL_at hc (by omega)
end Wd
theorem letterN_any (d : Nat) (hd : d < 4) (w : World) :
    Calls Try.prog 166 #[.int .u8 ((97 + d : Nat) : Int)] w fun e w' => e = .returned (.int .i64 (d : Int)) ∧ w' = w := by
  match d, hd with
  | 0, _ =>
    go_enter Try.func166, Try.ntmps166
    go_wp2
    go_ret
    exact ⟨rfl, rfl⟩
  | 1, _ =>
    go_enter Try.func166, Try.ntmps166
    go_wp2
    go_ret
    exact ⟨rfl, rfl⟩
  | 2, _ =>
    go_enter Try.func166, Try.ntmps166
    go_wp2
    go_ret
    exact ⟨rfl, rfl⟩
  | 3, _ =>
    go_enter Try.func166, Try.ntmps166
    go_wp2
    go_ret
    exact ⟨rfl, rfl⟩
set_option maxRecDepth 100000 in
set_option maxHeartbeats 3200000 in
theorem read_any (v : Value) (nx : List (List Int)) (st t0 : Int) (s : ByteArray) (w : World) (hs : okL s.data.toList = true) (h : IsLL w v nx) (hrow : nx.all (rowOk st) = true) (hl : (nx.length : Int) = st) (h24 : st ≤ 24) (h0 : 0 ≤ t0 ∧ t0 < st) :
    Calls Try.prog 114 #[v, .int .i64 t0, .string s] w fun e w' => e = .returned (.int .i64 (rdK nx t0 s.data.toList s.size)) ∧ Drawn w w' := by
  obtain ⟨A, c, rfl, hin⟩ := h
  have hsz : s.size ≤ 2000 := by simpa using okL_len hs
  have HI := Lib.hid hin
  have HS := Lib.hid hs
  have HROW := Lib.hid hrow
  have HIN := Lib.hid (fun k hk => rdK_in hrow hl h0 hs k hk)
  obtain ⟨N, hN⟩ : ∃ N, N = nx.length := ⟨_, rfl⟩
  rw [← hN] at hl ⊢
  have HN := Lib.hid hN
  have HLN := Lib.hid hl
  clear hin hs hrow hN hl
  go_enter Try.func114, Try.ntmps114
  go_wp2_with fail
  go_loopw [1, 7] (fun t i wr => ∃ k : Nat, k ≤ s.size ∧ i = .int .i64 k ∧ t = .int .i64 (rdK nx t0 s.data.toList k) ∧ Drawn w wr) (fun _ i _ => s.size - (intOf i).toNat)
  case atStart => exact ⟨0, Nat.zero_le _, rfl, rfl, Drawn.refl _⟩
  case round =>
    obtain ⟨k, hk, rfl, rfl, hD⟩ := hrel
    obtain ⟨wo, rfl⟩ : ∃ wo : World, wo = wr := ⟨_, rfl⟩
    have HD := Lib.hid hD
    by_cases hlt : k < s.size
    · have hin2 := HIN.out k (by simpa using hk)
      have hltr : lt s[k] = true := by
        have := okL_at HS.out (i := k) (by simpa using hlt)
        have e : s[k] = s.data.toList[k]'(by simpa using hlt) := by simp; rfl
        rw [e]
        exact this
      have hb := of_lt hltr
      obtain ⟨d, hd⟩ : ∃ d : Nat, s[k].toNat = 97 + d := ⟨s[k].toNat - 97, by omega⟩
      have hd4 : d < 4 := by omega
      obtain ⟨i, hi⟩ : ∃ i : Nat, rdK nx t0 s.data.toList k = i := ⟨(rdK nx t0 s.data.toList k).toNat, by omega⟩
      have hiN : i < nx.length := by have := HLN.out; rw [← HN.out]; omega
      rcases HI.out with hn | ⟨x, rfl, hc⟩
      · rw [hn] at hiN; simp at hiN
      obtain ⟨u, c0, A2, c2, rfl, hrow⟩ := hc i hiN
      obtain ⟨h4, hrw⟩ := row_facts HROW.out hiN
      rcases hrow with hn | ⟨y, rfl, hz⟩
      · rw [hn] at h4; simp at h4
      have d0 := hz d (by omega)
      have HNX : Hid (rdK nx t0 s.data.toList (k + 1) = nx[i][d]'(by omega)) := Lib.hid (by
        rw [rdK, hi]
        unfold stepA
        rw [show s.data.toList.getD k 97 = s[k] from by rw [List.getD_eq_getElem?_getD, List.getElem?_eq_getElem (by simpa using hlt)]; rfl, hd, show 97 + d - 97 = d from by omega, Int.toNat_natCast]
        rw [List.getD_eq_getElem?_getD (l := nx), List.getElem?_eq_getElem hiN, Option.getD_some, List.getD_eq_getElem?_getD, List.getElem?_eq_getElem (by omega), Option.getD_some])
      rw [h4] at c0
      have e0 : wo.cell? (x.add i) = some (.slice (some y) 4 c2) := by obtain ⟨m, rfl⟩ := hD; exact c0
      have f0 : wo.cell? (y.add d) = some (.int .i64 (nx[i][d]'(by omega))) := by obtain ⟨m, rfl⟩ := hD; exact d0
      have HLT := Lib.hid (fun W => letterN_any d hd4 W)
      rw [hi]
      generalize nx[i][d]'(by omega) = q at *
      have hk0 : (0 : Int) ≤ (k : Int) := by omega
      have hk1 : (k : Int) < (s.size : Int) := by omega
      have hi0 : (0 : Int) ≤ (i : Int) := by omega
      have hi1 : (i : Int) < (N : Int) := by rw [HN.out]; omega
      have hd0 : (0 : Int) ≤ (d : Int) := by omega
      have hd1 : (d : Int) < 4 := by omega
      have hsk : (s[k].toNat : Int) = ((97 + d : Nat) : Int) := by rw [hd]
      clear hin2 hltr hb hi hiN hc c0 hrw hz d0 hD hd h4
      go_wp2_with fail
      go_quiet ((go_at_call 166; exact Calls.quiet_of_same (HLT.out _)))
      go_wp2_with fail
      go_roundw
      all_goals first | exact ⟨k + 1, by omega, by go_num, by rw [HNX.out], HD.out.drewN _⟩ | (simp [intOf]; done) | (simp [intOf]; omega) | omega
    · obtain rfl : k = s.size := by omega
      go_wp2_with fail
      go_ret
      exact ⟨rfl, HD.out⟩
end Go.Proofs.Ytonbjgecdhmjbaa
