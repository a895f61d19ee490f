/-
  Walks: spec.l04Coder, spec.ValidCoder.
-/
import Derived.Test.YtddjcgaejjldbaaCoEq
import Derived.Test.YtddjcgaejjldbaaAuOk2
namespace Go.Proofs.Ytddjcgaejjldbaa
open Go.RowKit
open Wd
set_option linter.unusedVariables false
theorem orow_facts {r : List ByteArray} : orowOk r = true ↔ r.length = 4 ∧ ∀ j (hj : j < r.length), outOk r[j] = true := by
  unfold orowOk
  rw [Bool.and_eq_true, decide_eq_true_iff]
  refine and_congr Iff.rfl ⟨fun h j hj => List.all_eq_true.1 h _ (List.getElem_mem hj), fun h => List.all_eq_true.2 fun s hs => ?_⟩
  obtain ⟨j, hj, e⟩ := List.getElem_of_mem hs
  rw [← e]
  exact h j hj
theorem outOk_big {s : ByteArray} (h : 6 < s.size) : outOk s = false := by unfold outOk; rw [decide_eq_false (by omega), Bool.false_and]
theorem outOk_few {s : ByteArray} (h : s.size ≤ 6) : outOk s = okL s.data.toList := by unfold outOk; rw [decide_eq_true h, Bool.true_and]
set_option maxRecDepth 100000 in
set_option maxHeartbeats 6400000 in
theorem l04Coder_rest (pb : Nat) (A Ao : Option Addr) (c co : Nat) (st go : Int) (nx : List (List Int)) (ou : List (List ByteArray)) (w : World) (hP : w.heap[pb]? = some (.cells #[.int .i64 st, .int .i64 go, .slice A nx.length c, .slice Ao ou.length co] 28 (0, 0))) (hN : IsLL w (.slice A nx.length c) nx) (hO : IsSLL w (.slice Ao ou.length co) ou) (hf : FewC ⟨st, go, nx, ou⟩)
    (h1 : 1 ≤ st ∧ st ≤ 24) (h2 : 0 ≤ go ∧ go ≤ st - 1) (h3 : (nx.all (rowOk st) && decide ((nx.length : Int) = st)) = true) (h4 : (ou.length : Int) = st) :
    Calls Try.prog 56 #[.pointer (some ⟨pb, 0, none⟩)] w fun e w' => e = .returned (.bool (ou.all orowOk)) ∧ Drawn w w' := by
  obtain ⟨⟨p0, p1, p2, p3⟩, _⟩ := blk4_cells hP
  have H1 := Lib.hid (fun W => inB_any st 1 24 W)
  rw [decide_eq_true h1] at H1
  have H2 := Lib.hid (fun W => inB_any go 0 (st - 1) W)
  rw [decide_eq_true h2] at H2
  have H4 := Lib.hid (fun n => next_any _ nx st (w.drewN n) h1.1 h1.2 hf.nx hf.row (hN.kept (((Drawn.refl w).drewN n).below _)))
  rw [h3] at H4
  have hw1 : IntKind.i64.wrap (st - 1) = st - 1 := by rw [IntKind.wrap_i64]; omega
  have HT := Lib.hid hf.txt
  simp only at HT
  obtain ⟨Ao', co', hv, hin⟩ := hO
  injection hv with hvA hvn hvc
  subst hvA hvc
  have HI := Lib.hid hin
  obtain ⟨N, hNe⟩ : ∃ N, N = ou.length := ⟨_, rfl⟩
  rw [← hNe] at p3 h4
  have hl : N ≤ 1048576 := by rw [hNe]; exact hf.ou
  have hbe : ((N : Int) != st) = false := by simp [h4]
  have HN := Lib.hid hNe
  clear hP hN hin h1 h2 h3 h4 hNe hvn hf
  go_enter Try.func56, Try.ntmps56
  go_wp2_with fail
  go_quiet ((first
    | (go_at_call_of 90 (Value.int .i64 24); exact Calls.quiet_of_same (H1.out _))
    | (go_at_call_of 90 (Value.int .i64 go); exact Calls.quiet_of_same (H2.out _))
    | (go_at_call 115; exact Calls.quiet_of_same (H4.out _))))
  go_wp2_with fail
  have q3 : (w.drewN nq).cell? ⟨pb, 3, none⟩ = some (.slice Ao N co) := p3
  have HI1 : Hid (ou = [] ∨ ∃ a, Ao = some a ∧ ∀ j (hj : j < ou.length), ∃ u, (w.drewN nq).cell? (a.add j) = some u ∧ IsSL (w.drewN nq) u ou[j]) := Lib.hid (by
    rcases HI.out with h | ⟨a, ha, hc⟩
    · exact .inl h
    · refine .inr ⟨a, ha, fun j hj => ?_⟩
      obtain ⟨u, g1, g2⟩ := hc j hj
      exact ⟨u, g1, g2.kept (((Drawn.refl w).drewN nq).below _)⟩)
  have HD := Lib.hid ((Drawn.refl w).drewN nq)
  generalize w.drewN nq = w1 at *
  clear p0 p1 p2 p3 H1 H2 H4 hbe hw1 HI
  go_loopw [3] (fun i wr => ∃ k : Nat, k ≤ N ∧ i = .int .i64 k ∧ (∀ j (hj : j < ou.length), j < k → orowOk ou[j] = true) ∧ wr = w1) (fun i _ => N - (intOf i).toNat)
  case atStart => exact ⟨0, Nat.zero_le _, rfl, fun j hj h => by omega, rfl⟩
  case round =>
    obtain ⟨k, hk, rfl, hall, rfl⟩ := hrel
    obtain ⟨wo, rfl⟩ : ∃ wo : World, wo = wr := ⟨_, rfl⟩
    have HALL := Lib.hid hall
    clear hall
    by_cases hlt : k < N
    · have hkg : k < ou.length := by rw [← HN.out]; exact hlt
      rcases HI1.out with hn | ⟨x, rfl, hc⟩
      · rw [hn] at hkg; simp at hkg
      obtain ⟨u, c0, A2, c2, rfl, hrow⟩ := hc k hkg
      have htx := HT.out ou[k] (List.getElem_mem hkg)
      have HBAD : Hid (orowOk ou[k] = false → ou.all orowOk = false) := Lib.hid (fun h => by
        rw [List.all_eq_false]
        exact ⟨ou[k], List.getElem_mem hkg, by rw [h]; decide⟩)
      have HGOOD : Hid (orowOk ou[k] = true → ∀ j (hj : j < ou.length), j < k + 1 → orowOk ou[j] = true) := Lib.hid (fun h j hj hjk => by
        by_cases e : j = k
        · subst e; exact h
        · exact HALL.out j hj (by omega))
      generalize ou[k] = r at *
      have HROW := Lib.hid hrow
      have HTX := Lib.hid htx
      obtain ⟨m, hm'⟩ : ∃ m, m = r.length := ⟨_, rfl⟩
      rw [← hm'] at c0
      have HM := Lib.hid hm'
      clear hrow hc hm' htx
      by_cases h4 : m = 4
      · subst h4
        have HM0 := HM.out
        rcases HROW.out with he | ⟨y, rfl, hz⟩
        · rw [he] at HM0; simp at HM0
        have HZ := Lib.hid hz
        clear HM0 hz HROW
        go_wp2_with fail
        go_loopw [4] (fun i wr => ∃ q : Nat, q ≤ 4 ∧ i = .int .i64 q ∧ (∀ j (hj : j < r.length), j < q → outOk r[j] = true) ∧ wr = wo) (fun i _ => 4 - (intOf i).toNat)
        case atStart => exact ⟨0, Nat.zero_le _, rfl, fun j hj h => by omega, rfl⟩
        case round =>
          obtain ⟨q, hq, rfl, hall, rfl⟩ := hrel
          have HA := Lib.hid hall
          clear hall
          by_cases hq4 : q < 4
          · have hqr : q < r.length := by rw [← HM.out]; exact hq4
            have z0 := HZ.out q hqr
            have hss := HTX.out _ (List.getElem_mem hqr)
            have hq0 : (0 : Int) ≤ (q : Int) := by omega
            have hq1 : (q : Int) < 4 := by omega
            have HB2 : Hid (outOk r[q] = false → orowOk r = false) := Lib.hid (fun h => by
              cases ho : orowOk r
              · rfl
              · rw [(orow_facts.1 ho).2 q hqr] at h; cases h)
            have HG2 : Hid (outOk r[q] = true → ∀ j (hj : j < r.length), j < q + 1 → outOk r[j] = true) := Lib.hid (fun h j hj hjq => by
              by_cases e : j = q
              · subst e; exact h
              · exact HA.out j hj (by omega))
            have HO := Lib.hid (fun W => specOk r[q] W hss)
            generalize r[q] = s at *
            unfold maxLen at hss
            by_cases hbig : 6 < s.size
            · have hd : decide ((6 : Int) < (s.size : Int)) = true := decide_eq_true (by omega)
              have hd2 : decide (6 < s.size) = true := decide_eq_true (by omega)
              have HF := Lib.hid (HBAD.out (HB2.out (outOk_big hbig)))
              clear HB2 HG2 HO hbig
              go_wp2_with fail
              go_ret
              exact ⟨by rw [HF.out] <;> rfl, HD.out⟩
            · have hd : decide ((6 : Int) < (s.size : Int)) = false := decide_eq_false (by omega)
              have hd2 : decide (6 < s.size) = false := decide_eq_false (by omega)
              have he := outOk_few (s := s) (by omega)
              cases ho : okL s.data.toList
              · rw [ho] at HO he
                have HF := Lib.hid (HBAD.out (HB2.out he))
                clear HB2 HG2 hbig he ho
                go_wp2_with fail
                refine (HO.out _).mono ?_
                rintro e w5 ⟨rfl, rfl⟩
                go_wp2_with fail
                go_ret
                exact ⟨by rw [HF.out] <;> rfl, HD.out⟩
              · rw [ho] at HO he
                have HNX := Lib.hid (HG2.out he)
                clear HB2 HG2 hbig he ho
                go_wp2_with fail
                refine (HO.out _).mono ?_
                rintro e w5 ⟨rfl, rfl⟩
                go_wp2_with fail
                go_roundw
                all_goals first | exact ⟨q + 1, by omega, by go_num, HNX.out, by first | rfl | trivial⟩ | ((repeat apply Exists.intro); exact ⟨⟨q + 1, by omega, by go_num, HNX.out, by first | rfl | trivial⟩, by first | rfl | trivial⟩) | (simp [intOf]; done) | (simp [intOf]; omega) | omega
          · obtain rfl : q = 4 := by omega
            have HNX := Lib.hid (HGOOD.out (orow_facts.2 ⟨HM.out.symm, fun j hj => HA.out j hj (by rw [HM.out]; exact hj)⟩))
            go_wp2_with fail
            go_roundw
            all_goals first | exact ⟨k + 1, by omega, by go_num, HNX.out, by first | rfl | trivial⟩ | ((repeat apply Exists.intro); exact ⟨⟨k + 1, by omega, by go_num, HNX.out, by first | rfl | trivial⟩, by first | rfl | trivial⟩) | (simp [intOf]; done) | (simp [intOf]; omega) | omega
      · have hne : ¬ (m : Int) = 4 := by omega
        have HF := Lib.hid (HBAD.out (by unfold orowOk; rw [← HM.out, decide_eq_false h4]; rfl))
        clear HBAD HGOOD HALL
        go_wp2_with fail
        go_ret
        exact ⟨by rw [HF.out] <;> rfl, HD.out⟩
    · obtain rfl : k = N := by omega
      have HT2 : Hid (ou.all orowOk = true) := Lib.hid (by
        rw [List.all_eq_true]
        intro r hr
        obtain ⟨j, hj, e⟩ := List.getElem_of_mem hr
        rw [← e]
        exact HALL.out j hj (by rw [HN.out]; exact hj))
      clear HALL
      go_wp2_with fail
      go_ret
      exact ⟨by rw [HT2.out] <;> rfl, HD.out⟩
end Go.Proofs.Ytddjcgaejjldbaa
