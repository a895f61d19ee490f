/-
  Walks: laws.szStringS, szStringSS, szCoder: what is left of a purse.
-/
import Derived.Test.YtddjcgaejjldbaaCoM
import Derived.StillTailTactics
namespace Go.Proofs.Ytddjcgaejjldbaa
open Go.RowKit
open Wd
set_option linter.unusedVariables false
set_option maxRecDepth 100000 in
set_option maxHeartbeats 1600000 in
theorem szS_any (v : Value) (zs : List ByteArray) (left : Int) (w : World) (hn : zs.length ≤ maxLen) (ht : ∀ s ∈ zs, s.size ≤ maxLen) (h : IsSL w v zs) (h0 : 0 ≤ left) (h1 : left ≤ 1048576) :
    Calls Try.prog 114 #[v, .int .i64 left] w fun e w' => ∃ y, e = .returned (.int .i64 y) ∧ w = w' ∧ Paid left y (zs.length ≤ 1048576) := by
  unfold maxLen at hn
  obtain ⟨A, c, rfl, hin⟩ := h
  by_cases hbig : left - (zs.length : Int) < 0
  · clear hin
    go_enter Try.func114, Try.ntmps114
    go_wp2_with fail
    go_ret
    exact ⟨_, rfl, rfl, .inl rfl⟩
  · have HI := Lib.hid hin
    have HT := Lib.hid ht
    clear hin ht
    go_enter Try.func114, Try.ntmps114
    go_wp2_with fail
    go_loopw [1, 5] (fun p i wr => ∃ k : Nat, k ≤ zs.length ∧ i = .int .i64 k ∧ (∃ q : Int, p = .int .i64 q ∧ 0 ≤ q ∧ q ≤ left) ∧ w = wr) (fun _ i _ => zs.length - (intOf i).toNat)
    case atStart => exact ⟨0, Nat.zero_le _, rfl, ⟨_, rfl, by omega, by omega⟩, rfl⟩
    case round =>
      obtain ⟨k, hk, rfl, ⟨q, rfl, hq0, hq1⟩, rfl⟩ := hrel
      by_cases hlt : k < zs.length
      · rcases HI.out with hn' | ⟨a, rfl, hc⟩
        · rw [hn'] at hlt; simp at hlt
        have c0 := hc k hlt
        have hm := HT.out zs[k] (List.getElem_mem hlt)
        generalize zs[k] = s at *
        unfold maxLen at hm
        clear hc
        by_cases hneg : q - (s.size : Int) < 0
        · go_wp2_with fail
          go_ret
          exact ⟨_, rfl, rfl, .inl rfl⟩
        · go_wp2_with fail
          go_roundw
          all_goals first | exact ⟨k + 1, by omega, by go_num, ⟨_, rfl, by omega, by omega⟩, by first | rfl | trivial⟩ | (simp [intOf]; done) | (simp [intOf]; omega) | omega
      · obtain rfl : k = zs.length := by omega
        go_wp2_with fail
        go_ret
        exact ⟨_, rfl, rfl, .inr ⟨hq0, hq1, by omega⟩⟩
set_option maxRecDepth 100000 in
set_option maxHeartbeats 1600000 in
theorem szSS_any (v : Value) (xss : List (List ByteArray)) (left : Int) (w : World) (hn : xss.length ≤ maxLen) (hr : ∀ r ∈ xss, r.length ≤ maxLen) (ht : ∀ r ∈ xss, ∀ s ∈ r, s.size ≤ maxLen) (h : IsSLL w v xss) (h0 : 0 ≤ left) (h1 : left ≤ 1048576) :
    Calls Try.prog 55 #[v, .int .i64 left] w fun e w' => ∃ y, e = .returned (.int .i64 y) ∧ w = w' ∧ Paid left y (xss.length ≤ 1048576 ∧ ∀ r ∈ xss, r.length ≤ 1048576) := by
  unfold maxLen at hn
  obtain ⟨A, c, rfl, hin⟩ := h
  by_cases hbig : left - (xss.length : Int) < 0
  · clear hin ht
    go_enter Try.func55, Try.ntmps55
    go_wp2_with fail
    go_ret
    exact ⟨_, rfl, rfl, .inl rfl⟩
  · have HI := Lib.hid hin
    have HR := Lib.hid hr
    have HTX := Lib.hid ht
    clear hin hr ht
    go_enter Try.func55, Try.ntmps55
    go_wp2_with fail
    go_loopw [1, 5] (fun p i wr => ∃ k : Nat, k ≤ xss.length ∧ i = .int .i64 k ∧ (∃ q : Int, p = .int .i64 q ∧ 0 ≤ q ∧ q ≤ left) ∧ (∀ j (hj : j < xss.length), j < k → xss[j].length ≤ 1048576) ∧ w = wr) (fun _ i _ => xss.length - (intOf i).toNat)
    case atStart => exact ⟨0, Nat.zero_le _, rfl, ⟨_, rfl, by omega, by omega⟩, fun j hj h => by omega, rfl⟩
    case round =>
      obtain ⟨k, hk, rfl, ⟨q, rfl, hq0, hq1⟩, hle, rfl⟩ := hrel
      by_cases hlt : k < xss.length
      · rcases HI.out with hn' | ⟨a, rfl, hc⟩
        · rw [hn'] at hlt; simp at hlt
        obtain ⟨u, c0, hu⟩ := hc k hlt
        obtain ⟨A2, c2, rfl⟩ := hu.shape
        have hm := HR.out xss[k] (List.getElem_mem hlt)
        have HZ := Lib.hid (szS_any _ xss[k] q _ hm (HTX.out _ (List.getElem_mem hlt)) hu hq0 (by omega))
        have HLE := Lib.hid (fun (hh : xss[k].length ≤ 1048576) => (fun j (hj : j < xss.length) (h : j < k + 1) => by
          by_cases e : j = k
          · subst e; exact hh
          · exact hle j hj (by omega) : ∀ j (hj : j < xss.length), j < k + 1 → xss[j].length ≤ 1048576))
        generalize xss[k].length = m at *
        clear hu hc hle
        go_wp2_with fail
        refine HZ.out.mono ?_
        rintro e w2 ⟨y, rfl, rfl, rfl | ⟨hy0, hy1, hml⟩⟩
        · go_wp2_with fail
          go_ret
          exact ⟨_, rfl, rfl, .inl rfl⟩
        · have hny : ¬ y < 0 := by omega
          go_wp2_with fail
          go_roundw
          all_goals first | exact ⟨k + 1, by omega, by go_num, ⟨_, rfl, by omega, by omega⟩, HLE.out hml, by first | rfl | trivial⟩ | (simp [intOf]; done) | (simp [intOf]; omega) | omega
      · obtain rfl : k = xss.length := by omega
        go_wp2_with fail
        go_ret
        exact ⟨_, rfl, rfl, .inr ⟨hq0, hq1, by omega, fun r hr => by obtain ⟨j, hj, e⟩ := List.getElem_of_mem hr; rw [← e]; exact hle j hj hj⟩⟩

set_option maxRecDepth 100000 in
set_option maxHeartbeats 1600000 in
theorem szCoder_any (v : Value) (x : Co) (left : Int) (w : World) (hm : MaxC x) (h : IsCo w v x) (h0 : 0 ≤ left) (h1 : left ≤ 1048576) :
    Calls Try.prog 15 #[v, .int .i64 left] w fun e w' => ∃ y, e = .returned (.int .i64 y) ∧ Below w.heap.size w w' ∧ Paid left y (FewC x) := by
  obtain ⟨n, o, rfl, hn, ho⟩ := h
  have hB := (Below.refl _ w).alloc (Nat.le_refl _) (.cells #[.int .i64 x.st, .int .i64 x.go, n, o] 25)
  have HZ := Lib.hid (szLL_any n x.nx left _ hm.nx hm.row (hn.kept hB) h0 h1)
  have HO := Lib.hid (fun q (h0 : 0 ≤ q) (h1 : q ≤ 1048576) => szSS_any o x.ou q _ hm.ou hm.orow hm.txt (ho.kept hB) h0 h1)
  have HM := Lib.hid hm
  have HB := Lib.hid hB
  obtain ⟨An, cn, rfl, hx⟩ := hn
  obtain ⟨Ao, co, rfl, hx'⟩ := ho
  clear hx hx' hm hB
  go_enter Try.func15, Try.ntmps15
  go_wp2_with fail
  refine HZ.out.mono ?_
  rintro e w2 ⟨y, rfl, rfl, rfl | ⟨hy0, hy1, hl, hr⟩⟩
  · go_wp2_with fail
    go_ret
    exact ⟨_, rfl, HB.out, .inl rfl⟩
  · have hny : ¬ y < 0 := by omega
    have HL := Lib.hid (And.intro hl hr)
    clear hl hr
    go_wp2_with fail
    refine (HO.out y hy0 (by omega)).mono ?_
    rintro e w2 ⟨z, rfl, rfl, rfl | ⟨hz0, hz1, hl', hr'⟩⟩
    · go_wp2_with fail
      go_ret
      exact ⟨_, rfl, HB.out, .inl rfl⟩
    · have hnz : ¬ z < 0 := by omega
      go_wp2_with fail
      go_ret
      exact ⟨_, rfl, HB.out, .inr ⟨hz0, by omega, HL.out.1, HL.out.2, hl', hr', HM.out.txt⟩⟩
end Go.Proofs.Ytddjcgaejjldbaa
