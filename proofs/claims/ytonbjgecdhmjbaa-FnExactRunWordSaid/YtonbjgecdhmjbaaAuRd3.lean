/-
  Walk: impl.RunWord.
-/
import Derived.Test.YtonbjgecdhmjbaaAuRd2
import Derived.Deep.Cut
namespace Go.Proofs.Ytonbjgecdhmjbaa
open Go.RowKit
open Wd
set_option linter.unusedVariables false
/-- between two letters -/
structure RdS (x : Au) (t : Int) (s : ByteArray) (w1 : World) (I k : Nat) (wr : World) : Prop where
  it : wr.heap[I]? = some (.stringIter s k)
  below : Below I w1 wr
theorem rdS_drewN {x : Au} {t : Int} {s : ByteArray} {w1 wr : World} {I k : Nat} (h : RdS x t s w1 I k wr) (q : Nat) : RdS x t s w1 I k (wr.drewN q) := ⟨h.it, drewN_below' h.below q⟩
set_option maxRecDepth 100000 in
set_option maxHeartbeats 6400000 in
theorem implRunWord (v : Value) (x : Au) (t : Int) (s : ByteArray) (w : World) (hsz : s.size ≤ maxLen) (hf : FewA x) (h : IsAu w v x) :
    Calls Try.prog 47 #[v, .int .i64 t, .string s] w fun e w' => e = .returned (.tuple #[.int .i64 (runW x t s).1, .int .i64 (runW x t s).2]) ∧ Below w.heap.size w w' := by
  have HIS := Lib.hid (fun W (hb : Below w.heap.size w W) => h.kept hb)
  obtain ⟨f, n, rfl, hF, hN⟩ := h
  have hb := (Below.refl _ w).alloc (Nat.le_refl _) (.cells #[.int .i64 x.st, .int .i64 x.go, f, n] 61)
  have hP := heap_alloc_new w (.cells #[.int .i64 x.st, .int .i64 x.go, f, n] 61)
  have HC := Lib.hid (implValidAuto _ x _ hf (HIS.out _ hb))
  have HO := Lib.hid (fun W => implOk s W hsz)
  have HI := Lib.hid (fun W => isOf_any t x.st W)
  have HN := Lib.hid (fun W (h : Below w.heap.size w W) => hN.kept h)
  have HB := Lib.hid hb
  have HP := Lib.hid hP
  obtain ⟨Af, cf, rfl⟩ := hF.shape
  obtain ⟨An, cn, rfl, hx⟩ := hN
  obtain ⟨⟨p0, p1, p2, p3⟩, _⟩ := blk4_cells hP
  have HLT := Lib.hid (show w.heap.size < (w.alloc (.cells #[.int .i64 x.st, .int .i64 x.go, .slice Af x.fin.length cf, .slice An x.nx.length cn] 61)).heap.size by simp)
  clear hF hx hb hP HIS
  unfold runW
  cases ha : aOk x
  · rw [ha] at HC
    rw [if_neg (fun h => by cases h.1)]
    clear ha
    go_enter Try.func47, Try.ntmps47
    go_wp2_with fail
    refine HC.out.mono ?_
    rintro e w1 ⟨rfl, hB1⟩
    have HB1 := Lib.hid (HB.out.trans (hB1.mono (by simp)))
    go_wp2_with fail
    go_ret2
    exact ⟨rfl, HB1.out⟩
  · rw [ha] at HC
    obtain ⟨⟨h1, h24⟩, hrow, hlen⟩ := aOk_parts ha
    clear ha
    cases ho : okL s.data.toList
    · rw [ho] at HO
      rw [if_neg (fun h => by cases h.2)]
      clear ho hrow hlen
      go_enter Try.func47, Try.ntmps47
      go_wp2_with fail
      refine HC.out.mono ?_
      rintro e w1 ⟨rfl, hB1⟩
      have HB1 := Lib.hid (HB.out.trans (hB1.mono (by simp)))
      clear hB1
      go_wp2_with fail
      refine (HO.out _).mono ?_
      rintro e w1 ⟨rfl, rfl⟩
      go_wp2_with fail
      go_ret2
      exact ⟨rfl, HB1.out⟩
    · rw [ho] at HO
      rw [if_pos ⟨rfl, rfl⟩]
      by_cases ht : 0 ≤ t ∧ t < x.st
      · rw [if_pos ht]
        rw [decide_eq_true ht] at HI
        have HOK := Lib.hid ho
        have HROW := Lib.hid hrow
        have HIN := Lib.hid (fun k hk => rdK_in hrow hlen ht ho k hk)
        have HLEN := Lib.hid hlen
        clear ho hrow hlen ht h1 h24
        go_enter Try.func47, Try.ntmps47
        go_wp2_with fail
        refine HC.out.mono ?_
        rintro e w1 ⟨rfl, hB1⟩
        have HB1 := Lib.hid (HB.out.trans (hB1.mono (by simp)))
        have HP1 := Lib.hid ((hB1.block w.heap.size HLT.out).trans HP.out)
        have HS1 : Hid (w.heap.size < w1.heap.size) := Lib.hid (by have := hB1.size; have := HLT.out; omega)
        clear hB1 p0 p1 p2 p3
        obtain ⟨⟨p0, p1, p2, p3⟩, _⟩ := blk4_cells HP1.out
        go_wp2_with fail
        refine (HO.out _).mono ?_
        rintro e w2 ⟨rfl, rfl⟩
        go_wp2_with fail
        refine (HI.out _).mono ?_
        rintro e w2 ⟨rfl, rfl⟩
        go_wp2_with fail
        have hI0 := World.iter_heap w2 s 0
        obtain ⟨I, hI⟩ : ∃ I, I = w2.heap.size := ⟨_, rfl⟩
        have HST : Hid (RdS x t s w2 I 0 (w2.iter s 0)) := Lib.hid ⟨by rw [hI]; exact hI0, by rw [hI]; exact (Below.refl _ w2).alloc (Nat.le_refl _) (.stringIter s 0)⟩
        have HPI : Hid (w.heap.size < I) := Lib.hid (by rw [hI]; exact HS1.out)
        have HNX := Lib.hid (HN.out _ HB1.out)
        have HIE := Lib.hid hI
        rw [← hI]
        generalize w2.iter s 0 = w3 at *
        clear hI hI0 HC HO HI HN HB HP
        have P3 := Lib.hid p3
        clear p0 p1 p2 p3
        go_loopw [1] (fun u wr => ∃ k : Nat, k ≤ s.size ∧ u = .int .i64 (rdK x.nx t s.data.toList k) ∧ RdS x t s w2 I k wr) (fun _ wr => s.size - wr.iterPos I)
        case atStart => exact ⟨0, Nat.zero_le _, rfl, HST.out⟩
        case round =>
          obtain ⟨k, hk, rfl, hrd⟩ := hrel
          obtain ⟨wo, rfl⟩ : ∃ wo : World, wo = wr := ⟨_, rfl⟩
          have hms := iterPos_of hrd.it
          by_cases hlt : k < s.size
          · have hin2 := HIN.out k (by simpa using hk)
            have hltr : lt s[k] = true := by
              have := okL_at HOK.out (i := k) (by simpa using hlt)
              have e : s[k] = s.data.toList[k]'(by simpa using hlt) := by simp; rfl
              rw [e]
              exact this
            have hb := of_lt hltr
            obtain ⟨d, hd⟩ : ∃ d : Nat, s[k].toNat = 97 + d := ⟨s[k].toNat - 97, by omega⟩
            have hd4 : d < 4 := by omega
            obtain ⟨i, hi⟩ : ∃ i : Nat, rdK x.nx t s.data.toList k = i := ⟨(rdK x.nx t s.data.toList k).toNat, by omega⟩
            have hiN : i < x.nx.length := by have := HLEN.out; omega
            obtain ⟨Ax, cx, hvx, hcx⟩ := HNX.out
            injection hvx with hvA hvn hvc
            subst hvA hvc
            rcases hcx with hn | ⟨a, rfl, hc⟩
            · rw [hn] at hiN; simp at hiN
            obtain ⟨u, c0, A2, c2, rfl, hrow⟩ := hc i hiN
            obtain ⟨h4, hrw⟩ := row_facts HROW.out hiN
            rcases hrow with hn | ⟨y, rfl, hz⟩
            · rw [hn] at h4; simp at h4
            have d0 := hz d (by omega)
            have HNXT : Hid (rdK x.nx t s.data.toList (k + 1) = x.nx[i][d]'(by omega)) := Lib.hid (by
              rw [rdK, hi]
              unfold stepA
              rw [show s.data.toList.getD k 97 = s[k] from by rw [List.getD_eq_getElem?_getD, List.getElem?_eq_getElem (by simpa using hlt)]; rfl, hd, show 97 + d - 97 = d from by omega, Int.toNat_natCast]
              rw [List.getD_eq_getElem?_getD (l := x.nx), List.getElem?_eq_getElem hiN, Option.getD_some, List.getD_eq_getElem?_getD, List.getElem?_eq_getElem (by omega), Option.getD_some])
            rw [h4] at c0
            have hnx : ∀ ty, (Instr.next (.pointer (some ⟨I, 0, none⟩)) true ty).run Try.prog wo = .ok (.tuple #[.bool true, .int .i64 k, .int .i32 (97 + (d : Int))]) (wo.iterAt I s (k + 1)) := fun ty => by
              rw [Lib.run_next_ascii_at wo I s k ty hrd.it hlt (by rw [hd]; omega), hd]
              simp
            have hrd2 : RdS x t s w2 I (k + 1) (wo.iterAt I s (k + 1)) := ⟨Lib.iterAt_heap wo I s k (k + 1) hrd.it, Lib.below_iterAt hrd.below (Nat.le_refl _) s (k + 1)⟩
            have hle : ∀ p : Addr, p.block < w2.heap.size → (wo.iterAt I s (k + 1)).cell? p = w2.cell? p := fun p hp => hrd2.below.cell (by rw [HIE.out]; exact hp)
            have e0 := (hle _ (lt_of_cell c0)).trans c0
            have f0 := (hle _ (lt_of_cell d0)).trans d0
            have g0 := (hle _ (lt_of_cell P3.out)).trans P3.out
            have HIX := Lib.hid (fun W => indexL_any d hd4 W)
            have HR2 := Lib.hid hrd2
            rw [hi]
            generalize x.nx[i][d]'(by omega) = q at *
            have hi0 : (0 : Int) ≤ (i : Int) := by omega
            have hi1 : (i : Int) < (x.nx.length : Int) := by omega
            have hd0 : (0 : Int) ≤ (d : Int) := by omega
            have hd1 : (d : Int) < 4 := by omega
            clear hin2 hltr hb hi hiN hc c0 hrw hz d0 hd h4 hrd hrd2 hle hvn
            generalize x.nx.length = N at *
            generalize wo.iterAt I s (k + 1) = w5 at *
            go_wp2_with fail
            go_quiet ((go_at_call 115; exact Calls.quiet_of_same (HIX.out _)))
            go_wp2_with fail
            go_roundw
            all_goals first | exact ⟨k + 1, by omega, by rw [HNXT.out], rdS_drewN HR2.out _⟩ | ((repeat apply Exists.intro); exact ⟨⟨k + 1, by omega, by rw [HNXT.out], rdS_drewN HR2.out _⟩, rfl⟩) | (have := iterPos_of (rdS_drewN HR2.out nq).it; omega) | skip
          · obtain rfl : k = s.size := by omega
            have hnx : ∀ ty, (Instr.next (.pointer (some ⟨I, 0, none⟩)) true ty).run Try.prog wo = .ok (.tuple #[.bool false]) wo := fun ty => Lib.run_next_end_at wo I s s.size ty hrd.it (by omega)
            have HR := Lib.hid hrd
            clear hrd
            go_wp2_with fail
            go_ret2
            exact ⟨rfl, HB1.out.trans (HR.out.below.mono (by have := HPI.out; omega))⟩
      · rw [if_neg ht]
        rw [decide_eq_false ht] at HI
        clear ho hrow hlen ht
        go_enter Try.func47, Try.ntmps47
        go_wp2_with fail
        refine HC.out.mono ?_
        rintro e w1 ⟨rfl, hB1⟩
        have HB1 := Lib.hid (HB.out.trans (hB1.mono (by simp)))
        have HP1 := Lib.hid ((hB1.block w.heap.size HLT.out).trans HP.out)
        clear hB1 p0 p1 p2 p3
        obtain ⟨⟨p0, p1, p2, p3⟩, _⟩ := blk4_cells HP1.out
        go_wp2_with fail
        refine (HO.out _).mono ?_
        rintro e w1 ⟨rfl, rfl⟩
        go_wp2_with fail
        refine (HI.out _).mono ?_
        rintro e w1 ⟨rfl, rfl⟩
        go_wp2_with fail
        go_ret2
        exact ⟨rfl, HB1.out⟩
end Go.Proofs.Ytonbjgecdhmjbaa
