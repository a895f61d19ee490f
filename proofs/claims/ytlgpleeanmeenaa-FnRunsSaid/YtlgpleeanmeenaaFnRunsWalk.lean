/-
  The walk of FnRuns.
-/
import Derived.Test.YtlgpleeanmeenaaLawRowB
import Derived.Test.YtlgpleeanmeenaaRsF
import Derived.Test.YtlgpleeanmeenaaRsI
import Derived.Test.YtlgpleeanmeenaaRuJ
import Derived.Deep.QuietTactic
import Derived.BigQuiet
namespace Go.Proofs.Ytlgpleeanmeenaa.fnRuns
open Go.RowKit Wd
set_option linter.unusedVariables false
theorem few_okR {l : List UInt8} (h : Few l) (hs : l.length ≤ 2000) : okL l = true := by
  simp only [okL, Bool.and_eq_true, decide_eq_true_eq, List.all_eq_true]
  refine ⟨hs, fun c hc => ?_⟩
  obtain ⟨h1, h2⟩ := h c hc
  simp only [lt, Bool.and_eq_true, decide_eq_true_eq]
  exact ⟨h1, Nat.le_trans h2 (by decide)⟩
set_option maxRecDepth 100000 in
set_option maxHeartbeats 6400000 in
theorem walk (a0 : Option Addr) (len0 cap0 : Nat) (z0 : List Int) (a1 : Option Addr) (len1 cap1 : Nat) (z1 : List Int) (w : World) (w0 : IsRow .u8 w a0 len0 cap0 z0) (w1 : IsRow .u8 w a1 len1 cap1 z1) :
    Calls Try.prog 11 #[.slice a0 len0 cap0, .slice a1 len1 cap1] w fun e w' => e = .returned (.bool true) ∧ Below w.heap.size w w' := by
  have b0 := bytes_of w0
  clear w0 w1
  by_cases hlong : ¬ (len0 ≤ 3000 ∧ len1 ≤ 3000)
  · have H1 := Lib.hid (a2Long_out a0 a1 len0 len1 cap0 cap1 w hlong)
    clear hlong b0
    go_enter Try.func11, Try.ntmps11
    go_wp2_with fail
    refine H1.out.mono ?_
    rintro e w' ⟨rfl, rfl⟩
    go_wp2
    go_ret
    exact ⟨rfl, Below.refl _ _⟩
  obtain ⟨hl0, hl1⟩ := Classical.not_not.1 hlong
  clear hlong
  have H1 := Lib.hid (a2Long_in a0 a1 len0 len1 cap0 cap1 w hl0 hl1)
  have H2 := Lib.hid (fun W (hb : Bytes W a0 len0) => a2Word a0 len0 cap0 W (by omega) hb 30 (by decide) (by decide))
  go_enter Try.func11, Try.ntmps11
  go_wp2_with fail
  refine H1.out.mono ?_
  rintro e w' ⟨rfl, hw⟩
  have hw := hw.symm
  subst hw
  have H2 := Lib.hid (H2.out _ b0)
  clear b0 H1 hl0 hl1
  go_wp2_with fail
  refine H2.out.mono ?_
  rintro e w1 ⟨u, rfl, hu1, hu2, hB1⟩
  have hus : u.size ≤ 30 := by omega
  have hok : okL u.data.toList = true := few_okR hu2 (by simp; omega)
  have hA : rsA u = (rsK u.data.toList u.size, 0) := by unfold rsA; rw [if_pos hok]
  have hbk := runs_back hok
  have hg := rs_all u.data.toList
  have hul : u.data.toList.length = u.size := by simp
  rw [hul] at hg
  have HRU := Lib.hid (fun W => implRunsOf u W (by unfold maxLen; omega))
  have hlen := rsK_len u.data.toList u.size
  have hcn := rsK_cnt u.data.toList u.size
  obtain ⟨rs, hrs⟩ : ∃ rs, rs = rsK u.data.toList u.size := ⟨_, rfl⟩
  rw [hA, ← hrs] at HRU
  rw [← hrs] at hbk hg hlen hcn
  have hfew : FewU rs := by
    unfold FewU
    have h1 : sumU rs ≤ rs.length := by
      have : ∀ (gs : List Ru), (∀ x ∈ gs, ∃ c ∈ u.data.toList, x.L = oneB c) → sumU gs ≤ gs.length := by
        intro gs
        induction gs with
        | nil => intro _; simp [sumU]
        | cons x gs ih =>
          intro h
          obtain ⟨c, _, hc⟩ := h x List.mem_cons_self
          have h2 := ih (fun y hy => h y (List.mem_cons_of_mem _ hy))
          have h3 : sumU (x :: gs) = x.L.size + sumU gs := by simp [sumU]
          have h4 : x.L.size = 1 := by rw [hc]; rfl
          rw [h3, h4, List.length_cons]
          omega
      exact this rs hg.one
    omega
  have HWR := Lib.hid (fun v W (h : Runs W v rs) => implWordOfRuns v rs W hfew h)
  rw [hbk] at HWR
  have huu : (⟨u.data.toList.toArray⟩ : ByteArray) = u := by
    apply ByteArray.ext
    simp
  simp only [huu] at HWR
  have HG := Lib.hid hg
  have HB1 := Lib.hid hB1
  have HCN := Lib.hid hcn
  clear hB1 hbk hfew hu2 hok hA hul hrs huu hg hu1 hcn H2
  go_wp2_with fail
  refine (HRU.out _).mono ?_
  rintro e w2 ⟨v, rfl, ho, hB2⟩
  have HO := Lib.hid ho
  obtain ⟨A, c, rfl⟩ := own_slice ho
  have HB2 := Lib.hid (HB1.out.trans (hB2.mono HB1.out.size))
  clear ho hB2
  go_wp2_with fail
  refine (HWR.out _ _ (Runs.of_own HO.out)).mono ?_
  rintro e w3 ⟨rfl, hB3⟩
  have HR3 := Lib.hid ((Runs.of_own HO.out).kept hB3)
  have HB3 := Lib.hid (HB2.out.trans (hB3.mono HB2.out.size))
  clear hB3
  obtain ⟨n, hn⟩ : ∃ n, n = rs.length := ⟨_, rfl⟩
  rw [← hn] at hlen ⊢
  have HN := Lib.hid hn
  clear hn HRU HWR
  go_wp2_with fail
  have HTOT : Hid (∀ k, 0 ≤ totU (rs.take k) ∧ totU (rs.take k) ≤ 30) := Lib.hid (fun k => by
    have h1 := totU_le (gs := rs) (fun j hj => decide_eq_true (HG.out.cnt _ (List.getElem_mem hj))) k
    have h2 := HG.out.tot
    omega)
  have HTA : Hid (totU (rs.take n) = (u.size : Int)) := Lib.hid (by
    rw [HN.out, List.take_of_length_le (Nat.le_refl _)]
    exact HG.out.tot)
  have hn30 : n ≤ 30 := by omega
  go_loopw [10, 11] (fun sm i wr => ∃ k : Nat, k ≤ n ∧ i = .int .i64 k ∧ sm = .int .i64 (totU (rs.take k)) ∧ Drawn w3 wr) (fun _ i _ => n - (intOf i).toNat)
  case atStart => exact ⟨0, Nat.zero_le _, rfl, by simp [totU], Drawn.refl _⟩
  case round =>
    obtain ⟨k, hk, rfl, rfl, q, rfl⟩ := hrel
    by_cases hlt : k < n
    · have hkg : k < rs.length := by rw [← HN.out]; exact hlt
      obtain ⟨A', c', hv, hrr⟩ := HR3.out
      injection hv with e1 e2 e3
      subst e1 e3
      rcases hrr with h0 | ⟨g, rfl, hg, hc⟩
      · rw [h0] at hkg; simp at hkg
      obtain ⟨a0, a1⟩ := runs_cells hc hkg
      have c0 : (w3.drewN q).cell? ⟨g, k * 2, none⟩ = some (.string rs[k].L) := a0
      have c1 : (w3.drewN q).cell? ⟨g, k * 2 + 1, none⟩ = some (.int .i64 rs[k].l) := a1
      have hcnt := HCN.out _ (List.getElem_mem hkg)
      have htk := totU_take hkg
      have hb1 := HTOT.out k
      have hb2 := HTOT.out (k + 1)
      have HQD : Hid (∀ m, Drawn w3 ((w3.drewN q).drewN m)) := Lib.hid (fun m => ⟨q + m, by rw [World.drewN_drewN]⟩)
      have hl1 : ¬ rs[k].l < 1 := by omega
      have hdl : decide (rs[k].l < 1) = false := decide_eq_false hl1
      have hk0 : (0 : Int) ≤ (k : Int) := by omega
      have hk1 : (k : Int) < (n : Int) := by omega
      rcases Nat.eq_zero_or_pos k with hz | hz
      · subst hz
        generalize rs[0].l = l at *
        generalize rs[0].L = L at *
        obtain ⟨T, hT⟩ : ∃ T, T = totU (rs.take 0) := ⟨_, rfl⟩
        rw [← hT] at htk hb1 ⊢
        have HTK := Lib.hid htk
        have hT0 : T = 0 := by rw [hT]; simp [totU]
        clear a0 a1 hc hg hT htk
        generalize w3.drewN q = w4 at *
        go_wp2_with fail
        go_quiet (fail)
        go_wp2_with fail
        go_roundw
        all_goals first | exact ⟨1, by omega, by go_num, by rw [HTK.out, hT0, Int.zero_add], HQD.out _⟩ | ((repeat apply Exists.intro); exact ⟨⟨1, by omega, by go_num, by rw [HTK.out, hT0, Int.zero_add], HQD.out _⟩, rfl⟩) | (simp [intOf]; done) | (simp [intOf]; omega) | omega
      · obtain ⟨m, hkm⟩ : ∃ m, k = m + 1 := ⟨k - 1, by omega⟩
        have hmg : m < rs.length := by omega
        obtain ⟨b0, _⟩ := runs_cells hc hmg
        have d0 : (w3.drewN q).cell? ⟨g, m * 2, none⟩ = some (.string rs[m].L) := b0
        have heq : (rs[k].L.toList == rs[m].L.toList) = false := by
          rw [beq_eq_false_iff_ne, ByteArray.toList_eq, ByteArray.toList_eq]
          intro e
          exact HG.out.adj m rs[m].L rs[k].L (by rw [List.getElem?_map, List.getElem?_eq_getElem hmg]; rfl) (by rw [← hkm, List.getElem?_map, List.getElem?_eq_getElem hkg]; rfl) (ByteArray.ext (Array.toList_inj.1 e))
        have hd1 : decide ((0 : Int) < (k : Int)) = true := decide_eq_true (by omega)
        have hd2 : decide (0 < k) = true := decide_eq_true hz
        have hwr : IntKind.i64.wrap ((k : Int) - 1) = (m : Int) := by rw [IntKind.wrap_i64]; omega
        have hm0 : (0 : Int) ≤ (m : Int) := by omega
        have hm1 : (m : Int) < (n : Int) := by omega
        generalize rs[k].l = l at *
        generalize rs[k].L = L at *
        generalize rs[m].L = L2 at *
        obtain ⟨T, hT⟩ : ∃ T, T = totU (rs.take k) := ⟨_, rfl⟩
        rw [← hT] at htk hb1 ⊢
        have HTK := Lib.hid htk
        clear a0 a1 b0 hc hg hT htk hkm hz
        generalize w3.drewN q = w4 at *
        go_wp2_with fail
        go_quiet (fail)
        go_wp2_with fail
        go_roundw
        all_goals first | exact ⟨k + 1, by omega, by go_num, by rw [HTK.out], HQD.out _⟩ | ((repeat apply Exists.intro); exact ⟨⟨k + 1, by omega, by go_num, by rw [HTK.out], HQD.out _⟩, rfl⟩) | (simp [intOf]; done) | (simp [intOf]; omega) | omega
    · have hkn : k = n := by omega
      have hta := HTA.out
      rw [← hkn] at hta
      rw [hta]
      clear hta hk
      go_wp2_with fail
      go_ret
      exact ⟨by simp, below_drewN HB3.out _⟩
end Go.Proofs.Ytlgpleeanmeenaa.fnRuns
