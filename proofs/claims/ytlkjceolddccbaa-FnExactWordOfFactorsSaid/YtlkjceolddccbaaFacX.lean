/-
  Walk: impl.WordOfFactors.
-/
import Derived.Test.YtlkjceolddccbaaFacW
namespace Go.Proofs.Ytlkjceolddccbaa
open Go.RowKit
open Wd
set_option linter.unusedVariables false
theorem blk3_f (w : World) (x : Rl) (t : TypeId) : (w.alloc (.cells #[.string x.L, .int .i64 x.l, .int .i64 x.r] t)).cell? ⟨w.heap.size, 0, none⟩ = some (.string x.L) ∧ (w.alloc (.cells #[.string x.L, .int .i64 x.l, .int .i64 x.r] t)).cell? ⟨w.heap.size, 1, none⟩ = some (.int .i64 x.l) ∧ (w.alloc (.cells #[.string x.L, .int .i64 x.l, .int .i64 x.r] t)).cell? ⟨w.heap.size, 2, none⟩ = some (.int .i64 x.r) := by
  have h := heap_alloc_new w (.cells #[.string x.L, .int .i64 x.l, .int .i64 x.r] t)
  exact ⟨by rw [cell_of_row _ _ _ _ _ _ h]; rfl, by rw [cell_of_row _ _ _ _ _ _ h]; rfl, by rw [cell_of_row _ _ _ _ _ _ h]; rfl⟩
set_option maxRecDepth 100000 in
set_option maxHeartbeats 3200000 in
theorem implWordOfFactors (v : Value) (gs : List Rl) (w : World) (hf : FewR gs) (hr : Rules w v gs) (hw : WfF gs) :
    Calls Try.prog 36 #[v] w fun e w' => e = .returned (.tuple #[.string (wofG gs).1, .int .i64 (wofG gs).2]) ∧ Below w.heap.size w w' := by
  have hc := implFactorsLength v gs w hf hr hw
  have hn := hf.len
  obtain ⟨A, c, rfl, hrr⟩ := hr
  unfold wofG
  unfold facAns at hc
  cases hok : facOk gs
  · rw [hok, if_neg (by decide)] at hc
    have HC := Lib.hid hc
    clear hc hok hrr
    go_enter Try.func36, Try.ntmps36
    go_wp2_with fail
    refine HC.out.mono ?_
    rintro e w1 ⟨rfl, hB⟩
    go_wp2_with fail
    go_ret2
    exact ⟨rfl, hB⟩
  · rw [hok, if_pos rfl] at hc
    rw [if_pos rfl]
    by_cases hbig : 2000 < facN gs
    · rw [if_pos hbig]
      generalize facN gs = N at *
      have HC := Lib.hid hc
      clear hc hok hrr
      go_enter Try.func36, Try.ntmps36
      go_wp2_with fail
      refine HC.out.mono ?_
      rintro e w1 ⟨rfl, hB⟩
      go_wp2_with fail
      go_ret2
      exact ⟨rfl, hB⟩
    · rw [if_neg hbig]
      have hF : facF (gs.drop 0) (((⟨#[]⟩ : ByteArray).size : Nat) : Int) = some (facN gs) := by
        have h1 := hok
        unfold facOk at h1
        unfold facN
        rw [Option.isSome_iff_exists] at h1
        obtain ⟨m, hm⟩ := h1
        rw [hm]
        unfold facR at hm
        split at hm
        · exact hm
        · cases hm
      generalize facN gs = N at *
      obtain ⟨R, hR⟩ : ∃ R, R = facW gs ⟨#[]⟩ := ⟨_, rfl⟩
      rw [← hR]
      have HR0 : Hid (facW (gs.drop 0) ⟨#[]⟩ = R) := Lib.hid hR.symm
      have HF0 := Lib.hid hF
      obtain ⟨n, hng⟩ : ∃ n, n = gs.length := ⟨_, rfl⟩
      rw [← hng] at hc hn ⊢
      have HN := Lib.hid hng
      have HR := Lib.hid hrr
      have HC := Lib.hid hc
      clear hc hok hrr hR hF hng
      go_enter Try.func36, Try.ntmps36
      go_wp2_with fail
      refine HC.out.mono ?_
      rintro e w1 ⟨rfl, hB⟩
      have HB1 := Lib.hid hB
      clear hB
      go_wp2_with fail
      go_loopw [6, 8, 21] (fun wv _ i wr => FwRel gs w N R wv i wr) (fun _ _ i _ => n - (intOf i).toNat)
      case atStart => exact ⟨0, ⟨#[]⟩, Nat.zero_le _, rfl, rfl, HF0.out, HR0.out, HB1.out⟩
      case round =>
        obtain ⟨k, u, hk, rfl, rfl, hF, hW, hB⟩ := hrel
        obtain ⟨wo, rfl⟩ : ∃ wo : World, wo = wr := ⟨_, rfl⟩
        have hle := facF_le _ _ _ hF (by omega)
        by_cases hlt : k < n
        · have hkg : k < gs.length := by rw [← HN.out]; exact hlt
          rcases HR.out with h | ⟨g, rfl, hg, hc⟩
          · rw [h] at hkg; simp at hkg
          obtain ⟨a0, a1, a2⟩ := rules_cells hc hkg
          rw [← hB.cell (p := ⟨g, k * 3, none⟩) hg] at a0
          rw [← hB.cell (p := ⟨g, k * 3 + 1, none⟩) hg] at a1
          rw [← hB.cell (p := ⟨g, k * 3 + 2, none⟩) hg] at a2
          rw [facW_drop u hkg] at hW
          obtain ⟨hF2, hcase⟩ := fac_step hkg hF
          have hle2 := facF_le _ _ _ hF2 (by omega)
          have t1 : (0 : Int) ≤ (k : Int) := by omega
          have t2 : (k : Int) < (n : Int) := by omega
          have hal := (Below.refl wo.heap.size wo).alloc (Nat.le_refl _) (.cells #[.string gs[k].L, .int .i64 gs[k].l, .int .i64 gs[k].r] 96)
          have hBA := hB.trans (hal.mono hB.size)
          have hst : ∀ m U, U = wStep gs[k] u → FwRel gs w N R (.string U) (.int .i64 ((k + 1 : Nat) : Int)) ((wo.alloc (.cells #[.string gs[k].L, .int .i64 gs[k].l, .int .i64 gs[k].r] 96)).drewN m) := fun m U hU => by
            subst hU
            exact ⟨k + 1, _, by omega, rfl, rfl, hF2, hW, below_drewN hBA m⟩
          obtain ⟨q0, q1, q2⟩ := blk3_f wo gs[k] 96
          clear hc hk hF hB hal
          rcases hcase with ⟨h0, a, b, ha, hb, hab, hU⟩ | ⟨h1, hl, hr, hU⟩
          · rw [hU] at hst hle2
            rw [empty_arr h0, ha, hb] at q0 q1 q2 hst
            rw [empty_arr h0] at a0
            rw [ha] at a1
            rw [hb] at a2
            have hsz := ByteArray.size_append (a := u) (b := u.extract a (a + b))
            have HST := Lib.hid hst
            have s1 : IntKind.i64.wrap ((a : Int) + (b : Int)) = ((a + b : Nat) : Int) := by rw [IntWalk.i64_in _ (by omega)]; omega
            have s2 : (0 : Int) ≤ (a : Int) := by omega
            have s3 : (a : Int) ≤ ((a + b : Nat) : Int) := by omega
            have s4 : ((a + b : Nat) : Int) ≤ (u.size : Int) := by omega
            have s5 : ((⟨#[]⟩ : ByteArray) ++ u.extract a (a + b)) = u.extract a (a + b) := ba_nil_append _
            clear hst hU h0 ha hb hF2 hW hsz hBA
            go_wp2_with fail
            go_quiet (fail)
            go_wp2_with fail
            go_roundw
            all_goals first | exact HST.out _ _ rfl | ((repeat apply Exists.intro); exact ⟨HST.out _ _ rfl, rfl⟩) | (simp [intOf]; done) | (simp [intOf]; omega) | omega
          · rw [hU] at hst hle2
            have he := full_list (L := gs[k].L) (by omega)
            have hsz := ByteArray.size_append (a := u) (b := gs[k].L)
            rw [hl, hr] at q0 q1 q2 hst
            rw [hl] at a1
            rw [hr] at a2
            have HST := Lib.hid hst
            generalize gs[k].L = L at *
            have s5 : L ++ u.extract 0 0 = L := by rw [ba_extract_nil, ba_append_nil]
            have s6 : (u.extract 0 0) = ⟨#[]⟩ := ba_extract_nil u
            have s7 : L ++ (⟨#[]⟩ : ByteArray) = L := ba_append_nil L
            clear hst hU hF2 hW hl hr hBA
            go_wp2_with fail
            go_quiet (fail)
            go_wp2_with fail
            go_roundw
            all_goals first | exact HST.out _ _ rfl | ((repeat apply Exists.intro); exact ⟨HST.out _ _ rfl, rfl⟩) | (simp [intOf]; done) | (simp [intOf]; omega) | omega
        · obtain rfl : k = n := by have := HN.out; omega
          rw [facW_end u (by rw [← HN.out]; exact Nat.le_refl _)] at hW
          have HW := Lib.hid hW
          clear hW hF
          go_wp2_with fail
          go_ret2
          exact ⟨by rw [← HW.out]; rfl, hB⟩
end Go.Proofs.Ytlkjceolddccbaa
