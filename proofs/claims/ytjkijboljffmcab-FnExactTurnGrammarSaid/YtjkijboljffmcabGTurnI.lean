/-
  Walk: impl.TurnGrammar.
-/
import Derived.Test.YtjkijboljffmcabGTurnS
import Derived.Test.YtjkijboljffmcabGValid
import Derived.RegionTactic
import Derived.ChangeAlike
namespace Go.Proofs.Ytjkijboljffmcab
open Go.RowKit
open Wd
set_option linter.unusedVariables false

def TRelI (gs : List Rl) (w : World) (t : TypeId) (yv : Value) (i : Value) (wr : World) : Prop :=
  ∃ k : Nat, k ≤ gs.length ∧ i = .int .i64 k ∧ wr.ownsRow (w.heap.size + 2) t 3 yv gs.length (rv (turnK gs k)) ∧ Below w.heap.size w wr ∧ Var wr (w.heap.size + 1) (.slice none 0 0) 29

set_option maxRecDepth 100000 in
set_option maxHeartbeats 6400000 in
theorem implTurnGrammar (v : Value) (gs : List Rl) (w : World) (hf : FewR gs) (hr : Rules w v gs) :
    Calls Try.prog 43 #[.agg #[v]] w fun e w' => ∃ y, e = .returned (.tuple #[.agg #[y], .int .i64 (gramTurnGrammar gs).2]) ∧ OwnsR w' w.heap.size y (gramTurnGrammar gs).1 ∧ Below w.heap.size w w' := by
  have hb : Below w.heap.size w ((w.alloc (.cells #[v] 29)).alloc (.cells #[.slice none 0 0] 29)) := ((Below.refl _ w).alloc (Nat.le_refl _) _).alloc (by simp) _
  have hv0 : Var ((w.alloc (.cells #[v] 29)).alloc (.cells #[.slice none 0 0] 29)) w.heap.size v 29 := (Var.new w v 29).kept ((Below.refl _ _).alloc (Nat.le_refl _) _)
  have hv : Var ((w.alloc (.cells #[v] 29)).alloc (.cells #[.slice none 0 0] 29)) (w.heap.size + 1) (.slice none 0 0) 29 := by
    have := Var.new (w.alloc (.cells #[v] 29)) (.slice none 0 0) 29
    rwa [show (w.alloc (.cells #[v] 29)).heap.size = w.heap.size + 1 from by simp] at this
  have h1 := implValidGrammar v gs _ hf (hr.kept hb)
  have hn := hf.len
  have HR := Lib.hid hr
  obtain ⟨A, c, rfl, _⟩ := hr
  have HB := Lib.hid hb
  have HV := Lib.hid hv
  have HV0 := Lib.hid hv0
  unfold gramTurnGrammar
  cases hok : gOk gs
  · rw [hok] at h1
    have H1 := Lib.hid h1
    clear h1 hok hb hv hv0
    go_enter Try.func43, Try.ntmps43
    go_wp2_with fail
    refine H1.out.mono ?_
    rintro e w1 ⟨rfl, hB1⟩
    have HB1 := Lib.hid (HB.out.trans (hB1.mono (by simp; omega)))
    obtain ⟨vc, vf⟩ := (HV.out.kept hB1).cell
    clear hB1
    go_wp2_with fail
    refine bodyPost_ret (v := .tuple #[.agg #[.slice none 0 0], .int .i64 1]) (by simp [results, Try.results43, go_sem, vc]) rfl ⟨_, rfl, World.ownsRow_nil _ _ _ _, HB1.out.setCell (by simp) _⟩
  · rw [hok] at h1
    have H1 := Lib.hid h1
    clear h1 hok hb hv hv0
    go_enter Try.func43, Try.ntmps43
    go_wp2_with fail
    refine H1.out.mono ?_
    rintro e w1 ⟨rfl, hB1⟩
    have HV1 := Lib.hid (HV.out.kept hB1)
    have HB1 := Lib.hid (HB.out.trans (hB1.mono (by simp; omega)))
    obtain ⟨z0, z1⟩ := (HV0.out.kept hB1).cell
    clear hB1
    go_wp2_with fail
    refine (clone_any _ gs w1 hn (HR.out.kept HB1.out)).mono ?_
    rintro e w2 ⟨y, rfl, ho, hB2⟩
    have HO2 := Lib.hid ho
    obtain ⟨Ay, cy, rfl⟩ := own_slice ho
    have HV2 := Lib.hid (HV1.out.kept hB2)
    have HB2 := Lib.hid (HB1.out.trans (hB2.mono HB1.out.size))
    have hs1 : w.heap.size + 1 < w1.heap.size := HV1.out.lt
    have hst : TRelI gs w 59 (.slice Ay gs.length cy) (.int .i64 0) w2 :=
      ⟨0, Nat.zero_le _, rfl, by rw [turnK_zero]; exact own_lower HO2.out (by omega), HB2.out, HV2.out⟩
    have HST := Lib.hid hst
    clear hB2 ho hs1 hst z0 z1
    go_wp2_with fail
    obtain ⟨n, hng⟩ : ∃ n, n = gs.length := ⟨_, rfl⟩
    rw [← hng] at hn HST ⊢
    have HN := Lib.hid hng
    clear hng
    go_loopw [5, 6, 16] (fun _ _ i wr => TRelI gs w 59 (.slice Ay n cy) i wr) (fun _ _ i _ => n - (intOf i).toNat)
    case atStart => exact HST.out
    case round =>
      obtain ⟨k, hk, rfl, hown, hB, hvr⟩ := hrel
      obtain ⟨wo, rfl⟩ : ∃ wo : World, wo = wr := ⟨_, rfl⟩
      rw [← HN.out] at hown
      have HO := Lib.hid hown
      have HVR := Lib.hid hvr
      have HBo := Lib.hid hB
      by_cases hlt : k < n
      · have hkg : k < gs.length := by rw [← HN.out]; exact hlt
        rcases hown.2 with ⟨_, h0⟩ | ⟨M, cap, cur, hAy, hMb, hMh, _⟩
        · omega
        injection hAy with hAy _ hcy
        subst hAy hcy
        obtain ⟨⟨c0, c1, c2⟩, f1, f2⟩ := turn_cells HN.out hkg HO.out
        have hMlt : M < wo.heap.size := (Array.getElem?_eq_some_iff.1 hMh).1
        have t1 : (0 : Int) ≤ (k : Int) := by omega
        have t2 : (k : Int) < (n : Int) := by omega
        clear hown hB hvr hMh
        go_wp2_with fail
        obtain ⟨o, ho⟩ : ∃ o, o = Obj.cells #[.string gs[k].L, .int .i64 gs[k].l, .int .i64 gs[k].r] 59 := ⟨_, rfl⟩
        have hoK := heap_alloc_new wo o
        rw [← ho]
        have own3 := World.ownsRow.alloc HO.out o
        have hB3 := HBo.out.alloc HBo.out.size o
        have hV3 := HVR.out.kept ((Below.refl _ wo).alloc (Nat.le_refl _) o)
        have k1 : (wo.alloc o).cell? ⟨wo.heap.size, 1, none⟩ = some (.int .i64 gs[k].l) := by rw [ho] at hoK ⊢; rw [cell_of_row _ _ _ _ _ _ hoK]; rfl
        have k2 : (wo.alloc o).cell? ⟨wo.heap.size, 2, none⟩ = some (.int .i64 gs[k].r) := by rw [ho] at hoK ⊢; rw [cell_of_row _ _ _ _ _ _ hoK]; rfl
        obtain ⟨K, hK⟩ : ∃ K, K = wo.heap.size := ⟨_, rfl⟩
        rw [← hK] at k1 k2 hMlt ⊢
        generalize wo.alloc o = w3 at *
        clear hoK ho c0 c1 c2 f1 f2 hK
        obtain ⟨⟨c0, c1, c2⟩, f1, f2⟩ := turn_cells HN.out hkg own3
        have hrow := turn_row hkg own3
        have HROW := Lib.hid hrow
        have HO3 := Lib.hid own3
        have HB3 := Lib.hid hB3
        have HV3 := Lib.hid hV3
        have hMw : w.heap.size + 2 ≤ M := hMb
        have HNWd : Hid (∀ q, TRelI gs w 59 (.slice (some ⟨M, 0, none⟩) n cy) (.int .i64 ((k + 1 : Nat) : Int)) (((w3.setCell ⟨M, k * 3 + 1, none⟩ (.int .i64 gs[k].r)).setCell ⟨M, k * 3 + 2, none⟩ (.int .i64 gs[k].l)).drewN q)) := Lib.hid fun q =>
          ⟨k + 1, hkg, rfl, by rw [← HN.out]; exact HROW.out, below_drewN ((HB3.out.setCell (by simp; omega) _).setCell (by simp; omega) _) q, ((HV3.out.far _ _ (by simp; omega)).far _ _ (by simp; omega)).drewN q⟩
        clear own3 hB3 hV3 hrow c0
        go_region
        go_wp2_with fail
        go_roundw
        case rel => first | exact HNWd.out 0 | exact HNWd.out 1 | exact HNWd.out _ | ((repeat apply Exists.intro); exact ⟨HNWd.out 1, rfl⟩)
        case measure => simp [intOf]; omega
      · have hkn : k = gs.length := by have := HN.out; omega
        obtain ⟨vc, vf⟩ := hvr.cell
        have HOF : Hid (∀ b u, b < w.heap.size + 2 → OwnsR (wo.setCell ⟨b, 0, none⟩ u) w.heap.size (.slice Ay n cy) (gs.map turnR)) := Lib.hid fun b u hb => by
          unfold OwnsR
          rw [List.length_map, ← HN.out]
          rw [hkn, turnK_all] at hown
          exact own_lower (own_setLow hown ⟨b, 0, none⟩ u (by simpa using hb)) (by omega)
        clear hown hB hvr hkn
        go_wp2_with fail
        refine bodyPost_ret (v := .tuple #[.agg #[.slice Ay n cy], .int .i64 0]) (by simp [results, Try.results43, go_sem, vc]) rfl ⟨_, rfl, HOF.out _ _ (by omega), HBo.out.setCell (by simp) _⟩
end Go.Proofs.Ytjkijboljffmcab
