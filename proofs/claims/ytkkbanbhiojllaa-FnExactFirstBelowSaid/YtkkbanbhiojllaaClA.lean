/-
  Walks: spec.l05Climb, impl.ClimbOf.
-/
import Derived.Test.YtkkbanbhiojllaaClS
import Derived.Test.YtkkbanbhiojllaaHand
import Derived.Deep.RegionWith
namespace Go.Proofs.Ytkkbanbhiojllaa
open Go.RowKit
open Wd
set_option linter.unusedVariables false
namespace Wd
/-- the climb of the whole word -/
def clWh (ws : List Int) (gs : List Rl) : List Int := if gs.length = 0 then [0, 0, 0] else clAt ws gs (gs.length - 1)
theorem clWh_part {ws : List Int} {gs : List Rl} (hw : wOk ws) (hok : gOk gs = true) : clPart ws gs 0 (wordLen gs) = clWh ws gs := by
  unfold clWh
  by_cases h0 : gs.length = 0
  · rw [if_pos h0, wordLen_zero h0]
    unfold clPart
    rw [if_pos rfl]
    rfl
  · rw [if_neg h0]
    exact clPart_whole hw hok (by omega)
end Wd
set_option maxRecDepth 100000 in
set_option maxHeartbeats 3200000 in
theorem l05Climb_any (pg : Nat) (wv : Value) (ws : List Int) (gs : List Rl) (w : World) (hok : gOk gs = true) (hwo : wOk ws) (hg : GP w pg gs) (hw : IW w wv ws) :
    Calls Try.prog 44 #[.pointer (some ⟨pg, 0, none⟩), wv] w fun e w' => e = .returned (.agg (clCs (clWh ws gs))) ∧ Below w.heap.size w w' := by
  have hn := gOk_len hok
  have hb := (Below.refl _ w).alloc (Nat.le_refl _) (.cells #[.int .i64 0, .int .i64 0, .int .i64 0] 28)
  have hR := heap_alloc_new w (.cells #[.int .i64 0, .int .i64 0, .int .i64 0] 28)
  have hgp := hg.kept hb
  obtain ⟨dm, hum, hdm⟩ := und_clm
  have HUM := Lib.hid (And.intro hum hdm)
  have HCS := Lib.hid (fun W (hb : Below w.heap.size w W) => l05Climbs_any pg wv ws gs W hok hwo (hg.kept hb) (hw.kept hb))
  obtain ⟨gv, hgv, A, c, rfl, _⟩ := hg
  have HGP := Lib.hid hgp
  have HB := Lib.hid hb
  have HR := Lib.hid hR
  have HGV := Lib.hid hgv
  have HSZA : Hid ((Try.prog.info? 28).map (·.size) = some (clCs (clWh ws gs)).size) := Lib.hid size_cl
  have HONE := Lib.hid (all_oneCell_toArray (one3c ((clWh ws gs).getD 0 0) ((clWh ws gs).getD 1 0) ((clWh ws gs).getD 2 0)))
  by_cases h0 : gs.length = 0
  · have hW : clWh ws gs = [0, 0, 0] := by unfold clWh; rw [if_pos h0]
    rw [h0] at hgv
    rw [hW]
    have hgv1 := (hb.cell (lt_of_cell hgv)).trans hgv
    clear hgp hb hR hum hdm hok hwo hw h0 hW hgv
    go_enter Try.func44, Try.ntmps44
    go_wp2_with fail
    exact bodyPost_ret (v := ag3c 0 0 0) (by simp [results, Try.results44, go_sem]) rfl ⟨rfl, HB.out⟩
  · obtain ⟨m, hm⟩ : ∃ m, gs.length = m + 1 := ⟨gs.length - 1, by omega⟩
    have hva := clAt_ok hwo hok (k := m) (by omega)
    have hW : clWh ws gs = clAt ws gs m := by unfold clWh; rw [if_neg h0, hm, Nat.add_sub_cancel]
    have HW := Lib.hid (hW.trans (three_of hva.1))
    have hl3 : ∀ i, i < gs.length → (clAt ws gs i).length = 3 := fun i hi => (clAt_ok hwo hok hi).1
    have hm' : m ≤ 1048576 := by omega
    obtain ⟨N, hN⟩ : ∃ N, gs.length = N := ⟨_, rfl⟩
    have hNm : N = m + 1 := by omega
    have HN := Lib.hid hNm
    have m0 : (0 : Int) ≤ (m : Int) := by omega
    have m1 : (m : Int) < (N : Int) := by omega
    have hsub : IntKind.i64.wrap ((N : Int) - 1) = (m : Int) := by rw [IntKind.wrap_i64]; omega
    rw [hN] at hgv HCS hl3
    have HL3 := Lib.hid hl3
    have hgv1 := (hb.cell (lt_of_cell hgv)).trans hgv
    have HG1 := Lib.hid hgv1
    have r0 : (w.alloc (.cells #[.int .i64 0, .int .i64 0, .int .i64 0] 28)).cell? ⟨w.heap.size, 0, none⟩ = some (.int .i64 0) := cell_of_row _ _ 0 _ _ _ hR
    have HLP : Hid (pg < w.heap.size) := Lib.hid (lt_of_cell hgv)
    clear hgp hb hR hum hdm hok hwo hw h0 hW hgv hm hva hl3 r0 hn hN hNm
    go_enter Try.func44, Try.ntmps44
    go_upto_region 3 with fail
    go_region_with
      (first
        | (go_at_call 55
           refine (HCS.out _ (by first | exact HB.out | exact HB.out.drew | exact below_drewN HB.out _)).mono ?_
           rintro e w6 ⟨y, rfl, hst⟩
           obtain ⟨hown, hB⟩ := hst
           have HB6 : Hid (Below (w.heap.size + 1) (w.alloc (.cells #[.int .i64 0, .int .i64 0, .int .i64 0] 28)) w6) := Lib.hid (by have := below_undrew hB; simpa using this)
           obtain ⟨Ay, cy, rfl⟩ := own_slice hown
           obtain ⟨gy, rfl, hgy, hgl⟩ := own_addr hown (show 0 < N by have := HN.out; omega)
           obtain ⟨xa0, xa1, xa2⟩ := clSt_cells HL3.out hown (show m < N by have := HN.out; omega)
           have HS6 := Lib.hid ((HB6.out.cell (p := ⟨pg, 0, none⟩) (by have := HLP.out; simp only; omega)).trans HG1.out)
           have hsz6 : w.heap.size ≤ w6.heap.size := by have := HB6.out.size; simp at this; omega
           have HE6 : Hid (∀ a b d, Below w.heap.size w6 (((w6.setCell ⟨w.heap.size, 0, none⟩ a).setCell ⟨w.heap.size, 1, none⟩ b).setCell ⟨w.heap.size, 2, none⟩ d)) := Lib.hid (fun a b d => ((((Below.refl _ w6).mono hsz6).setCell (Nat.le_refl _) _).setCell (Nat.le_refl _) _).setCell (Nat.le_refl _) _)
           have HK6 : Hid (∀ a b d, (((w6.setCell ⟨w.heap.size, 0, none⟩ a).setCell ⟨w.heap.size, 1, none⟩ b).setCell ⟨w.heap.size, 2, none⟩ d).cell? ⟨pg, 0, none⟩ = some (.slice A N c)) := Lib.hid (fun a b d => ((HE6.out a b d).cell (p := ⟨pg, 0, none⟩) HLP.out).trans HS6.out)
           have HZ6 := Lib.hid ((HB6.out.block w.heap.size (by omega)).trans HR.out)
           obtain ⟨⟨z0, z1, z2⟩, _⟩ := blk3_cells HZ6.out
           have hp6 := HS6.out
           have HBA := Lib.hid ((HB.out.trans (HB6.out.mono (by simp))).trans (HE6.out (.int .i64 ((clAt ws gs m).getD 0 0)) (.int .i64 ((clAt ws gs m).getD 1 0)) (.int .i64 ((clAt ws gs m).getD 2 0))))
           have HZ9 := Lib.hid (blk3 (a' := .int .i64 ((clAt ws gs m).getD 0 0)) (b' := .int .i64 ((clAt ws gs m).getD 1 0)) (c' := .int .i64 ((clAt ws gs m).getD 2 0)) HZ6.out)
           clear hown hB
           generalize (clAt ws gs m).getD 0 0 = x0 at *
           generalize (clAt ws gs m).getD 1 0 = x1 at *
           generalize (clAt ws gs m).getD 2 0 = x2 at *))
    all_goals
      go_wp2_with fail
      exact bodyPost_ret (v := ag3c x0 x1 x2) (results_cell_rowD HUM.out.2 rfl _ _ w.heap.size 28 _ (0, 0) rfl HZ9.out HUM.out.1 size_cl) rfl ⟨by rw [HW.out]; rfl, HBA.out⟩
end Go.Proofs.Ytkkbanbhiojllaa
