/-
  Walks: laws.toFactor, toFactorS: a copy in new memory. (Turned from XGramTo by fac.py.)
-/
import Derived.Test.YtcaeihdfljljbaaDoorFaSz
import Derived.Test.YtcaeihdfljljbaaDoorGramTo
namespace Go.Proofs.YtcaeihdfljljbaaDoor
open Go.RowKit
open Wd
set_option linter.unusedVariables false

theorem Tryd.info_factor : (Tryd.prog.info? 74).map (fun i => (i.zero, i.size, i.bytes)) = some (some (.agg #[.string ⟨#[]⟩, .int .i64 0, .int .i64 0]), 3, 32) := by kernel_rfl
/-- factors of the call's own -/
abbrev OwnsF (w : World) (B : Nat) (v : Value) (gs : List Rl) : Prop := w.ownsRow B 74 3 v gs.length (rv gs)
theorem toFactor_any (x : Rl) (w : World) : Calls Tryd.prog 35 #[agg3 x] w fun e w' => e = .returned (agg3 x) ∧ Below w.heap.size w w' := by
  obtain ⟨L, l, r⟩ := x
  go_enter Tryd.func35, Tryd.ntmps35
  go_wp2
  refine bodyPost_ret (v := .agg #[.string L, .int .i64 l, .int .i64 r]) (by simp [results, Tryd.results35, go_sem]) rfl ⟨rfl, ?_⟩
  exact (((Below.refl _ _).alloc (Nat.le_refl _) _).alloc (by simp) _).alloc (by simp; omega) _

set_option maxRecDepth 100000 in
set_option maxHeartbeats 1600000 in
theorem toFactorS_any (A : Option Addr) (len cap : Nat) (gs : List Rl) (w : World) (hl : len ≤ 1048576) (h : InRules w A len gs) :
    Calls Tryd.prog 12 #[.slice A len cap] w fun e w' => ∃ v, e = .returned v ∧ OwnsF w' w.heap.size v gs ∧ Below w.heap.size w w' := by
  obtain ⟨i0, hi, hz0, hz1, hz2⟩ := info_parts Tryd.info_factor
  obtain ⟨hlen, hin⟩ := h
  have HI := Lib.hid hin
  have HLN := Lib.hid hlen
  clear hin hlen
  go_enter Tryd.func12, Tryd.ntmps12
  go_wp2_with (refine wpList_make_full _ rfl _ _ 31 rfl w.heap.size 74 i0 (.agg #[.string ⟨#[]⟩, .int .i64 0, .int .i64 0]) 3 Tryd.underlying31 hi hz0 hz1 .i64 .i64 _ _ len rfl rfl rfl rfl (by rw [hz2]; omega) (by unfold maxLen; omega) (Nat.le_refl _) ?_)
  intro w1 hown hg
  have hB1 := below_of_grown hg
  rw [made_zr, show List.replicate len zr = outK gs 0 from by rw [outK_zero, HLN.out]] at hown
  obtain ⟨B, hBe⟩ : ∃ B, B = w.heap.size := ⟨_, rfl⟩
  rw [← hBe] at hown ⊢
  have HBE := Lib.hid hBe
  clear hg hBe
  go_wp2
  go_loopw [4] (fun i wr => ∃ k : Nat, k ≤ len ∧ i = .int .i64 k ∧ wr.ownsRow B 74 3 (.slice (some ⟨B, 0, none⟩) len len) len (rv (outK gs k)) ∧ Below w.heap.size w wr) (fun i _ => len - (intOf i).toNat)
  case atStart => exact ⟨0, Nat.zero_le _, rfl, hown, hB1⟩
  case round =>
    obtain ⟨k, hk, rfl, hown, hB⟩ := hrel
    by_cases hlt : k < len
    · have hkg : k < gs.length := by rw [HLN.out]; exact hlt
      rcases HI.out with hn | ⟨x, rfl, hc⟩
      · rw [hn] at hkg; simp at hkg
      obtain ⟨⟨c0, c1, c2⟩, hsz⟩ := hc k hkg
      have d0 := (hB.cell (lt_of_cell c0)).trans c0
      have d1 := (hB.cell (lt_of_cell c1)).trans c1
      have d2 := (hB.cell (lt_of_cell c2)).trans c2
      rw [add_next _ _ _ (by omega)] at d1 d2
      clear c0 c1 c2 hc hsz
      go_wp2_with fail
      refine (toFactor_any gs[k] _).mono ?_; rintro e w' ⟨rfl, hB'⟩
      have hown' := own_below hown hB' (Nat.le_refl _)
      have hB2 := hB.trans (hB'.mono hB.size)
      have hkl : k < (outK gs k).length := by rw [outK_len _ _ (by omega)]; exact hkg
      have hz : (outK gs k)[k] = zr := by have := outK_get gs k hkg; rw [List.getElem?_eq_getElem hkl] at this; simpa using this
      have e0 : w'.cell? ⟨B, k * 3, none⟩ = some (.string ⟨#[]⟩) := by rw [hown'.cellAt (k * 3) (by omega)]; have := rv_get _ k hkl 0 (by omega); rw [hz] at this; exact this
      have e1 : w'.cell? ⟨B, k * 3 + 1, none⟩ = some (.int .i64 0) := by rw [hown'.cellAt (k * 3 + 1) (by omega)]; have := rv_get _ k hkl 1 (by omega); rw [hz] at this; exact this
      have e2 : w'.cell? ⟨B, k * 3 + 2, none⟩ = some (.int .i64 0) := by rw [hown'.cellAt (k * 3 + 2) (by omega)]; have := rv_get _ k hkl 2 (by omega); rw [hz] at this; exact this
      have f0 : w'.frozen? ⟨B, k * 3, none⟩ = false := hown'.frozenAt _
      have f1 : w'.frozen? ⟨B, k * 3 + 1, none⟩ = false := hown'.frozenAt _
      have f2 : w'.frozen? ⟨B, k * 3 + 2, none⟩ = false := hown'.frozenAt _
      have HO := Lib.hid hown'
      clear hown hown' hz hkl
      go_wp2
      go_roundw
      case rel =>
        refine ⟨k + 1, by omega, by go_num, ?_, ((hB2.setCell (by rw [HBE.out]; exact Nat.le_refl _) _).setCell (by rw [HBE.out]; exact Nat.le_refl _) _).setCell (by rw [HBE.out]; exact Nat.le_refl _) _⟩
        rw [← outK_set gs k hkg]
        exact own_set3 HO.out k (by rw [outK_len _ _ (by omega)]; exact hkg) _
      case measure => simp [intOf]; omega
    · have hown' : OwnsF wr w.heap.size (.slice (some ⟨B, 0, none⟩) len len) gs := by
        have hg := HLN.out
        rw [show k = gs.length from by omega, outK_all, HBE.out] at hown
        unfold OwnsF
        rw [hg, HBE.out]
        exact hown
      have HO := Lib.hid hown'
      clear hown hown'
      go_wp2
      go_ret
      exact ⟨_, rfl, HO.out, hB⟩

end Go.Proofs.YtcaeihdfljljbaaDoor
