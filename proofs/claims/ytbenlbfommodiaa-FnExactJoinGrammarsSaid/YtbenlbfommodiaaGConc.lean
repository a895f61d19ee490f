/-
  Walk: slices.Concat at two rows of rules.
-/
import Derived.Test.YtbenlbfommodiaaGRaise
import Derived.Test.YtbenlbfommodiaaGClone
import Derived.Test.YtbenlbfommodiaaShelf
namespace Go.Proofs.Ytbenlbfommodiaa
open Go.RowKit
open Wd
set_option linter.unusedVariables false

/-- rules behind rules -/
theorem app_rules {w wr : World} {yv : Value} {rs : List Rl} (ho : wr.ownsRow w.heap.size 117 3 yv rs.length (rv rs)) {w5 : World} {v' : Value} {hs : List Rl} (hb : Below w.heap.size w wr)
    (hown : w5.ownsRow w.heap.size 117 3 v' (rs.length + hs.length) (rv rs ++ rv hs)) (hg : wr.grownBy w5 yv.ownBlock) : w5.ownsRow w.heap.size 117 3 v' (rs ++ hs).length (rv (rs ++ hs)) ∧ Below w.heap.size w w5 := by
  refine ⟨?_, hb.grown hg hb.size (fun q hq => (ho.lt q hq).1)⟩
  rw [List.length_append, rv_app]; exact hown
def CsRel (gs hs : List Rl) (w : World) (s i : Value) (wr : World) : Prop :=
  w = wr ∧ ((i = .int .i64 0 ∧ s = .int .i64 0) ∨ (i = .int .i64 1 ∧ s = .int .i64 (gs.length : Int)) ∨ (i = .int .i64 2 ∧ s = .int .i64 ((gs.length : Int) + (hs.length : Int))))
def CcRel (gs hs : List Rl) (w : World) (yv i : Value) (wr : World) : Prop :=
  (i = .int .i64 0 ∧ OwnsR wr w.heap.size yv [] ∧ Below w.heap.size w wr) ∨ (i = .int .i64 1 ∧ OwnsR wr w.heap.size yv gs ∧ Below w.heap.size w wr) ∨ (i = .int .i64 2 ∧ OwnsR wr w.heap.size yv (gs ++ hs) ∧ Below w.heap.size w wr)

set_option maxRecDepth 100000 in
set_option maxHeartbeats 6400000 in
theorem concat_any (u v : Value) (gs hs : List Rl) (p : Nat) (w : World) (hn : gs.length ≤ 1000) (hm : hs.length ≤ 1000) (h0 : w.cell? ⟨p, 0, none⟩ = some u) (h1 : w.cell? ⟨p, 1, none⟩ = some v) (hu : Rules w u gs) (hv : Rules w v hs) :
    Calls Try.prog 92 #[.slice (some ⟨p, 0, none⟩) 2 2] w fun e w' => ∃ y, e = .returned y ∧ OwnsR w' w.heap.size y (gs ++ hs) ∧ Below w.heap.size w w' := by
  obtain ⟨i0, hi, hz0, hz1, hz2⟩ := info_parts Try.info_rule
  have HU := Lib.hid hu
  have HV := Lib.hid hv
  have HP0 := Lib.hid h0
  have HP1 := Lib.hid h1
  have hGR : ∀ W : World, W = w → Calls Try.prog 127 #[.slice none 0 0, .int .i64 ((gs.length : Int) + (hs.length : Int))] W fun e w' => ∃ y, e = .returned y ∧ OwnsR w' w.heap.size y [] ∧ Below w.heap.size w w' := by
    rintro W rfl
    rcases Nat.eq_zero_or_pos (gs.length + hs.length) with hz | hz
    · have h9 := Any8.slices_Grow_room Try.growRule none 0 0 0 W (Nat.le_refl _) (by omega) (by omega) (Nat.le_refl _)
      have e0 : ((gs.length : Int) + (hs.length : Int)) = ((0 : Nat) : Int) := by omega
      rw [e0]
      refine h9.mono ?_
      rintro e w' ⟨rfl, rfl⟩
      exact ⟨_, rfl, World.ownsRow_nil _ _ _ _, Below.refl _ _⟩
    · have e0 : ((gs.length : Int) + (hs.length : Int)) = ((gs.length + hs.length : Nat) : Int) := by omega
      rw [e0]
      have h9 := Any8.slices_Grow_grow Try.growRule i0 (.agg #[.string ⟨#[]⟩, .int .i64 0, .int .i64 0]) hi hz0 (by rw [hz1]; decide) none 0 0 (gs.length + hs.length) [] W (Nat.le_refl _) (by omega) (by rw [hz2]; omega) (by omega) (by simp) (fun _ => rfl) (fun a h => by cases h)
      refine h9.mono ?_
      rintro e w' ⟨rfl, rfl⟩
      refine ⟨_, rfl, ?_, ?_⟩
      · exact World.ownsRow_made (base := W.heap.size) (e := 117) (size := 3) W.drew _ _ (Nat.le_refl _) (grownCap_le_maxLen _ _ _ _ (by unfold maxLen; omega)) (by
          simp only [Array.size_append, size_zeroCells]
          have h3 := grownCap_ge W (0 + (gs.length + hs.length)) 0 (Try.growRule_ren.t 25)
          simp [Value.cells] at h3 ⊢
          omega)
      · exact (Below.refl _ W).drew.alloc (Nat.le_refl _) _
  have HGR := Lib.hid hGR
  obtain ⟨Au, cu, rfl, _⟩ := hu
  obtain ⟨Av, cv, rfl, _⟩ := hv
  clear hGR
  go_enter Try.func92, Try.ntmps92
  go_wp2_with fail
  go_loopw [3, 5, 11] (fun s _ i wr => CsRel gs hs w s i wr) (fun _ _ i _ => 2 - (intOf i).toNat)
  case atStart => exact ⟨rfl, .inl ⟨rfl, rfl⟩⟩
  case round =>
    obtain ⟨rfl, hcs⟩ := hrel
    rcases hcs with ⟨rfl, rfl⟩ | ⟨rfl, rfl⟩ | ⟨rfl, rfl⟩
    · go_wp2_with fail
      go_roundw
      case rel => first | exact ⟨rfl, .inr (.inl ⟨rfl, rfl⟩)⟩ | ((repeat apply Exists.intro); exact ⟨⟨rfl, .inr (.inl ⟨rfl, rfl⟩)⟩, rfl⟩)
      case measure => (first | (simp [intOf]; done) | (simp [intOf]; omega))
    · go_wp2_with fail
      go_roundw
      case rel => first | exact ⟨rfl, .inr (.inr ⟨rfl, rfl⟩)⟩ | ((repeat apply Exists.intro); exact ⟨⟨rfl, .inr (.inr ⟨rfl, rfl⟩)⟩, rfl⟩)
      case measure => (first | (simp [intOf]; done) | (simp [intOf]; omega))
    · go_wp2_with fail
      refine (HGR.out _ rfl).mono ?_
      rintro e w1 ⟨y, rfl, hy, hB1⟩
      have HST : Hid (CcRel gs hs w y (.int .i64 0) w1) := Lib.hid (.inl ⟨rfl, hy, hB1⟩)
      clear hy hB1
      go_wp2_with fail
      go_loopw [6, 8, 27] (fun yv _ i wr => CcRel gs hs w yv i wr) (fun _ _ i _ => 2 - (intOf i).toNat)
      case atStart => exact HST.out
      case round =>
        rcases hrel with ⟨rfl, hown, hB⟩ | ⟨rfl, hown, hB⟩ | ⟨rfl, hown, hB⟩
        · obtain ⟨wo, rfl⟩ : ∃ wo : World, wo = wr := ⟨_, rfl⟩
          obtain ⟨A2, c2, rfl⟩ := own_slice hown
          have HO := Lib.hid hown
          have HB := Lib.hid hB
          have cp := (hB.cell (p := ⟨p, 0, none⟩) (lt_of_cell HP0.out)).trans HP0.out
          have hbs := hB.size
          rcases rules_cases (HU.out.kept hB) with ⟨c9, e9, e8⟩ | ⟨ad, c9, e9, hc9⟩
          · injection e9 with e91 e92 e93
            subst e91 e93
            rw [e92] at cp
            have HST2 : Hid (CcRel gs hs w (.slice A2 ([] : List Rl).length c2) (.int .i64 1) wo) := Lib.hid (.inr <| .inl <| ⟨rfl, by rw [e8] at *; simpa using HO.out, HB.out⟩)
            clear hown hB e92 e8
            go_wp2_with (first | (at_builtin; refine wpList_append_nilc rfl _ _ 43 rfl w.heap.size 117 i0 3 Try.underlying43 hi _ _ _ rfl HO.out _ rfl ?_))
            go_wp2_with fail
            go_roundw
            case rel => first | exact HST2.out | ((repeat apply Exists.intro); exact ⟨HST2.out, rfl⟩)
            case measure => (first | (simp [intOf]; done) | (simp [intOf]; omega))
          · injection e9 with e91 e92 e93
            subst e91 e93
            clear hown hB
            go_wp2_with (first | (at_builtin; refine wpList_append_own _ rfl _ _ 43 rfl w.heap.size 117 i0 (.agg #[.string ⟨#[]⟩, .int .i64 0, .int .i64 0]) 3 32 Try.underlying43 hi hz0 hz1 hz2 rfl (by decide) _ _ _ rfl HO.out ad gs.length _ (rv gs) rfl (rv_len gs) hc9 (rv_cell gs) (by unfold maxLen; first | omega | (simp; omega)) (by first | omega | (simp; omega)) hbs ?_))
            intro v' w5 hown' hgr _
            have HST2 : Hid (CcRel gs hs w v' (.int .i64 1) w5) := Lib.hid (.inr <| .inl <| ⟨rfl, (by have h9 := app_rules (hs := gs) HO.out HB.out (by rw [List.length_nil, Nat.zero_add]; exact hown') hgr; simpa using h9)⟩)
            clear hown' hgr hc9
            go_wp2_with fail
            go_roundw
            case rel => first | exact HST2.out | ((repeat apply Exists.intro); exact ⟨HST2.out, rfl⟩)
            case measure => (first | (simp [intOf]; done) | (simp [intOf]; omega))
        · obtain ⟨wo, rfl⟩ : ∃ wo : World, wo = wr := ⟨_, rfl⟩
          obtain ⟨A2, c2, rfl⟩ := own_slice hown
          have HO := Lib.hid hown
          have HB := Lib.hid hB
          have cp := (hB.cell (p := ⟨p, 1, none⟩) (lt_of_cell HP1.out)).trans HP1.out
          have hbs := hB.size
          rcases rules_cases (HV.out.kept hB) with ⟨c9, e9, e8⟩ | ⟨ad, c9, e9, hc9⟩
          · injection e9 with e91 e92 e93
            subst e91 e93
            rw [e92] at cp
            have HST2 : Hid (CcRel gs hs w (.slice A2 gs.length c2) (.int .i64 2) wo) := Lib.hid (.inr <| .inr <| ⟨rfl, by rw [e8] at *; simpa using HO.out, HB.out⟩)
            clear hown hB e92 e8
            go_wp2_with (first | (at_builtin; refine wpList_append_nilc rfl _ _ 43 rfl w.heap.size 117 i0 3 Try.underlying43 hi _ _ _ rfl HO.out _ rfl ?_))
            go_wp2_with fail
            go_roundw
            case rel => first | exact HST2.out | ((repeat apply Exists.intro); exact ⟨HST2.out, rfl⟩)
            case measure => (first | (simp [intOf]; done) | (simp [intOf]; omega))
          · injection e9 with e91 e92 e93
            subst e91 e93
            clear hown hB
            go_wp2_with (first | (at_builtin; refine wpList_append_own _ rfl _ _ 43 rfl w.heap.size 117 i0 (.agg #[.string ⟨#[]⟩, .int .i64 0, .int .i64 0]) 3 32 Try.underlying43 hi hz0 hz1 hz2 rfl (by decide) _ _ _ rfl HO.out ad hs.length _ (rv hs) rfl (rv_len hs) hc9 (rv_cell hs) (by unfold maxLen; first | omega | (simp; omega)) (by first | omega | (simp; omega)) hbs ?_))
            intro v' w5 hown' hgr _
            have HST2 : Hid (CcRel gs hs w v' (.int .i64 2) w5) := Lib.hid (.inr <| .inr <| ⟨rfl, app_rules HO.out HB.out hown' hgr⟩)
            clear hown' hgr hc9
            go_wp2_with fail
            go_roundw
            case rel => first | exact HST2.out | ((repeat apply Exists.intro); exact ⟨HST2.out, rfl⟩)
            case measure => (first | (simp [intOf]; done) | (simp [intOf]; omega))
        · have HE := Lib.hid hown
          go_wp2_with fail
          go_ret
          exact ⟨_, rfl, HE.out, hB⟩
end Go.Proofs.Ytbenlbfommodiaa
