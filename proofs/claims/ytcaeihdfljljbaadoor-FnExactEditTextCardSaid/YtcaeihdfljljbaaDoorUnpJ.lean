/-
  Walk: impl.UnpackPart where something is unpacked.
-/
import Derived.Test.YtcaeihdfljljbaaDoorUnpI
import Derived.Test.YtcaeihdfljljbaaDoorOwnK
namespace Go.Proofs.YtcaeihdfljljbaaDoor
open Go.RowKit
open Wd
set_option linter.unusedVariables false

/-- what holds between two pieces -/
def UpRel (w : World) (b C P : Nat) (pv y : Value) (gs : List Rl) (cov : List Int) (i : Value) (wr : World) : Prop :=
  ∃ k : Nat, k ≤ cov.length ∧ i = .int .i64 k ∧ Bld b b (catW gs (cov.take k)) wr ∧ wr.ownsRow C 2 1 y cov.length (iv cov) ∧ Below b w wr ∧ b ≤ wr.heap.size ∧ wr.cell? ⟨P, 0, none⟩ = some pv

set_option maxRecDepth 100000 in
set_option maxHeartbeats 6400000 in
theorem implUnpack_ok (A : Option Addr) (cc : Nat) (gs : List Rl) (i j : Int) (w : World) (hf : FewR gs) (hr : Rules w (.slice A gs.length cc) gs) (hok : gOk gs = true) (hp : inPart i j (wordLen gs) = true) (hl : j - i ≤ 2000) (hij : i < j) :
    Calls Tryd.prog 78 #[.agg #[.slice A gs.length cc], .int .i64 i, .int .i64 j] w fun e w' => e = .returned (.tuple #[.string ⟨(partW gs i j).toArray⟩, .int .i64 0]) ∧ Below w.heap.size w w' := by
  have hb := (Below.refl _ w).alloc (Nat.le_refl _) (.cells #[.slice A gs.length cc] 44)
  have h1 := len.vlen_any (.slice A gs.length cc) gs _ hf (hr.kept hb)
  unfold LensPost at h1
  rw [hok] at h1
  have hwl := wordLen_bd' hok
  obtain ⟨p1, p2, p3⟩ := inPart_iff.1 hp
  have hg0 : 0 < gs.length := by
    rcases Nat.eq_zero_or_pos gs.length with h | h
    · rw [wordLen_zero h] at p3; omega
    · exact h
  have hn := gOk_len hok
  -- the cover
  have hcw : catW gs (coverF gs i j gs.length (gs.length - 1) 0) = partW gs i j := by
    rw [cover_word hok i j gs.length (gs.length - 1) 0 (by omega) (by omega)]
    unfold partW
    rw [show j - 0 = j from by omega, show i - 0 = i from by omega]
  have hcl := cover_lt hok i j gs.length (gs.length - 1) 0 (by omega) (by omega)
  have hpl := partW_len hok hg0 ⟨p1, p2, p3⟩
  have hpos : ∀ k (hk : k < gs.length), 1 ≤ (wordAt gs k).length := fun k hk => by
    have h2 := wordAt_len hok hk
    have h3 := lens_pos hk fun q hq _ => fits_at (gOk_iff.1 hok).2.1 q hq
    omega
  have hcn : (coverF gs i j gs.length (gs.length - 1) 0).length ≤ 2000 := by
    have h2 := catW_count gs hpos _ hcl
    rw [hcw] at h2
    omega
  have HCO := Lib.hid (fun v lv L c W h1 h2 h3 h4 => coverOf_any v lv gs i j L c W hok hg0 h1 h2 h3 h4 (by omega))
  generalize coverF gs i j gs.length (gs.length - 1) 0 = cov at *
  have HCW := Lib.hid hcw
  have HCL := Lib.hid hcl
  have HPL : Hid ((catW gs cov).length ≤ 2000) := Lib.hid (by rw [hcw]; omega)
  have HWW := Lib.hid (fun b v q hq l W h1 h2 h3 h4 => writeWord_any b b v gs hok (q + 1) q (by omega) hq l W h1 h2 h3 h4)
  have HWL := Lib.hid (fun q hq => wordAt_len hok (k := q) hq)
  have H1 := Lib.hid h1
  have HB := Lib.hid hb
  have HC := Lib.hid (cell_new w (.slice A gs.length cc) 44)
  have HR := Lib.hid hr
  have HIP : Hid (∀ W, Calls Tryd.prog 104 #[.int .i64 i, .int .i64 j, .int .i64 (wordLen gs)] W fun e w' => e = .returned (.bool true) ∧ w' = W) := Lib.hid (fun W => by rw [← hp]; exact isPart_any i j _ W)
  have hne : (i == j) = false := by rw [beq_eq_false_iff_ne]; omega
  have hl2 : ¬ 2000 < j - i := by omega
  clear h1 hb hr hok hp hcw hcl hpl hpos
  go_enter Tryd.func78, Tryd.ntmps78
  go_wp2_with fail
  refine H1.out.mono ?_
  rintro e w1 ⟨x, rfl, ho, hB1⟩
  have HB1 := Lib.hid (HB.out.trans (hB1.mono (by simp)))
  have HC1 := Lib.hid ((hB1.cell (p := ⟨w.heap.size, 0, none⟩) (by simp)).trans HC.out)
  have HO := Lib.hid (ho trivial)
  clear hB1 ho
  go_wp2_with fail
  refine (wordLength_any x gs _ w1 (by omega) HO.out).mono ?_
  rintro e w2 ⟨rfl, rfl⟩
  go_wp2_with fail
  refine (HIP.out _).mono ?_
  rintro e w2 ⟨rfl, rfl⟩
  have ho1 := HO.out
  unfold OwnsI at ho1
  rw [lens_len] at ho1
  obtain ⟨Ax, cx, rfl⟩ := own_slice ho1
  obtain ⟨L, rfl, _, hL⟩ := own_addr ho1 hg0
  have HLC : Hid (∀ k, k < gs.length → w2.cell? ⟨L, k, none⟩ = some (.int .i64 ((lens gs).getD k 0))) := Lib.hid (fun k hk => by rw [ho1.cellAt k (by omega)]; exact iv_atU (by rw [lens_len]; exact hk))
  have hc1 := HC1.out
  have hlw : w.heap.size < w2.heap.size := lt_of_cell HC1.out
  have hb3 := (Below.refl _ w2).alloc (Nat.le_refl _) (.cells #[.pointer none, .slice none 0 0] 79)
  have hc3 := (hb3.cell (p := ⟨w.heap.size, 0, none⟩) hlw).trans hc1
  have HB3 := Lib.hid hb3
  clear ho1
  go_wp2_with fail
  have hbd : Bld w2.heap.size w2.heap.size [] (w2.alloc (.cells #[.pointer none, .slice none 0 0] 79)) := Lib.IsBuilderF.of (Lib.fresh_isBuilder _ _ w2)
  refine (HCO.out _ _ L cx _ (HR.out.kept (HB1.out.trans (HB3.out.mono HB1.out.size))) rfl (Nat.lt_of_lt_of_le hL HB3.out.size) (fun k hk => (HB3.out.cell (p := ⟨L, k, none⟩) hL).trans (HLC.out k hk))).mono ?_
  rintro e w4 ⟨y, rfl, hy, hB4⟩
  obtain ⟨b, hbb⟩ : ∃ b, b = w2.heap.size := ⟨_, rfl⟩
  have hb4 : Below b w2 w4 := by rw [hbb]; exact HB3.out.trans (hB4.mono (by simp))
  have HB4 := Lib.hid hb4
  have HBW : Hid (∀ wr, Below b w2 wr → Below w.heap.size w wr) := Lib.hid (fun wr h => HB1.out.trans (h.mono (by omega)))
  have HRU : Hid (∀ wr, Below b w2 wr → RulesU b wr (.slice A gs.length cc) gs) := Lib.hid (fun wr h => by
    obtain ⟨A', c', e', h9⟩ := HR.out
    refine ⟨A', c', e', ?_⟩
    rcases h9 with h9 | ⟨g, hA, hg, hc⟩
    · exact .inl h9
    · exact .inr ⟨g, hA, by omega, fun j u hu => ((HBW.out wr h).cell (p := ⟨g, j, none⟩) hg).trans (hc j u hu)⟩)
  have HST : Hid (UpRel w2 b (w2.heap.size + 1) w.heap.size (.slice A gs.length cc) y gs cov (.int .i64 0) w4) := Lib.hid
    ⟨0, Nat.zero_le _, rfl, by
      rw [List.take_zero]
      have h9 := bld_kept hbd hB4
      rw [← hbb] at h9
      exact h9, own_lower hy (by simp), hb4, by rw [hbb]; exact hb4.size, (hb4.cell' (by rw [hbb]; exact hlw)).trans hc1⟩
  have hbC : b < w2.heap.size + 1 := by omega
  obtain ⟨Ay, cy, rfl⟩ := own_slice hy
  rw [← hbb]
  generalize w2.heap.size + 1 = C at *
  have hPb : w.heap.size < b := by omega
  clear hbd hy hB4 hb4 hbb hc3 hc1 hL hb3 hlw
  go_wp2_with fail
  go_loopw [12, 40] (fun _ i wr => UpRel w2 b C w.heap.size (.slice A gs.length cc) (.slice Ay cov.length cy) gs cov i wr) (fun _ i _ => cov.length - (intOf i).toNat)
  case atStart => exact HST.out
  case round =>
    obtain ⟨k, hk, rfl, hbd, hy, hB, hbs, hcp⟩ := hrel
    obtain ⟨wo, rfl⟩ : ∃ wo : World, wo = wr := ⟨_, rfl⟩
    by_cases hkn : k < cov.length
    · obtain ⟨Y, rfl, hY1, hY2⟩ := own_addr hy (by omega)
      have hmem := HCL.out _ (List.getElem_mem hkn)
      obtain ⟨q, hq⟩ : ∃ q : Nat, cov[k] = (q : Int) := ⟨cov[k].toNat, by omega⟩
      have ck : wo.cell? ⟨Y, k, none⟩ = some (.int .i64 (q : Int)) := by rw [hy.cellAt k (by omega), iv_get cov k hkn, hq]
      have htk := catW_take (gs := gs) hkn hq
      have hle := catW_le gs cov (k + 1)
      have hqn : q < gs.length := by omega
      have hlq := HWL.out q hqn
      rw [htk, List.length_append] at hle
      have hpl := HPL.out
      have HTK := Lib.hid htk
      have HY := Lib.hid hy
      have HBo := Lib.hid hB
      have HW := Lib.hid (HWW.out b (.slice A gs.length cc) q hqn _ wo hbd (HRU.out wo hB) hbs (by omega))
      have HCP := Lib.hid hcp
      clear htk hle hlq hpl hbd hy hB hmem hq
      go_wp2_with fail
      refine HW.out.mono ?_
      rintro e w6 ⟨rfl, hbd6, hB6, hO6⟩
      have HST2 : Hid (UpRel w2 b C w.heap.size (.slice A gs.length cc) (.slice (some ⟨Y, 0, none⟩) cov.length cy) gs cov (.int .i64 ((k : Int) + 1)) w6) := Lib.hid
        ⟨k + 1, by omega, by go_num, by rw [HTK.out]; exact hbd6, own_oth HY.out hO6 (by decide) (fun e => by have h7 : Y = b := (by simpa [Value.ownBlock] using e); omega), HBo.out.trans hB6, Nat.le_trans hbs hB6.size, (hB6.cell' hPb).trans HCP.out⟩
      clear hbd6 hB6 hO6 hcp
      go_wp2_with fail
      go_roundw
      case rel => first | exact HST2.out | ((repeat apply Exists.intro); exact ⟨HST2.out, rfl⟩)
      case measure => (first | (simp [intOf]; done) | (simp [intOf]; omega))
    · obtain rfl : k = cov.length := by omega
      rw [List.take_of_length_le (Nat.le_refl _), HCW.out] at hbd
      have HS := Lib.hid (Tryd.Builder_String_any_k b b (partW gs i j) wo hbd hbs)
      have HBo := Lib.hid hB
      clear hbd hy hB
      go_wp2_with fail
      refine HS.out.mono ?_
      rintro e w7 ⟨rfl, _, hB7, _⟩
      have HE := Lib.hid (HBW.out w7 (HBo.out.trans hB7))
      clear hB7
      go_wp2_with fail
      go_ret2
      exact ⟨rfl, HE.out⟩

theorem implUnpackPart (v : Value) (gs : List Rl) (i j : Int) (w : World) (hf : FewR gs) (hr : Rules w v gs) :
    Calls Tryd.prog 78 #[.agg #[v], .int .i64 i, .int .i64 j] w fun e w' => e = .returned (.tuple #[.string (strUnpackPart gs i j).1, .int .i64 (strUnpackPart gs i j).2]) ∧ Below w.heap.size w w' := by
  unfold strUnpackPart
  have hwl : (lens gs).getD (gs.length - 1) 0 = wordLen gs := rfl
  rw [hwl]
  cases hok : gOk gs
  · exact implUnpack_no v gs i j 1 w hf hr (.inl ⟨hok, rfl⟩)
  · rw [if_pos rfl]
    cases hp : inPart i j (wordLen gs)
    · rw [if_neg (fun h => by rw [inPart_iff.2 h] at hp; cases hp)]
      exact implUnpack_no v gs i j 2 w hf hr (.inr (.inl ⟨hok, hp, rfl⟩))
    · have hp' := inPart_iff.1 hp
      rw [if_pos hp']
      by_cases hl : 2000 < j - i
      · rw [if_pos hl]
        exact implUnpack_no v gs i j 3 w hf hr (.inr (.inr (.inl ⟨hok, hp, hl, rfl⟩)))
      · rw [if_neg hl]
        by_cases hij : i = j
        · subst hij
          have : partW gs i i = [] := by
            unfold partW
            apply List.drop_eq_nil_of_le
            rw [List.length_take]; omega
          rw [this]
          exact implUnpack_no v gs i i 0 w hf hr (.inr (.inr (.inr ⟨hok, hp, rfl, rfl⟩)))
        · obtain ⟨A, cc, rfl, hr'⟩ := hr
          exact implUnpack_ok A cc gs i j w hf ⟨A, cc, rfl, hr'⟩ hok hp (by omega) (by omega)
end Go.Proofs.YtcaeihdfljljbaaDoor
