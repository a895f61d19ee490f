/-
  Walk: spec.l04Pattern.
-/
import Derived.Test.YtaffachjopjbgaaPtF
import Derived.Test.YtaffachjopjbgaaPtR
import Derived.Deep.RegionHeld3
import Derived.Deep.AppendLies
namespace Go.Proofs.Ytaffachjopjbgaa
open Go.RowKit
open Wd
set_option linter.unusedVariables false
theorem convL_any (l : Nat) (hl : l < 4) (w : World) (g : Nat) (h : w.cell? ⟨g, 0, none⟩ = some (.int .u8 (97 + (l : Int)))) :
    (convert 158 9 (.slice (some ⟨g, 0, none⟩) 1 1)).run Try.prog w = .ok (.string ⟨#[ltB l]⟩) w := by
  refine run_convert_bytes_back (P := Try.prog) w 158 9 5 ⟨g, 0, none⟩ 1 [ltB l] Try.underlying158 Try.underlying5 Try.underlying9 (fun j hj => ?_)
  match j, hj with
  | 0, _ =>
    rw [show ((⟨g, 0, none⟩ : Addr).add 0) = ⟨g, 0, none⟩ from rfl, h]
    have := ltB_nat hl
    simp [this]
set_option maxRecDepth 100000 in
set_option maxHeartbeats 12800000 in
theorem l04Pattern_any (p : ByteArray) (w : World) (hp : p.size ≤ 20) :
    Calls Try.prog 94 #[.string p] w fun e w' => ∃ f n U, e = .returned (.agg #[.int .i64 (patA p.data.toList).st, .int .i64 (patA p.data.toList).go, f, n]) ∧ OwnA w' w.heap.size f n U (patA p.data.toList).fin (patA p.data.toList).nx ∧ Below w.heap.size w w' := by
  have hl : p.data.toList.length = p.size := by simp
  unfold patA
  simp only
  have hnl := patNx_len p.data.toList
  rw [hl] at hnl ⊢
  have HNG := Lib.hid (fun k (hk : k < (patNx p.data.toList).length) => patNx_get hk)
  have HNL := Lib.hid hnl
  clear hnl
  obtain ⟨S, hS⟩ : ∃ S, S = p.size := ⟨_, rfl⟩
  rw [← hS] at hp HNL ⊢
  have HSZ := Lib.hid hS
  have hw1 : wrap64 ((S : Int) + 1) = (S : Int) + 1 := by unfold wrap64; omega
  obtain ⟨hRb, hFb, hXb, hB3, hs3⟩ := al3 w (.cells #[.int .i64 0, .int .i64 0, .slice none 0 0, .slice none 0 0] 33) (.cells #[.int .i64 (S : Int)] 2) (.cells #[.int .i64 ((S : Int) + 1), .int .i64 0, .slice (some ⟨w.heap.size + 1, 0, none⟩) 1 1, .slice none 0 0] 33)
  have hown : OwnsI (((w.alloc (.cells #[.int .i64 0, .int .i64 0, .slice none 0 0, .slice none 0 0] 33)).alloc (.cells #[.int .i64 (S : Int)] 2)).alloc (.cells #[.int .i64 ((S : Int) + 1), .int .i64 0, .slice (some ⟨w.heap.size + 1, 0, none⟩) 1 1, .slice none 0 0] 33)) w.heap.size (.slice (some ⟨w.heap.size + 1, 0, none⟩) 1 1) [(S : Int)] := by
    have h1 := World.ownsRow_lit (base := w.heap.size) (e := 2) (size := 1) (w.alloc (.cells #[.int .i64 0, .int .i64 0, .slice none 0 0, .slice none 0 0] 33)) #[.int .i64 (S : Int)] 1 (by simp) (by decide) rfl
    rw [show (w.alloc (.cells #[.int .i64 0, .int .i64 0, .slice none 0 0, .slice none 0 0] 33)).heap.size = w.heap.size + 1 from by simp] at h1
    exact h1.alloc _
  have hG3 : GSt w (w.heap.size + 2) ((S : Int) + 1) 0 [(S : Int)] (.slice (some ⟨w.heap.size + 1, 0, none⟩) 1 1) ((patNx p.data.toList).take 0) (.slice none 0 0) (((w.alloc (.cells #[.int .i64 0, .int .i64 0, .slice none 0 0, .slice none 0 0] 33)).alloc (.cells #[.int .i64 (S : Int)] 2)).alloc (.cells #[.int .i64 ((S : Int) + 1), .int .i64 0, .slice (some ⟨w.heap.size + 1, 0, none⟩) 1 1, .slice none 0 0] 33)) :=
    ⟨hXb, ⟨[], _, hown, fun q hq => (hown.lt q hq).2, by rw [hs3]; omega, Nat.le_refl _, ⟨World.ownsRow_nil _ _ _ _, by rw [List.take_zero]; exact Rws.nil _ _⟩⟩, by omega, hB3⟩
  have HG3 := Lib.hid hG3
  have HR3 : Hid (B4 _ w.heap.size (.int .i64 0) (.int .i64 0) (.slice none 0 0) (.slice none 0 0) 33) := Lib.hid hRb
  have HS3 := Lib.hid hs3
  obtain ⟨⟨x0, x1, x2, x3⟩, _⟩ := blk4_cells (show B4 _ (w.heap.size + 2) _ _ _ _ _ from hXb)
  clear hRb hFb hXb hB3 hs3 hown hG3 hS hl
  obtain ⟨PL, hPL⟩ : ∃ PL, PL = p.data.toList := ⟨_, rfl⟩
  rw [← hPL] at HG3 HNL HNG ⊢
  have HPL := Lib.hid hPL
  clear hPL
  have HSZ2 : Hid (p.size = S) := Lib.hid HSZ.out.symm
  go_enter Try.func94, Try.ntmps94
  go_upto_region 2 with fail
  rw [HSZ2.out, hw1]
  generalize ((w.alloc (.cells #[.int .i64 0, .int .i64 0, .slice none 0 0, .slice none 0 0] 33)).alloc (.cells #[.int .i64 (S : Int)] 2)).alloc (.cells #[.int .i64 ((S : Int) + 1), .int .i64 0, .slice (some ⟨w.heap.size + 1, 0, none⟩) 1 1, .slice none 0 0] 33) = w3 at *
  obtain ⟨X, hX⟩ : ∃ X, X = w.heap.size + 2 := ⟨_, rfl⟩
  rw [← hX] at HG3 x0 x1 x2 x3 ⊢
  have HRK := Lib.hid (fun W (hb : Below w3.heap.size w3 W) => HR3.out.kept hb)
  have HXE := Lib.hid hX
  clear hX
  go_wp2_with fail
  clear x0 x1 x2 x3
  go_loopw [4] (fun i wr => ∃ (k : Nat) (n : Value), k ≤ S + 1 ∧ i = .int .i64 k ∧ GSt w X ((S : Int) + 1) 0 [(S : Int)] (.slice (some ⟨w.heap.size + 1, 0, none⟩) 1 1) ((patNx PL).take k) n wr ∧ B4 wr w.heap.size (.int .i64 0) (.int .i64 0) (.slice none 0 0) (.slice none 0 0) 33) (fun i _ => S + 1 - (intOf i).toNat)
  case atStart => exact ⟨0, _, Nat.zero_le _, rfl, HG3.out, HR3.out⟩
  case round =>
    obtain ⟨k, n, hk, rfl, hst, hR⟩ := hrel
    obtain ⟨wo, rfl⟩ : ∃ wo : World, wo = wr := ⟨_, rfl⟩
    have HS := Lib.hid hst
    have HR := Lib.hid hR
    by_cases hlt : k < S + 1
    · have hkg : k < (patNx PL).length := by rw [HNL.out]; exact hlt
      have HTK : Hid ((patNx PL).take (k + 1) = (patNx PL).take k ++ [patRow PL k]) := Lib.hid (by rw [List.take_succ_eq_append_getElem hkg, HNG.out k hkg])
      have hrl := patRow_len PL k
      have HRG := Lib.hid (fun l (hl : l < (patRow PL k).length) => patRow_get hl)
      have HRL := Lib.hid hrl
      have HRS := Lib.hid (rst_start wo (patRow PL k))
      have hkS : (k : Int) ≤ (S : Int) := by omega
      have hkP : (k : Int) ≤ (p.size : Int) := by rw [HSZ2.out]; omega
      have k0 : (0 : Int) ≤ (k : Int) := by omega
      have hkS1 : (k : Int) < (S : Int) + 1 := by omega
      obtain ⟨row, hrow⟩ : ∃ row, row = patRow PL k := ⟨_, rfl⟩
      rw [← hrow] at HRL HRS HTK
      have HROW := Lib.hid hrow
      clear hkg hrl hrow hst hR
      go_wp2_with fail
      go_loopw [5, 6] (fun tv b wr => ∃ l : Nat, l ≤ 4 ∧ b = .int .u8 (97 + (l : Int)) ∧ RSt wo row l tv wr) (fun _ b _ => 101 - (intOf b).toNat)
      case atStart => exact ⟨0, by omega, rfl, HRS.out⟩
      case round =>
        obtain ⟨l, hl4, rfl, hst⟩ := hrel
        obtain ⟨wu, rfl⟩ : ∃ wu : World, wu = wr := ⟨_, rfl⟩
        by_cases hl : l < 4
        · obtain ⟨i0, hi, hz0, hz1, hz2⟩ := info_parts Try.info_int64
          have hlr : l < row.length := by rw [HRL.out]; exact hl
          obtain ⟨A3, c3, hA3⟩ := own_slice hst.1
          rw [List.length_take, Nat.min_eq_left (by omega)] at hA3
          subst hA3
          have HST := Lib.hid hst
          have HLR := Lib.hid hlr
          obtain ⟨z, hz⟩ : ∃ z, z = row[l] := ⟨_, rfl⟩
          have HZ : Hid (row[l]'HLR.out = z) := Lib.hid hz.symm
          have hzf : z = ((fitN PL (PL.take k ++ [ltB l]) : Nat) : Int) := by
            rw [hz]
            simp only [HROW.out]
            exact HRG.out l (by rw [← HROW.out]; exact hlr)
          have HFT : Hid (∀ W (u : ByteArray), Below wu.heap.size wu W → u.data.toList = PL.take k ++ [ltB l] → Calls Try.prog 159 #[.string p, .string u] W fun e w' => e = .returned (.int .i64 z) ∧ Below wu.heap.size wu w') := Lib.hid (fun W u hb hu => by
            have hus : u.size ≤ 4000 := by
              have h1 : u.data.toList.length = u.size := by simp
              rw [hu, List.length_append, List.length_take] at h1
              have h2 : PL.length = S := by rw [HPL.out, HSZ.out]; simp
              simp at h1
              omega
            refine (l04Fit_any p u W (by rw [HSZ2.out]; omega) hus).mono ?_
            rintro e w' ⟨he, q, hw⟩
            rw [hu, ← HPL.out, ← hzf] at he
            exact ⟨he, by rw [hw]; exact below_drewN hb q⟩)
          have hwl : IntKind.u8.wrap (97 + (l : Int) + 1) = 97 + ((l : Int) + 1) := by
            match l, hl with
            | 0, _ => rfl
            | 1, _ => rfl
            | 2, _ => rfl
            | 3, _ => rfl
          have hle : 97 + (l : Int) ≤ 100 := by omega
          have hcv : (convert 158 9 (.slice (some ⟨wu.heap.size, 0, none⟩) 1 1)).run Try.prog (wu.alloc (.cells #[.int .u8 (97 + (l : Int))] 5)) = .ok (.string ⟨#[ltB l]⟩) (wu.alloc (.cells #[.int .u8 (97 + (l : Int))] 5)) := convL_any l hl _ _ (cell_of_row _ _ 0 _ _ _ (heap_alloc_new wu (.cells #[.int .u8 (97 + (l : Int))] 5)))
          have hcw : (convert 158 9 (.slice (some ⟨wu.heap.size, 0, none⟩) 1 1)).run Try.prog (wu.alloc (.cells #[.int .u8 (97 + (l : Int))] 5)).drew = .ok (.string ⟨#[ltB l]⟩) (wu.alloc (.cells #[.int .u8 (97 + (l : Int))] 5)).drew := convL_any l hl _ _ (cell_of_row _ _ 0 _ _ _ (heap_alloc_new wu (.cells #[.int .u8 (97 + (l : Int))] 5)))
          have hcx : ∀ m, (convert 158 9 (.slice (some ⟨wu.heap.size, 0, none⟩) 1 1)).run Try.prog ((wu.alloc (.cells #[.int .u8 (97 + (l : Int))] 5)).drewN m) = .ok (.string ⟨#[ltB l]⟩) ((wu.alloc (.cells #[.int .u8 (97 + (l : Int))] 5)).drewN m) := fun m => convL_any l hl _ _ (cell_of_row _ _ 0 _ _ _ (heap_alloc_new wu (.cells #[.int .u8 (97 + (l : Int))] 5)))
          have hcy : ∀ m, (convert 158 9 (.slice (some ⟨wu.heap.size, 0, none⟩) 1 1)).run Try.prog ((wu.drewN m).alloc (.cells #[.int .u8 (97 + (l : Int))] 5)) = .ok (.string ⟨#[ltB l]⟩) ((wu.drewN m).alloc (.cells #[.int .u8 (97 + (l : Int))] 5)) := fun m => convL_any l hl _ _ (cell_of_row _ _ 0 _ _ _ (heap_alloc_new (wu.drewN m) (.cells #[.int .u8 (97 + (l : Int))] 5)))
          have hcz : (convert 158 9 (.slice (some ⟨wu.heap.size, 0, none⟩) 1 1)).run Try.prog (wu.drew.alloc (.cells #[.int .u8 (97 + (l : Int))] 5)) = .ok (.string ⟨#[ltB l]⟩) (wu.drew.alloc (.cells #[.int .u8 (97 + (l : Int))] 5)) := convL_any l hl _ _ (cell_of_row _ _ 0 _ _ _ (heap_alloc_new wu.drew (.cells #[.int .u8 (97 + (l : Int))] 5)))
          have hps : (k : Int) ≤ (p.size : Int) := by rw [HSZ2.out]; exact hkS
          have hc1 : (9223372036854775807 < (p.extract 0 k).size + 1) = False := by
            have h1 : (p.extract 0 k).size ≤ p.size := by rw [ByteArray.size_extract]; omega
            have := HSZ2.out
            simp; omega
          have hc2 : (9223372036854775807 < min k p.size + 1) = False := by
            have := HSZ2.out
            have := Nat.min_le_right k p.size
            simp only [eq_iff_iff, iff_false]; omega
          have HUS : Hid ((p.extract 0 k ++ ⟨#[ltB l]⟩).data.toList = PL.take k ++ [ltB l]) := Lib.hid (by
            rw [ByteArray.data_append, Array.toList_append, extract_listP, HPL.out, List.drop_zero, Nat.sub_zero])
          have HO : Hid (∀ W, Below wu.heap.size wu W → W.ownsRow wo.heap.size 2 1 (.slice A3 l c3) l (iv (row.take l))) := Lib.hid (fun W hb => by
            have := own_below hst.1 hb (Nat.le_refl _)
            unfold OwnsI at this
            rwa [List.length_take, Nat.min_eq_left (by omega)] at this)
          have hws : wo.heap.size ≤ wu.heap.size := hst.2.size
          have HB1 : Hid (Below wu.heap.size wu (wu.alloc (.cells #[.int .u8 (97 + (l : Int))] 5))) := Lib.hid ((Below.refl _ wu).alloc (Nat.le_refl _) _)
          clear hst hz hzf
          go_upto_region 9 with fail
          go_region_law ((first
              | (go_simp
                 go_at_call 159
                 refine (HFT.out _ _ ?_ ?_).mono ?_
                 (first | exact HB1.out | exact below_drewN HB1.out 1 | exact below_drewN HB1.out _)
                 exact HUS.out
                 rintro e w9 ⟨rfl, hB9⟩
                 have HB9 := Lib.hid hB9
                 have hs9 : wu.heap.size ≤ w9.heap.size := hB9.size
                 have HST9 : Hid (RSt wo row l (.slice A3 l c3) w9) := Lib.hid (HST.out.kept hB9)
                 clear hB9)
              | (refine step_append_lies _ (by rfl) _ _ 22 (by rfl) wo.heap.size 2 i0 (.int .i64 0) 1 8 Try.underlying22 hi hz0 hz1 hz2 (by rfl) (by decide) (.slice A3 l c3) l (iv (row.take l)) (by rfl) ?_ ⟨w9.heap.size, 0, none⟩ 1 1 [.int .i64 z] (by rfl) (by rfl) ?_ (one_int _ _) (by decide) ?_ ?_ ?_ (w9.heap.size + 1) ?_ ?_
                 (first | exact World.ownsRow.alloc (HO.out _ HB9.out) _ | exact own_drewN (World.ownsRow.alloc (HO.out _ HB9.out) _) 1)
                 (first | exact one_new w9 _ _ | exact one_newD w9 _ _)
                 (unfold maxLen; omega)
                 omega
                 (simp; omega)
                 simp
                 intro g8 c8 w8 hown' hgrow _ _
                 have hG : (w9.alloc (.cells #[.int .i64 z] 2)).grownBy w8 (Value.slice A3 l c3).ownBlock := by first | exact hgrow | exact grown_undrew hgrow
                 have HN8 := Lib.hid (RSt.append HST9.out HLR.out HZ.out hown' hG)
                 clear hG hown' hgrow)))
          all_goals
            go_wp2_with fail
            go_roundw
            all_goals first | exact ⟨l + 1, by omega, by go_num, HN8.out⟩ | ((repeat apply Exists.intro); exact ⟨⟨l + 1, by omega, by go_num, HN8.out⟩, rfl⟩) | (simp [intOf]; done) | (simp [intOf]; omega) | omega
        · obtain rfl : l = 4 := by omega
          obtain ⟨i0, hi, hz0, hz1, hz2⟩ := info_parts Try.info_ints
          have hO4 := hst.1
          rw [List.take_of_length_le (by rw [HRL.out]; exact Nat.le_refl _)] at hO4
          have HO4 := Lib.hid hO4
          clear hO4
          have HBU := Lib.hid hst.2
          obtain ⟨U, B, hown⟩ := HS.out.own
          have HOW := Lib.hid hown
          have hUl : U.length = k := by rw [hown.2.2.2.2.len, List.length_take, HNL.out]; omega
          have HUL := Lib.hid hUl
          obtain ⟨An', cn', hAn⟩ := own_slice hown.2.2.2.2.outer
          rw [hUl] at hAn
          subst hAn
          have hBs : B ≤ wo.heap.size := hown.2.2.2.1
          have hws : wo.heap.size ≤ wu.heap.size := hst.2.size
          have HOUT : Hid (∀ o, (wu.alloc o).ownsRow B 22 1 (.slice An' k cn') k U) := Lib.hid (fun o => by
            have := ((hown.2.2.2.2.kept hst.2).outer.alloc o)
            rwa [hUl] at this)
          have HX9 := Lib.hid (HS.out.out.kept hst.2)
          have hX9 : X < wu.heap.size := HX9.out.lt
          have hXw : w.heap.size < X := by have := HXE.out; omega
          have HWB : Hid (w.heap.size < B) := Lib.hid (by have := hown.2.2.1; have := HXE.out; omega)
          obtain ⟨⟨y0, y1, y2, y3⟩, d0, d1, d2, d3⟩ := blk4_cells HX9.out
          obtain ⟨A9, c9, hA9⟩ := own_slice HO4.out
          rw [HRL.out] at hA9
          subst hA9
          have HR9 := Lib.hid (HR.out.kept hst.2)
          clear hst hown hUl
          go_wp2_with (first | (at_builtin; refine wpList_append_own _ rfl _ _ 23 rfl B 22 i0 (.slice none 0 0) 1 24 Try.underlying23 hi hz0 hz1 hz2 rfl (by decide) _ _ _ rfl (HOUT.out _) ⟨wu.heap.size, 0, none⟩ 1 1 [.slice A9 4 c9] rfl rfl (one_new _ _ _) (one_slice _ _ _) (by unfold maxLen; omega) (by omega) (by simp; omega) ?_))
          intro n' w10 hown' hgrow _
          obtain ⟨hb4, hnew⟩ := GSt.append HS.out HOW.out HBU.out HO4.out (by rw [HUL.out]; exact hown') hgrow
          have HNEW : Hid (GSt w X ((S : Int) + 1) 0 [(S : Int)] (.slice (some ⟨w.heap.size + 1, 0, none⟩) 1 1) ((patNx PL).take (k + 1)) n' (w10.setCell ⟨X, 3, none⟩ n')) := Lib.hid (by rw [HTK.out]; exact hnew)
          have HR10 : Hid (B4 (w10.setCell ⟨X, 3, none⟩ n') w.heap.size (.int .i64 0) (.int .i64 0) (.slice none 0 0) (.slice none 0 0) 33) := Lib.hid (B4.far ((HR9.out.alloc _).grown hgrow (fun e => by have h1 := (HOW.out.2.2.2.2.outer.lt _ e).1; have h2 := HWB.out; omega)) _ _ (by simp only; omega))
          obtain ⟨⟨z0, z1, z2, z3⟩, b0, b1, b2, b3⟩ := blk4_cells hb4
          obtain ⟨An2, cn2, rfl⟩ := own_slice hown'
          clear hown' hgrow hb4 hnew y0 y1 y2 y3 d0 d1 d2 d3
          go_wp2_with fail
          go_roundw
          all_goals first | exact ⟨k + 1, _, by omega, by go_num, HNEW.out, HR10.out⟩ | ((repeat apply Exists.intro); exact ⟨⟨k + 1, _, by omega, by go_num, HNEW.out, HR10.out⟩, rfl⟩) | (simp [intOf]; done) | (simp [intOf]; omega) | omega
    · obtain rfl : k = S + 1 := by omega
      have hlt2 : ¬ ((S : Int) + 1) ≤ (p.size : Int) := by rw [HSZ2.out]; omega
      have hlt3 : ¬ ((S : Int) + 1) < ((S : Int) + 1) := by omega
      obtain ⟨U, B, hown⟩ := hst.own
      obtain ⟨An', cn', hAn⟩ := own_slice hown.2.2.2.2.outer
      obtain ⟨⟨x0, x1, x2, x3⟩, _⟩ := blk4_cells hst.out
      rw [hAn] at x3
      obtain ⟨⟨r0, r1, r2, r3⟩, g0, g1, g2, g3⟩ := blk4_cells hR
      have HE := Lib.hid (blk4_cells (blk4_all (a' := .int .i64 ((S : Int) + 1)) (b' := .int .i64 0) (c' := .slice (some ⟨w.heap.size + 1, 0, none⟩) 1 1) (d' := .slice An' U.length cn') hR)).1
      have HBW := Lib.hid hst.below
      have HA9 := Lib.hid (hst.ownA hR (.int .i64 ((S : Int) + 1)) (.int .i64 0) (.slice (some ⟨w.heap.size + 1, 0, none⟩) 1 1) (.slice An' U.length cn'))
      have hXw : w.heap.size ≠ X := by have := HXE.out; omega
      have HTA : Hid ((patNx PL).take (S + 1) = patNx PL) := Lib.hid (List.take_of_length_le (by rw [HNL.out]; exact Nat.le_refl _))
      subst hAn
      clear hown hst hR
      go_wp2_with fail
      obtain ⟨y0, y1, y2, y3⟩ := HE.out
      obtain ⟨U', hA⟩ := HA9.out
      refine bodyPost_ret (v := .agg #[.int .i64 ((S : Int) + 1), .int .i64 0, .slice (some ⟨w.heap.size + 1, 0, none⟩) 1 1, .slice An' U.length cn']) (by simp [results, Try.results94, go_sem, y0, y1, y2, y3]) rfl ⟨_, _, rfl, ⟨U', ?_⟩, ?_⟩
      · rw [HTA.out] at hA
        exact hA
      · exact (((HBW.out.setCell (Nat.le_refl _) _).setCell (Nat.le_refl _) _).setCell (Nat.le_refl _) _).setCell (Nat.le_refl _) _
end Go.Proofs.Ytaffachjopjbgaa
