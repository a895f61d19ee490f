/-
  Walk: impl.patternAuto.
-/
import Derived.Test.YtaffachjopjbgaaPtF
import Derived.Test.YtaffachjopjbgaaPtR
import Derived.Test.YtaffachjopjbgaaShelf
import Derived.Lib.OthersKept
import Derived.Lib.IndexAny
import Derived.Lib.Strings
import Derived.Deep.RegionHeld3
import Derived.Deep.AppendLies
namespace Go.Proofs.Ytaffachjopjbgaa
open Go.RowKit
open Wd
set_option linter.unusedVariables false
theorem letter_textP (k : Nat) (hk : k < 4) (w : World) : (convert 21 9 (.int .i32 (97 + (k : Int)))).run Try.prog w = .ok (.string ⟨#[ltB k]⟩) w := by
  have h0 : (convert 21 9 (.int .i32 97)).run Try.prog w = .ok (.string ⟨#[97]⟩) w := by kernel_rfl
  have h1 : (convert 21 9 (.int .i32 98)).run Try.prog w = .ok (.string ⟨#[98]⟩) w := by kernel_rfl
  have h2 : (convert 21 9 (.int .i32 99)).run Try.prog w = .ok (.string ⟨#[99]⟩) w := by kernel_rfl
  have h3 : (convert 21 9 (.int .i32 100)).run Try.prog w = .ok (.string ⟨#[100]⟩) w := by kernel_rfl
  match k, hk with
  | 0, _ => exact h0
  | 1, _ => exact h1
  | 2, _ => exact h2
  | 3, _ => exact h3
theorem grown_iterAtP (w : World) (k : Nat) (s : ByteArray) (pos : Nat) : w.grownBy (w.iterAt k s pos) (some k) :=
  ⟨rfl, rfl, rfl, by rw [Lib.iterAt_size]; exact Nat.le_refl _, fun i _ hi => Lib.iterAt_other w k i s pos (fun e => hi (by rw [e]))⟩
theorem own_iter_neP {w : World} {B e s n I pos : Nat} {v : Value} {xs : List Value} {str : ByteArray} (h : w.ownsRow B e s v n xs) (hi : w.heap[I]? = some (.stringIter str pos)) : v.ownBlock ≠ some I := by
  rcases h.2 with ⟨rfl, _⟩ | ⟨g', cap, cur, rfl, _, hh, _⟩
  · simp [Value.ownBlock]
  · intro he
    have : g' = I := by simpa [Value.ownBlock] using he
    subst this
    rw [hh] at hi
    cases hi
theorem abcd_atP (k : Nat) (hk : k < 4) : ((⟨#[97, 98, 99, 100]⟩ : ByteArray)[k]'(by show k < 4; exact hk)).toNat = 97 + k := by
  match k, hk with
  | 0, _ => rfl
  | 1, _ => rfl
  | 2, _ => rfl
  | 3, _ => rfl
theorem abcd_nextP (w : World) (I k : Nat) (hk : k < 4) (hi : w.heap[I]? = some (.stringIter ⟨#[97, 98, 99, 100]⟩ k)) (ty : TypeId) :
    (Instr.next (.pointer (some ⟨I, 0, none⟩)) true ty).run Try.prog w = .ok (.tuple #[.bool true, .int .i64 k, .int .i32 (97 + (k : Int))]) (w.iterAt I ⟨#[97, 98, 99, 100]⟩ (k + 1)) := by
  have h1 := abcd_atP k hk
  have := Lib.run_next_ascii_at (P := Try.prog) w I ⟨#[97, 98, 99, 100]⟩ k ty hi (by show k < 4; exact hk) (by rw [h1]; omega)
  rw [h1] at this
  rw [this]
  simp
theorem abcd_endP (w : World) (I k : Nat) (hk : ¬ k < 4) (hi : w.heap[I]? = some (.stringIter ⟨#[97, 98, 99, 100]⟩ k)) (ty : TypeId) :
    (Instr.next (.pointer (some ⟨I, 0, none⟩)) true ty).run Try.prog w = .ok (.tuple #[.bool false]) w :=
  Lib.run_next_end_at w I ⟨#[97, 98, 99, 100]⟩ k ty hi hk
theorem fitN_eq {PL ul : List UInt8} {m : Nat} (h : (PL.take m).isSuffixOf ul = true) : fitL PL ul m = m := by
  cases m with
  | zero => rfl
  | succ m => exact fitL_yes h
/-- between two letters -/
def RIt (wo : World) (row : List Int) (I l : Nat) (tv : Value) (wr : World) : Prop := RSt wo row l tv wr ∧ wr.heap[I]? = some (.stringIter ⟨#[97, 98, 99, 100]⟩ l)
set_option maxRecDepth 100000 in
set_option maxHeartbeats 12800000 in
theorem patternAuto_any (p : ByteArray) (w : World) (hp : p.size ≤ 20) :
    Calls Try.prog 112 #[.string p] w fun e w' => ∃ f n U, e = .returned (.agg #[.int .i64 (patA p.data.toList).st, .int .i64 (patA p.data.toList).go, f, n]) ∧ OwnA w' w.heap.size f n U (patA p.data.toList).fin (patA p.data.toList).nx ∧ Below w.heap.size w w' := by
  have hl : p.data.toList.length = p.size := by simp
  unfold patA
  simp only
  have hnl := patNx_len p.data.toList
  rw [hl] at hnl ⊢
  have HNG := Lib.hid (fun k (hk : k < (patNx p.data.toList).length) => patNx_get hk)
  have HNL := Lib.hid hnl
  clear hnl
  obtain ⟨S, hS⟩ : ∃ S, S = p.size := ⟨_, rfl⟩
  rw [← hS] at hp HNL ⊢
  have HSZ := Lib.hid hS
  have hw1 : wrap64 ((S : Int) + 1) = (S : Int) + 1 := by unfold wrap64; omega
  obtain ⟨hRb, hFb, hXb, hB3, hs3⟩ := al3 w (.cells #[.int .i64 0, .int .i64 0, .slice none 0 0, .slice none 0 0] 33) (.cells #[.int .i64 (S : Int)] 2) (.cells #[.int .i64 ((S : Int) + 1), .int .i64 0, .slice (some ⟨w.heap.size + 1, 0, none⟩) 1 1, .slice none 0 0] 33)
  have hown : OwnsI (((w.alloc (.cells #[.int .i64 0, .int .i64 0, .slice none 0 0, .slice none 0 0] 33)).alloc (.cells #[.int .i64 (S : Int)] 2)).alloc (.cells #[.int .i64 ((S : Int) + 1), .int .i64 0, .slice (some ⟨w.heap.size + 1, 0, none⟩) 1 1, .slice none 0 0] 33)) w.heap.size (.slice (some ⟨w.heap.size + 1, 0, none⟩) 1 1) [(S : Int)] := by
    have h1 := World.ownsRow_lit (base := w.heap.size) (e := 2) (size := 1) (w.alloc (.cells #[.int .i64 0, .int .i64 0, .slice none 0 0, .slice none 0 0] 33)) #[.int .i64 (S : Int)] 1 (by simp) (by decide) rfl
    rw [show (w.alloc (.cells #[.int .i64 0, .int .i64 0, .slice none 0 0, .slice none 0 0] 33)).heap.size = w.heap.size + 1 from by simp] at h1
    exact h1.alloc _
  have hG3 : GSt w (w.heap.size + 2) ((S : Int) + 1) 0 [(S : Int)] (.slice (some ⟨w.heap.size + 1, 0, none⟩) 1 1) ((patNx p.data.toList).take 0) (.slice none 0 0) (((w.alloc (.cells #[.int .i64 0, .int .i64 0, .slice none 0 0, .slice none 0 0] 33)).alloc (.cells #[.int .i64 (S : Int)] 2)).alloc (.cells #[.int .i64 ((S : Int) + 1), .int .i64 0, .slice (some ⟨w.heap.size + 1, 0, none⟩) 1 1, .slice none 0 0] 33)) :=
    ⟨hXb, ⟨[], _, hown, fun q hq => (hown.lt q hq).2, by rw [hs3]; omega, Nat.le_refl _, ⟨World.ownsRow_nil _ _ _ _, by rw [List.take_zero]; exact Rws.nil _ _⟩⟩, by omega, hB3⟩
  have HG3 := Lib.hid hG3
  have HR3 : Hid (B4 _ w.heap.size (.int .i64 0) (.int .i64 0) (.slice none 0 0) (.slice none 0 0) 33) := Lib.hid hRb
  have HS3 := Lib.hid hs3
  obtain ⟨⟨x0, x1, x2, x3⟩, _⟩ := blk4_cells (show B4 _ (w.heap.size + 2) _ _ _ _ _ from hXb)
  clear hRb hFb hXb hB3 hs3 hown hG3 hS hl
  obtain ⟨PL, hPL⟩ : ∃ PL, PL = p.data.toList := ⟨_, rfl⟩
  rw [← hPL] at HG3 HNL HNG ⊢
  have HPL := Lib.hid hPL
  clear hPL
  have HSZ2 : Hid (p.size = S) := Lib.hid HSZ.out.symm
  go_enter Try.func112, Try.ntmps112
  go_upto_region 2 with fail
  rw [HSZ2.out, hw1]
  generalize ((w.alloc (.cells #[.int .i64 0, .int .i64 0, .slice none 0 0, .slice none 0 0] 33)).alloc (.cells #[.int .i64 (S : Int)] 2)).alloc (.cells #[.int .i64 ((S : Int) + 1), .int .i64 0, .slice (some ⟨w.heap.size + 1, 0, none⟩) 1 1, .slice none 0 0] 33) = w3 at *
  obtain ⟨X, hX⟩ : ∃ X, X = w.heap.size + 2 := ⟨_, rfl⟩
  rw [← hX] at HG3 x0 x1 x2 x3 ⊢
  have HRK := Lib.hid (fun W (hb : Below w3.heap.size w3 W) => HR3.out.kept hb)
  have HXE := Lib.hid hX
  clear hX
  go_wp2_with fail
  clear x0 x1 x2 x3
  go_loopw [19] (fun i wr => ∃ (k : Nat) (n : Value), k ≤ S + 1 ∧ i = .int .i64 k ∧ GSt w X ((S : Int) + 1) 0 [(S : Int)] (.slice (some ⟨w.heap.size + 1, 0, none⟩) 1 1) ((patNx PL).take k) n wr ∧ B4 wr w.heap.size (.int .i64 0) (.int .i64 0) (.slice none 0 0) (.slice none 0 0) 33) (fun i _ => S + 1 - (intOf i).toNat)
  case atStart => exact ⟨0, _, Nat.zero_le _, rfl, HG3.out, HR3.out⟩
  case round =>
    obtain ⟨k, n, hk, rfl, hst, hR⟩ := hrel
    obtain ⟨wo, rfl⟩ : ∃ wo : World, wo = wr := ⟨_, rfl⟩
    have HS := Lib.hid hst
    have HR := Lib.hid hR
    by_cases hlt : k < S + 1
    · have hkg : k < (patNx PL).length := by rw [HNL.out]; exact hlt
      have HTK : Hid ((patNx PL).take (k + 1) = (patNx PL).take k ++ [patRow PL k]) := Lib.hid (by rw [List.take_succ_eq_append_getElem hkg, HNG.out k hkg])
      have hrl := patRow_len PL k
      have HRG := Lib.hid (fun l (hl : l < (patRow PL k).length) => patRow_get hl)
      have HRL := Lib.hid hrl
      have HRS := Lib.hid (rst_start wo (patRow PL k))
      have hkS : (k : Int) ≤ (S : Int) := by omega
      have hkP : (k : Int) ≤ (p.size : Int) := by rw [HSZ2.out]; omega
      have k0 : (0 : Int) ≤ (k : Int) := by omega
      have hkS1 : (k : Int) < (S : Int) + 1 := by omega
      obtain ⟨row, hrow⟩ : ∃ row, row = patRow PL k := ⟨_, rfl⟩
      rw [← hrow] at HRL HRS HTK
      have HROW := Lib.hid hrow
      clear hkg hrl hrow hst hR
      have HRI : Hid (RIt wo row (wo.heap.size + 1) 0 (.slice (some ⟨wo.heap.size, 0, none⟩) 0 0) ((wo.alloc (.cells #[] 2)).alloc (.stringIter ⟨#[97, 98, 99, 100]⟩ 0))) := Lib.hid ⟨HRS.out.kept ((Below.refl _ _).alloc (Nat.le_refl _) _), by
        have := heap_alloc_new (wo.alloc (.cells #[] 2)) (.stringIter ⟨#[97, 98, 99, 100]⟩ 0)
        rwa [show (wo.alloc (.cells #[] 2)).heap.size = wo.heap.size + 1 from by simp] at this⟩
      obtain ⟨I, hI⟩ : ∃ I, I = wo.heap.size + 1 := ⟨_, rfl⟩
      have HIE := Lib.hid hI
      rw [← hI] at HRI
      clear hI
      go_wp2_with fail
      rw [← HIE.out]
      go_loopw [5] (fun tv wr => ∃ l : Nat, l ≤ 4 ∧ RIt wo row I l tv wr) (fun _ wr => 4 - wr.iterPos I)
      case atStart => exact ⟨0, by omega, HRI.out⟩
      case round =>
        obtain ⟨l, hl4, hst⟩ := hrel
        obtain ⟨wu, rfl⟩ : ∃ wu : World, wu = wr := ⟨_, rfl⟩
        have hms := iterPos_of hst.2
        by_cases hl : l < 4
        · obtain ⟨i0, hi, hz0, hz1, hz2⟩ := info_parts Try.info_int64
          have hnx := abcd_nextP wu I l hl hst.2
          have hlr : l < row.length := by rw [HRL.out]; exact hl
          have hb1 := grown_iterAtP wu I ⟨#[97, 98, 99, 100]⟩ (l + 1)
          have hIw : wo.heap.size ≤ I := by have := HIE.out; omega
          obtain ⟨A3, c3, hA3⟩ := own_slice hst.1.1
          rw [List.length_take, Nat.min_eq_left (by omega)] at hA3
          subst hA3
          have HSR : Hid (RSt wo row l (.slice A3 l c3) (wu.iterAt I ⟨#[97, 98, 99, 100]⟩ (l + 1))) := Lib.hid ⟨World.ownsRow.kept hst.1.1 hb1 (.inr (own_iter_neP hst.1.1 hst.2)), Lib.below_iterAt hst.1.2 hIw _ _⟩
          have HIT : Hid ((wu.iterAt I ⟨#[97, 98, 99, 100]⟩ (l + 1)).heap[I]? = some (.stringIter ⟨#[97, 98, 99, 100]⟩ (l + 1))) := Lib.hid (Lib.iterAt_heap wu I _ l (l + 1) hst.2)
          clear hst hb1 hIw
          generalize wu.iterAt I ⟨#[97, 98, 99, 100]⟩ (l + 1) = w1 at *
          have hcv := fun W => letter_textP l hl W
          have HLR := Lib.hid hlr
          obtain ⟨z, hz⟩ : ∃ z, z = fitN PL (PL.take k ++ [ltB l]) := ⟨_, rfl⟩
          have HZ : Hid (row[l]'HLR.out = ((z : Nat) : Int)) := Lib.hid (by
            simp only [HROW.out]
            exact (HRG.out l (by rw [← HROW.out]; exact hlr)).trans (by rw [hz]))
          have HUS : Hid ((p.extract 0 k ++ ⟨#[ltB l]⟩).data.toList = PL.take k ++ [ltB l]) := Lib.hid (by
            rw [ByteArray.data_append, Array.toList_append, extract_listP, HPL.out, List.drop_zero, Nat.sub_zero])
          have hle : (p.extract 0 k).size = k := by rw [ByteArray.size_extract]; omega
          have hus : (p.extract 0 k ++ ⟨#[ltB l]⟩ : ByteArray).size = k + 1 := by rw [ByteArray.size_append, hle]; rfl
          have hc1 : (9223372036854775807 < (p.extract 0 k).size + 1) = False := by rw [hle]; simp; omega
          have hc2 : (9223372036854775807 < min k p.size + 1) = False := by
            have := HSZ2.out
            have := Nat.min_le_right k p.size
            simp only [eq_iff_iff, iff_false]; omega
          have HFIT : Hid (∀ u : ByteArray, u.data.toList = PL.take k ++ [ltB l] → fitL PL u.data.toList (min (k + 1) S) = z) := Lib.hid (fun u hu => by
            rw [hu, hz]
            unfold fitN
            have h2 : PL.length = S := by rw [HPL.out, HSZ.out]; simp
            rw [h2, List.length_append, List.length_take, h2, Nat.min_eq_left (by omega : k ≤ S), Nat.min_comm]
            rfl)
          clear hz hlr
          go_upto_region 10 with fail
          have HU2 := HUS.out
          have HF2 := HFIT.out _ HU2
          have HHS : Hid (∀ q W, Calls Try.prog 166 #[.string (p.extract 0 k ++ ⟨#[ltB l]⟩), .string q] W fun e w' => e = .returned (.bool (q.data.toList.isSuffixOf (p.extract 0 k ++ ⟨#[ltB l]⟩).data.toList)) ∧ w' = W) := Lib.hid (fun q W => (Try.strings_HasSuffix _ q W (by rw [hus]; omega)).mono (fun e w' h => ⟨h.1.trans rfl, h.2⟩))
          have hul : (p.extract 0 k ++ ⟨#[ltB l]⟩).data.toList.length = k + 1 := by rw [← hus]; simp; rfl
          generalize p.extract 0 k ++ ⟨#[ltB l]⟩ = u at *
          have HF3 := Lib.hid HF2
          have HUL := Lib.hid hul
          clear HU2 HF2 hul hle
          go_wp2_with fail
          go_loopw [9] (fun i wr => ∃ m : Nat, m ≤ S ∧ m ≤ k + 1 ∧ i = .int .i64 m ∧ fitL PL u.data.toList m = z ∧ w1 = wr) (fun i _ => (intOf i).toNat)
          case atStart => exact ⟨min (k + 1) S, by omega, by omega, by (congr 1; rw [HSZ2.out]; omega), HF3.out, rfl⟩
          case round =>
            obtain ⟨m, hm1, hm2, rfl, hfit, rfl⟩ := hrel
            have hmp : (m : Int) ≤ (p.size : Int) := by rw [HSZ2.out]; omega
            have m0 : (0 : Int) ≤ (m : Int) := by omega
            have hql : (p.extract 0 m).data.toList = PL.take m := by rw [extract_listP, HPL.out, List.drop_zero, Nat.sub_zero]
            have HC := Lib.hid (HHS.out (p.extract 0 m) w1)
            rw [hql] at HC
            clear hql
            cases hs : (PL.take m).isSuffixOf u.data.toList
            · rw [hs] at HC
              obtain ⟨j, hj⟩ : ∃ j, m = j + 1 := by
                cases m with
                | zero => rw [List.take_zero, suffix_nil] at hs; cases hs
                | succ j => exact ⟨j, rfl⟩
              have HN : Hid (fitL PL u.data.toList j = z) := Lib.hid (by rw [← hfit, hj, fitL_no (by rw [← hj]; exact hs)])
              have hw2 : IntKind.i64.wrap ((m : Int) - 1) = (j : Int) := by rw [IntKind.wrap_i64]; omega
              have HJ := Lib.hid hj
              clear hs hfit hj
              go_wp2_with fail
              refine HC.out.mono ?_
              rintro e w9 ⟨rfl, hw9⟩
              obtain rfl := hw9.symm
              go_wp2_with fail
              go_roundw
              case rel => exact ⟨j, by have := HJ.out; omega, by have := HJ.out; omega, rfl, HN.out, by first | rfl | trivial⟩
              case measure => (have := HJ.out; simp [intOf]; omega)
            · rw [hs] at HC
              have HN : Hid (m = z) := Lib.hid (by rw [← hfit]; exact (fitN_eq hs).symm)
              have HO : Hid (∀ o, (w1.alloc o).ownsRow wo.heap.size 2 1 (.slice A3 l c3) l (iv (row.take l))) := Lib.hid (fun o => by
                have := HSR.out.1.alloc o
                rwa [List.length_take, Nat.min_eq_left (by rw [HRL.out]; omega)] at this)
              have hws : wo.heap.size ≤ w1.heap.size := HSR.out.2.size
              clear hs hfit
              go_wp2_with fail
              refine HC.out.mono ?_
              rintro e w9 ⟨rfl, hw9⟩
              obtain rfl := hw9.symm
              go_wp2_with (first | (at_builtin; refine wpList_append_own _ rfl _ _ 22 rfl wo.heap.size 2 i0 (.int .i64 0) 1 8 Try.underlying22 hi hz0 hz1 hz2 rfl (by decide) _ _ _ rfl (HO.out _) ⟨w1.heap.size, 0, none⟩ 1 1 [.int .i64 (m : Int)] rfl rfl (one_new _ _ _) (one_int _ _) (by unfold maxLen; omega) (by omega) (by simp; omega) ?_))
              intro v' w5 hown' hgr _
              have HZ2 : Hid (row[l]'HLR.out = (m : Int)) := Lib.hid (by rw [HN.out]; exact HZ.out)
              have HN5 := Lib.hid (RSt.append HSR.out HLR.out HZ2.out hown' hgr)
              have HI5 : Hid (w5.heap[I]? = some (.stringIter ⟨#[97, 98, 99, 100]⟩ (l + 1))) := Lib.hid (by
                have hIl : I < w1.heap.size := (Array.getElem?_eq_some_iff.1 HIT.out).1
                rw [hgr.block I (by simp; omega) (fun e => own_iter_neP HSR.out.1 HIT.out e.symm), ((Below.refl _ w1).alloc (Nat.le_refl _) _).block I hIl]
                exact HIT.out)
              have hm5 := iterPos_of HI5.out
              clear hown' hgr
              go_wp2_with fail
              go_roundw
              all_goals first | exact ⟨l + 1, by omega, HN5.out, HI5.out⟩ | ((repeat apply Exists.intro); exact ⟨⟨l + 1, by omega, HN5.out, HI5.out⟩, rfl⟩) | (simp [intOf]; done) | (simp [intOf]; omega) | omega
        · obtain rfl : l = 4 := by omega
          have hnx := abcd_endP wu I 4 (by omega) hst.2
          have hst := hst.1
          obtain ⟨i0, hi, hz0, hz1, hz2⟩ := info_parts Try.info_ints
          have hO4 := hst.1
          rw [List.take_of_length_le (by rw [HRL.out]; exact Nat.le_refl _)] at hO4
          have HO4 := Lib.hid hO4
          clear hO4
          have HBU := Lib.hid hst.2
          obtain ⟨U, B, hown⟩ := HS.out.own
          have HOW := Lib.hid hown
          have hUl : U.length = k := by rw [hown.2.2.2.2.len, List.length_take, HNL.out]; omega
          have HUL := Lib.hid hUl
          obtain ⟨An', cn', hAn⟩ := own_slice hown.2.2.2.2.outer
          rw [hUl] at hAn
          subst hAn
          have hBs : B ≤ wo.heap.size := hown.2.2.2.1
          have hws : wo.heap.size ≤ wu.heap.size := hst.2.size
          have HOUT : Hid (∀ o, (wu.alloc o).ownsRow B 22 1 (.slice An' k cn') k U) := Lib.hid (fun o => by
            have := ((hown.2.2.2.2.kept hst.2).outer.alloc o)
            rwa [hUl] at this)
          have HX9 := Lib.hid (HS.out.out.kept hst.2)
          have hX9 : X < wu.heap.size := HX9.out.lt
          have hXw : w.heap.size < X := by have := HXE.out; omega
          have HWB : Hid (w.heap.size < B) := Lib.hid (by have := hown.2.2.1; have := HXE.out; omega)
          obtain ⟨⟨y0, y1, y2, y3⟩, d0, d1, d2, d3⟩ := blk4_cells HX9.out
          obtain ⟨A9, c9, hA9⟩ := own_slice HO4.out
          rw [HRL.out] at hA9
          subst hA9
          have HR9 := Lib.hid (HR.out.kept hst.2)
          clear hst hown hUl
          go_wp2_with (first | (at_builtin; refine wpList_append_own _ rfl _ _ 23 rfl B 22 i0 (.slice none 0 0) 1 24 Try.underlying23 hi hz0 hz1 hz2 rfl (by decide) _ _ _ rfl (HOUT.out _) ⟨wu.heap.size, 0, none⟩ 1 1 [.slice A9 4 c9] rfl rfl (one_new _ _ _) (one_slice _ _ _) (by unfold maxLen; omega) (by omega) (by simp; omega) ?_))
          intro n' w10 hown' hgrow _
          obtain ⟨hb4, hnew⟩ := GSt.append HS.out HOW.out HBU.out HO4.out (by rw [HUL.out]; exact hown') hgrow
          have HNEW : Hid (GSt w X ((S : Int) + 1) 0 [(S : Int)] (.slice (some ⟨w.heap.size + 1, 0, none⟩) 1 1) ((patNx PL).take (k + 1)) n' (w10.setCell ⟨X, 3, none⟩ n')) := Lib.hid (by rw [HTK.out]; exact hnew)
          have HR10 : Hid (B4 (w10.setCell ⟨X, 3, none⟩ n') w.heap.size (.int .i64 0) (.int .i64 0) (.slice none 0 0) (.slice none 0 0) 33) := Lib.hid (B4.far ((HR9.out.alloc _).grown hgrow (fun e => by have h1 := (HOW.out.2.2.2.2.outer.lt _ e).1; have h2 := HWB.out; omega)) _ _ (by simp only; omega))
          obtain ⟨⟨z0, z1, z2, z3⟩, b0, b1, b2, b3⟩ := blk4_cells hb4
          obtain ⟨An2, cn2, rfl⟩ := own_slice hown'
          clear hown' hgrow hb4 hnew y0 y1 y2 y3 d0 d1 d2 d3
          go_wp2_with fail
          go_roundw
          all_goals first | exact ⟨k + 1, _, by omega, by go_num, HNEW.out, HR10.out⟩ | ((repeat apply Exists.intro); exact ⟨⟨k + 1, _, by omega, by go_num, HNEW.out, HR10.out⟩, rfl⟩) | (simp [intOf]; done) | (simp [intOf]; omega) | omega
    · obtain rfl : k = S + 1 := by omega
      have hlt2 : ¬ ((S : Int) + 1) ≤ (p.size : Int) := by rw [HSZ2.out]; omega
      have hlt3 : ¬ ((S : Int) + 1) < ((S : Int) + 1) := by omega
      obtain ⟨U, B, hown⟩ := hst.own
      obtain ⟨An', cn', hAn⟩ := own_slice hown.2.2.2.2.outer
      obtain ⟨⟨x0, x1, x2, x3⟩, _⟩ := blk4_cells hst.out
      rw [hAn] at x3
      obtain ⟨⟨r0, r1, r2, r3⟩, g0, g1, g2, g3⟩ := blk4_cells hR
      have HE := Lib.hid (blk4_cells (blk4_all (a' := .int .i64 ((S : Int) + 1)) (b' := .int .i64 0) (c' := .slice (some ⟨w.heap.size + 1, 0, none⟩) 1 1) (d' := .slice An' U.length cn') hR)).1
      have HBW := Lib.hid hst.below
      have HA9 := Lib.hid (hst.ownA hR (.int .i64 ((S : Int) + 1)) (.int .i64 0) (.slice (some ⟨w.heap.size + 1, 0, none⟩) 1 1) (.slice An' U.length cn'))
      have hXw : w.heap.size ≠ X := by have := HXE.out; omega
      have HTA : Hid ((patNx PL).take (S + 1) = patNx PL) := Lib.hid (List.take_of_length_le (by rw [HNL.out]; exact Nat.le_refl _))
      subst hAn
      clear hown hst hR
      go_wp2_with fail
      obtain ⟨y0, y1, y2, y3⟩ := HE.out
      obtain ⟨U', hA⟩ := HA9.out
      refine bodyPost_ret (v := .agg #[.int .i64 ((S : Int) + 1), .int .i64 0, .slice (some ⟨w.heap.size + 1, 0, none⟩) 1 1, .slice An' U.length cn']) (by simp [results, Try.results112, go_sem, y0, y1, y2, y3]) rfl ⟨_, _, rfl, ⟨U', ?_⟩, ?_⟩
      · rw [HTA.out] at hA
        exact hA
      · exact (((HBW.out.setCell (Nat.le_refl _) _).setCell (Nat.le_refl _) _).setCell (Nat.le_refl _) _).setCell (Nat.le_refl _) _
end Go.Proofs.Ytaffachjopjbgaa
