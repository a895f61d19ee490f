/-
  Walk: impl.EditText.
-/
import Derived.Test.YtcaeihdfljljbaaDoorEtS
import Derived.Test.YtcaeihdfljljbaaDoorEdI
import Derived.Test.YtcaeihdfljljbaaDoorUnpJ
import Derived.Test.YtcaeihdfljljbaaDoorWordM
import Derived.Deep.RegionHeld3
namespace Go.Proofs.YtcaeihdfljljbaaDoor
open Go.RowKit
open Wd
set_option linter.unusedVariables false
def strUnpackWord (gs : List Rl) : ByteArray × Int := if gOk gs then strUnpackPart gs 0 (wordLen gs) else (⟨#[]⟩, 1)
theorem strWord_ok {gs : List Rl} (hok : gOk gs = true) : strUnpackWord gs = if 2000 < wordLen gs then (⟨#[]⟩, 3) else (⟨(partW gs 0 (wordLen gs)).toArray⟩, 0) := by
  have hwb := wordLen_bd' hok
  unfold strUnpackWord strUnpackPart
  rw [hok, if_pos rfl, if_pos rfl, if_pos ⟨by omega, hwb.1, Int.le_refl _⟩, Int.sub_zero]

set_option maxRecDepth 100000 in
set_option maxHeartbeats 3200000 in
theorem implUnpackWord (v : Value) (gs : List Rl) (w : World) (hf : FewR gs) (hr : Rules w v gs) :
    Calls Tryd.prog 49 #[.agg #[v]] w fun e w' => e = .returned (.tuple #[.string (strUnpackWord gs).1, .int .i64 (strUnpackWord gs).2]) ∧ Below w.heap.size w w' := by
  have hb := (Below.refl _ w).alloc (Nat.le_refl _) (.cells #[v] 44)
  have h1 := len.vlen_any v gs _ hf (hr.kept hb)
  unfold LensPost at h1
  have HR := Lib.hid hr
  have HB := Lib.hid hb
  have hn := hf.len
  have HU := Lib.hid (fun W n hR => implUnpackPart v gs 0 n W hf hR)
  have HWL := Lib.hid (fun x B W (hx : OwnsI W B x (lens gs)) => wordLength_any x gs B W hn hx)
  have HC := Lib.hid (cell_new w v 44)
  obtain ⟨A, c, rfl, _⟩ := hr
  unfold strUnpackWord
  cases hok : gOk gs
  · rw [hok] at h1
    have H1 := Lib.hid h1
    clear h1 hok hb
    go_enter Tryd.func49, Tryd.ntmps49
    go_wp2_with fail
    refine H1.out.mono ?_
    rintro e w1 ⟨x, rfl, _, hB1⟩
    have HB1 := Lib.hid (HB.out.trans (hB1.mono (by simp)))
    clear hB1
    go_wp2_with fail
    go_ret2
    exact ⟨rfl, HB1.out⟩
  · rw [if_pos rfl]
    rw [hok] at h1
    have H1 := Lib.hid h1
    generalize wordLen gs = wl at *
    clear h1 hok hb
    go_enter Tryd.func49, Tryd.ntmps49
    go_wp2_with fail
    refine H1.out.mono ?_
    rintro e w1 ⟨x, rfl, ho, hB1⟩
    have HB1 := Lib.hid (HB.out.trans (hB1.mono (by simp)))
    have HC1 := Lib.hid ((hB1.cell (p := ⟨w.heap.size, 0, none⟩) (by simp)).trans HC.out)
    have HO := Lib.hid (ho trivial)
    have hc1 := HC1.out
    obtain ⟨Ax, cx, rfl⟩ := own_slice HO.out
    have HLW : Hid (∀ m, Calls Tryd.prog 79 #[.slice Ax (lens gs).length cx] (w1.drewN m) fun e w' => e = .returned (.int .i64 wl) ∧ w' = w1.drewN m) := Lib.hid (fun m => (HWL.out _ _ (w1.drewN m) HO.out).mono fun e w' h => ⟨h.1, h.2.symm⟩)
    have HU1 := Lib.hid (fun m => HU.out (w1.drewN m) wl (HR.out.kept (below_drewN HB1.out m)))
    clear hB1 ho
    go_wp2_with fail
    go_region_held3 (fun w' => w'.cell? ⟨w.heap.size, 0, none⟩ = some (.slice A gs.length c)) (first | go_keep | exact HC1.out | exact HC3.out)
      (first
        | (go_at_call 79; refine (HLW.out _).mono ?_; rintro e w2 ⟨rfl, rfl⟩)
        | (go_at_call 78; refine (HU1.out _).mono ?_; rintro e w3 ⟨rfl, hB3⟩; have HC3 := Lib.hid (((below_undrew hB3).cell (p := ⟨w.heap.size, 0, none⟩) (lt_of_cell HC1.out)).trans HC1.out); have HB3 := Lib.hid (HB1.out.trans ((below_undrew hB3).mono HB1.out.size))))
    go_wp2_with fail
    go_ret2
    exact ⟨rfl, HB3.out⟩
theorem Tryd.info_str : (Tryd.prog.info? 9).map (fun i => (i.zero, i.size, i.bytes)) = some (some (.string ⟨#[]⟩), 1, 16) := by kernel_rfl
theorem decimal_any (n : Nat) (w : World) (hn : n ≤ 1000000000000000) (ht : Pow10 w) :
    Calls Tryd.prog 31 #[.int .i64 (n : Int)] w fun e w' => e = .returned (.string (decT n)) ∧ Below w.heap.size w w' := by
  have HF := Lib.hid (formatN n w (by omega) ht)
  clear ht
  go_enter Tryd.func31, Tryd.ntmps31
  go_wp2_with fail
  refine HF.out.mono ?_
  rintro e w1 ⟨rfl, hB⟩
  have HB := Lib.hid hB
  clear hB
  go_wp2_with fail
  go_ret
  exact ⟨rfl, HB.out⟩
namespace Wd
/-- strings with blanks between them -/
def joinB (xs : List ByteArray) : ByteArray := ⟨(Lib.join (xs.map (·.data.toList)) [32]).toArray⟩
theorem joinB_2 (a b : ByteArray) : joinB [a, b] = (a ++ ⟨#[32]⟩) ++ b := by
  apply ByteArray.ext
  apply Array.ext'
  simp [joinB, Lib.join_cons, Lib.joinTail]
theorem joinB_3 (a b c : ByteArray) : joinB [a, b, c] = ((a ++ ⟨#[32]⟩) ++ b) ++ (⟨#[32]⟩ ++ c) := by
  apply ByteArray.ext
  apply Array.ext'
  simp [joinB, Lib.join_cons, Lib.joinTail]
theorem joinB_4 (a b c d : ByteArray) : joinB [a, b, c, d] = (((a ++ ⟨#[32]⟩) ++ b) ++ (⟨#[32]⟩ ++ c)) ++ (⟨#[32]⟩ ++ d) := by
  apply ByteArray.ext
  apply Array.ext'
  simp [joinB, Lib.join_cons, Lib.joinTail]
end Wd
theorem join_own {w : World} {B n : Nat} {v : Value} (xs : List ByteArray) (h : w.ownsRow B 9 1 v n (xs.map Value.string)) (hx : 0 < xs.length) (hx2 : xs.length ≤ 10) (hs : (joinB xs).size ≤ 1000000) :
    Calls Tryd.prog 52 #[v, .string ⟨#[32]⟩] w fun e w' => e = .returned (.string (joinB xs)) ∧ Below w.heap.size w w' := by
  have hl := h.1
  rw [List.length_map] at hl
  obtain rfl : n = xs.length := by omega
  rcases h.2 with ⟨_, h0⟩ | ⟨g, cap, cur, rfl, _, hg, hc, _, _, _⟩
  · omega
  · refine Tryd.strings_Join g 0 cap xs ⟨#[32]⟩ w (fun j x hj => ?_) (Array.getElem?_eq_some_iff.1 hg).1 (by omega) hc ?_
    · have hj2 : j < xs.length := (List.getElem?_eq_some_iff.1 hj).1
      have h1 := World.ownsRow.cellAt h j (by omega)
      rw [List.getElem?_map, hj] at h1
      rw [Nat.zero_add]
      exact h1
    · have h2 : (joinB xs).size = (Lib.join (xs.map (·.data.toList)) [32]).length := by simp [joinB, ByteArray.size]
      show (Lib.join (xs.map (·.data.toList)) [32]).length ≤ _
      omega
set_option maxRecDepth 100000 in
set_option maxHeartbeats 51200000 in
theorem implEditText (v : Value) (x : Ed) (w : World) (hf : FewE x) (h : IsEd w v x) (ht : Pow10 w) :
    Calls Tryd.prog 18 #[v] w fun e w' => e = .returned (.string (edA x)) ∧ Below w.heap.size w w' := by
  obtain ⟨i0, hi, hz0, hz1, hz2⟩ := info_parts Tryd.info_str
  obtain ⟨u, rfl, hr⟩ := h
  have HG := Lib.hid (fun W (hb : Below w.heap.size w W) => hr.kept hb)
  obtain ⟨A, c, rfl, _⟩ := hr
  obtain ⟨k, i, j, t, gs, m⟩ := x
  simp only at HG
  have HUP := Lib.hid (fun W (hb : Below w.heap.size w W) => implUnpackWord (.slice A gs.length c) gs W hf.1 (HG.out W hb))
  have HVE := Lib.hid (fun W (hb : Below w.heap.size w W) => implValidEdit (.agg #[.int .i64 k, .int .i64 i, .int .i64 j, .int .i64 t, .slice A gs.length c, .string m]) ⟨k, i, j, t, gs, m⟩ W hf ⟨_, rfl, HG.out W hb⟩)
  have HTB := Lib.hid (fun W (hb : Below w.heap.size w W) => ht.kept hb)
  have hb0 := (Below.refl _ w).alloc (Nat.le_refl _) (.cells #[.int .i64 k, .int .i64 i, .int .i64 j, .int .i64 t, .slice A gs.length c, .string m] 46)
  have hP0 := heap_alloc_new w (.cells #[.int .i64 k, .int .i64 i, .int .i64 j, .int .i64 t, .slice A gs.length c, .string m] 46)
  have hs0 : w.heap.size < (w.alloc (.cells #[.int .i64 k, .int .i64 i, .int .i64 j, .int .i64 t, .slice A gs.length c, .string m] 46)).heap.size := by simp
  have HB0 := Lib.hid hb0
  have HP0 := Lib.hid hP0
  have HS0 := Lib.hid hs0
  clear hb0 hP0 hs0 ht hf
  show Calls Tryd.prog _ #[.agg #[.int .i64 k, .int .i64 i, .int .i64 j, .int .i64 t, .slice A gs.length c, .string m]] _ _
  cases hok : edOk ⟨k, i, j, t, gs, m⟩
  · have HE : Hid (edA ⟨k, i, j, t, gs, m⟩ = ⟨#[]⟩) := Lib.hid (by unfold edA; rw [hok, if_neg (by rintro ⟨h, _⟩; cases h)])
    rw [HE.out]
    rw [hok] at HVE
    clear hok
    generalize strUnpackWord gs = sc at *
    obtain ⟨s1, c1⟩ := sc
    go_enter Tryd.func18, Tryd.ntmps18
    go_wp2_with fail
    refine (HUP.out _ HB0.out).mono ?_
    rintro e w1 ⟨rfl, hB1⟩
    have hP1 := (hB1.block w.heap.size HS0.out).trans HP0.out
    have HB1 := Lib.hid (HB0.out.trans (hB1.mono (Nat.le_of_lt HS0.out)))
    obtain ⟨⟨p0, p1, p2, p3, p4, p5⟩, _⟩ := blk6_cells hP1
    clear hB1
    go_wp2_with fail
    refine (HVE.out _ HB1.out).mono ?_
    rintro e w2 ⟨rfl, hB2⟩
    have HB2 := Lib.hid (HB1.out.trans (hB2.mono HB1.out.size))
    clear hB2
    go_wp2_with fail
    go_ret
    exact ⟨rfl, HB2.out⟩
  · have hO := OkE.of hok
    obtain ⟨T, hT⟩ : ∃ T, T = edA ⟨k, i, j, t, gs, m⟩ := ⟨_, rfl⟩
    rw [← hT]
    have hT2 : T = if wordLen gs ≤ 2000 then edT4 ((edW k ++ ⟨#[32]⟩) ++ decT i.toNat) (hasJ k) (hasK k) (hasP k) (hasM k) (decT j.toNat) (decT t.toNat) (parT gs) m else ⟨#[]⟩ := by
      rw [hT]
      unfold edA
      simp only [hok, true_and]
    rw [hok] at HVE
    obtain ⟨⟨hk1, hk7⟩, ⟨hi0, hi1⟩, ⟨hj0, hj1⟩, ⟨ht0, ht1⟩, hg, hp, hnp, hm4⟩ := hO
    simp only at hk1 hk7 hi0 hi1 hj0 hj1 ht0 ht1 hg hp hnp hm4
    rw [strWord_ok hg] at HUP
    have HPP := Lib.hid (And.intro hp (And.intro hnp (fun h => parT_size hg h)))
    clear hT hok hp hnp hg HG
    by_cases hbig : 2000 < wordLen gs
    · rw [if_pos hbig] at HUP
      rw [if_neg (by omega)] at hT2
      subst hT2
      clear hbig HPP hi0 hi1 hj0 hj1 ht0 ht1 hm4 hk1 hk7
      go_enter Tryd.func18, Tryd.ntmps18
      go_wp2_with fail
      refine (HUP.out _ HB0.out).mono ?_
      rintro e w1 ⟨rfl, hB1⟩
      have hP1 := (hB1.block w.heap.size HS0.out).trans HP0.out
      have HB1 := Lib.hid (HB0.out.trans (hB1.mono (Nat.le_of_lt HS0.out)))
      obtain ⟨⟨p0, p1, p2, p3, p4, p5⟩, _⟩ := blk6_cells hP1
      clear hB1
      go_wp2_with fail
      refine (HVE.out _ HB1.out).mono ?_
      rintro e w2 ⟨rfl, hB2⟩
      have HB2 := Lib.hid (HB1.out.trans (hB2.mono HB1.out.size))
      clear hB2
      go_wp2_with fail
      go_ret
      exact ⟨rfl, HB2.out⟩
    · rw [if_neg hbig] at HUP
      rw [if_pos (by omega)] at hT2
      have hpt : (⟨(partW gs 0 (wordLen gs)).toArray⟩ : ByteArray) = parT gs := rfl
      rw [hpt] at HUP
      have HT := Lib.hid hT2
      have HBG : Hid (wordLen gs ≤ 2000) := Lib.hid (by omega)
      obtain ⟨PT, hPT⟩ : ∃ PT, PT = parT gs := ⟨_, rfl⟩
      rw [← hPT] at HUP HT HPP
      have hk0 : (0 : Int) ≤ k := by omega
      have hk8 : k < 8 := by omega
      have hk : 1 ≤ k ∧ k ≤ 7 := ⟨hk1, hk7⟩
      clear hpt hPT hT2 hbig hk1 hk7
      go_enter Tryd.func18, Tryd.ntmps18
      go_wp2_with fail
      refine (HUP.out _ HB0.out).mono ?_
      rintro e w1 ⟨rfl, hB1⟩
      have HP1 := Lib.hid ((hB1.block w.heap.size HS0.out).trans HP0.out)
      have HB1 := Lib.hid (HB0.out.trans (hB1.mono (Nat.le_of_lt HS0.out)))
      have HS1 : Hid (w.heap.size < w1.heap.size) := Lib.hid (by have := hB1.size; have := HS0.out; omega)
      obtain ⟨⟨p0, p1, p2, p3, p4, p5⟩, _⟩ := blk6_cells HP1.out
      clear hB1
      go_wp2_with fail
      refine (HVE.out _ HB1.out).mono ?_
      rintro e w3 ⟨rfl, hB3⟩
      have HP3 := Lib.hid ((hB3.block w.heap.size HS1.out).trans HP1.out)
      have HB3 := Lib.hid (HB1.out.trans (hB3.mono HB1.out.size))
      have HS3 : Hid (w.heap.size < w3.heap.size) := Lib.hid (by have := hB3.size; have := HS1.out; omega)
      clear hB3 p0 p1 p2 p3 p4 p5 HUP HVE
      obtain ⟨⟨p0, _⟩, _⟩ := blk6_cells HP3.out
      have HK2 := Lib.hid hk
      have HDI := Lib.hid (fun n (h : n ≤ 1000000000000000) W (hb : Below w.heap.size w W) => decimal_any n W h (HTB.out W hb))
      go_upto_region 4 with fail
      go_cut [5] (fun s3 wx => ∃ F, s3 = .pointer (some ⟨F, 0, none⟩) ∧ FmK w w3 F k wx)
      case first =>
        have HFM : Hid (∀ W, Below w3.heap.size w3 W → Calls Tryd.prog 51 #[] W fun e w' => e = .returned (.agg #[.string ⟨#[]⟩, .bool false, .bool false, .bool false, .bool false, .string ⟨#[105, 110, 115, 101, 114, 116]⟩, .bool false, .bool false, .bool true, .bool false, .string ⟨#[100, 101, 108, 101, 116, 101]⟩, .bool true, .bool false, .bool false, .bool false, .string ⟨#[99, 111, 112, 121]⟩, .bool true, .bool true, .bool false, .bool false, .string ⟨#[109, 111, 118, 101]⟩, .bool true, .bool true, .bool false, .bool false, .string ⟨#[116, 117, 114, 110]⟩, .bool true, .bool false, .bool false, .bool false, .string ⟨#[114, 101, 112, 101, 97, 116]⟩, .bool true, .bool true, .bool false, .bool false, .string ⟨#[109, 97, 112]⟩, .bool true, .bool false, .bool false, .bool true]) ∧ Below w3.heap.size w3 w' ∧ ∀ b, b < W.heap.size → w'.heap[b]? = W.heap[b]?) := Lib.hid (fun W hb => by
          refine (editForms_lit W).mono ?_
          rintro e w' ⟨he, h2⟩
          exact ⟨he, hb.trans (h2.mono hb.size), fun b hb => h2.block b hb⟩)
        have HPK := Lib.hid (fun W (hb : Below w3.heap.size w3 W) => (hb.cell (p := ⟨w.heap.size, 0, none⟩) HS3.out).trans p0)
        clear HTB HK2 HP0 HP3 HT HPP HDI hj0 hj1 ht0 ht1 hi0 hi1 hm4
        have HXX : Hid ((∀ W, (Instr.index 100 (.agg #[.string ⟨#[]⟩, .bool false, .bool false, .bool false, .bool false, .string ⟨#[105, 110, 115, 101, 114, 116]⟩, .bool false, .bool false, .bool true, .bool false, .string ⟨#[100, 101, 108, 101, 116, 101]⟩, .bool true, .bool false, .bool false, .bool false, .string ⟨#[99, 111, 112, 121]⟩, .bool true, .bool true, .bool false, .bool false, .string ⟨#[109, 111, 118, 101]⟩, .bool true, .bool true, .bool false, .bool false, .string ⟨#[116, 117, 114, 110]⟩, .bool true, .bool false, .bool false, .bool false, .string ⟨#[114, 101, 112, 101, 97, 116]⟩, .bool true, .bool true, .bool false, .bool false, .string ⟨#[109, 97, 112]⟩, .bool true, .bool false, .bool false, .bool true]) (.int .i64 1)).run Tryd.prog W = .ok (.agg #[.string ⟨#[105, 110, 115, 101, 114, 116]⟩, .bool false, .bool false, .bool true, .bool false]) W) ∧ (∀ W, (Instr.index 100 (.agg #[.string ⟨#[]⟩, .bool false, .bool false, .bool false, .bool false, .string ⟨#[105, 110, 115, 101, 114, 116]⟩, .bool false, .bool false, .bool true, .bool false, .string ⟨#[100, 101, 108, 101, 116, 101]⟩, .bool true, .bool false, .bool false, .bool false, .string ⟨#[99, 111, 112, 121]⟩, .bool true, .bool true, .bool false, .bool false, .string ⟨#[109, 111, 118, 101]⟩, .bool true, .bool true, .bool false, .bool false, .string ⟨#[116, 117, 114, 110]⟩, .bool true, .bool false, .bool false, .bool false, .string ⟨#[114, 101, 112, 101, 97, 116]⟩, .bool true, .bool true, .bool false, .bool false, .string ⟨#[109, 97, 112]⟩, .bool true, .bool false, .bool false, .bool true]) (.int .i64 2)).run Tryd.prog W = .ok (.agg #[.string ⟨#[100, 101, 108, 101, 116, 101]⟩, .bool true, .bool false, .bool false, .bool false]) W) ∧ (∀ W, (Instr.index 100 (.agg #[.string ⟨#[]⟩, .bool false, .bool false, .bool false, .bool false, .string ⟨#[105, 110, 115, 101, 114, 116]⟩, .bool false, .bool false, .bool true, .bool false, .string ⟨#[100, 101, 108, 101, 116, 101]⟩, .bool true, .bool false, .bool false, .bool false, .string ⟨#[99, 111, 112, 121]⟩, .bool true, .bool true, .bool false, .bool false, .string ⟨#[109, 111, 118, 101]⟩, .bool true, .bool true, .bool false, .bool false, .string ⟨#[116, 117, 114, 110]⟩, .bool true, .bool false, .bool false, .bool false, .string ⟨#[114, 101, 112, 101, 97, 116]⟩, .bool true, .bool true, .bool false, .bool false, .string ⟨#[109, 97, 112]⟩, .bool true, .bool false, .bool false, .bool true]) (.int .i64 3)).run Tryd.prog W = .ok (.agg #[.string ⟨#[99, 111, 112, 121]⟩, .bool true, .bool true, .bool false, .bool false]) W) ∧ (∀ W, (Instr.index 100 (.agg #[.string ⟨#[]⟩, .bool false, .bool false, .bool false, .bool false, .string ⟨#[105, 110, 115, 101, 114, 116]⟩, .bool false, .bool false, .bool true, .bool false, .string ⟨#[100, 101, 108, 101, 116, 101]⟩, .bool true, .bool false, .bool false, .bool false, .string ⟨#[99, 111, 112, 121]⟩, .bool true, .bool true, .bool false, .bool false, .string ⟨#[109, 111, 118, 101]⟩, .bool true, .bool true, .bool false, .bool false, .string ⟨#[116, 117, 114, 110]⟩, .bool true, .bool false, .bool false, .bool false, .string ⟨#[114, 101, 112, 101, 97, 116]⟩, .bool true, .bool true, .bool false, .bool false, .string ⟨#[109, 97, 112]⟩, .bool true, .bool false, .bool false, .bool true]) (.int .i64 4)).run Tryd.prog W = .ok (.agg #[.string ⟨#[109, 111, 118, 101]⟩, .bool true, .bool true, .bool false, .bool false]) W) ∧ (∀ W, (Instr.index 100 (.agg #[.string ⟨#[]⟩, .bool false, .bool false, .bool false, .bool false, .string ⟨#[105, 110, 115, 101, 114, 116]⟩, .bool false, .bool false, .bool true, .bool false, .string ⟨#[100, 101, 108, 101, 116, 101]⟩, .bool true, .bool false, .bool false, .bool false, .string ⟨#[99, 111, 112, 121]⟩, .bool true, .bool true, .bool false, .bool false, .string ⟨#[109, 111, 118, 101]⟩, .bool true, .bool true, .bool false, .bool false, .string ⟨#[116, 117, 114, 110]⟩, .bool true, .bool false, .bool false, .bool false, .string ⟨#[114, 101, 112, 101, 97, 116]⟩, .bool true, .bool true, .bool false, .bool false, .string ⟨#[109, 97, 112]⟩, .bool true, .bool false, .bool false, .bool true]) (.int .i64 5)).run Tryd.prog W = .ok (.agg #[.string ⟨#[116, 117, 114, 110]⟩, .bool true, .bool false, .bool false, .bool false]) W) ∧ (∀ W, (Instr.index 100 (.agg #[.string ⟨#[]⟩, .bool false, .bool false, .bool false, .bool false, .string ⟨#[105, 110, 115, 101, 114, 116]⟩, .bool false, .bool false, .bool true, .bool false, .string ⟨#[100, 101, 108, 101, 116, 101]⟩, .bool true, .bool false, .bool false, .bool false, .string ⟨#[99, 111, 112, 121]⟩, .bool true, .bool true, .bool false, .bool false, .string ⟨#[109, 111, 118, 101]⟩, .bool true, .bool true, .bool false, .bool false, .string ⟨#[116, 117, 114, 110]⟩, .bool true, .bool false, .bool false, .bool false, .string ⟨#[114, 101, 112, 101, 97, 116]⟩, .bool true, .bool true, .bool false, .bool false, .string ⟨#[109, 97, 112]⟩, .bool true, .bool false, .bool false, .bool true]) (.int .i64 6)).run Tryd.prog W = .ok (.agg #[.string ⟨#[114, 101, 112, 101, 97, 116]⟩, .bool true, .bool true, .bool false, .bool false]) W) ∧ (∀ W, (Instr.index 100 (.agg #[.string ⟨#[]⟩, .bool false, .bool false, .bool false, .bool false, .string ⟨#[105, 110, 115, 101, 114, 116]⟩, .bool false, .bool false, .bool true, .bool false, .string ⟨#[100, 101, 108, 101, 116, 101]⟩, .bool true, .bool false, .bool false, .bool false, .string ⟨#[99, 111, 112, 121]⟩, .bool true, .bool true, .bool false, .bool false, .string ⟨#[109, 111, 118, 101]⟩, .bool true, .bool true, .bool false, .bool false, .string ⟨#[116, 117, 114, 110]⟩, .bool true, .bool false, .bool false, .bool false, .string ⟨#[114, 101, 112, 101, 97, 116]⟩, .bool true, .bool true, .bool false, .bool false, .string ⟨#[109, 97, 112]⟩, .bool true, .bool false, .bool false, .bool true]) (.int .i64 7)).run Tryd.prog W = .ok (.agg #[.string ⟨#[109, 97, 112]⟩, .bool true, .bool false, .bool false, .bool true]) W)) := Lib.hid ⟨index_form1, index_form2, index_form3, index_form4, index_form5, index_form6, index_form7⟩
        obtain rfl | rfl | rfl | rfl | rfl | rfl | rfl : k = 1 ∨ k = 2 ∨ k = 3 ∨ k = 4 ∨ k = 5 ∨ k = 6 ∨ k = 7 := by omega
        · have hx7 := HXX.out.1
          have HE : Hid (edW 1 = ⟨#[105, 110, 115, 101, 114, 116]⟩ ∧ hasJ 1 = false ∧ hasK 1 = false ∧ hasP 1 = true ∧ hasM 1 = false) := Lib.hid ⟨rfl, rfl, rfl, rfl, rfl⟩
          go_region_held3 (fun w' => w'.cell? ⟨w.heap.size, 0, none⟩ = some (.int .i64 1))
            (first | (with_reducible go_keep) | (with_reducible exact p0) | (with_reducible exact HC7.out) | (with_reducible exact HPK.out _ (HB7.out.alloc HB7.out.size _)) | (with_reducible exact HPK.out _ (((((HB7.out.setCell (Nat.le_refl _) _).setCell (Nat.le_refl _) _).setCell (Nat.le_refl _) _).setCell (Nat.le_refl _) _).setCell (Nat.le_refl _) _)) | go_keep)
            (first
              | (go_at_call 51
                 refine (HFM.out _ ?_).mono ?_
                 (first | (with_reducible exact (Below.refl _ _).alloc (Nat.le_refl _) _) | (with_reducible exact below_drewE ((Below.refl _ _).alloc (Nat.le_refl _) _)) | (with_reducible exact (below_drewE (Below.refl _ _)).alloc (Nat.le_refl _) _))
                 rintro e w7 ⟨rfl, hB7, hK7⟩
                 have HX7 : Hid (w7.heap[w3.heap.size]? = some (.cells #[.string ⟨#[]⟩, .bool false, .bool false, .bool false, .bool false] 99 (0, 0))) := Lib.hid ((hK7 _ (by simp)).trans (heap_alloc_new w3 _))
                 obtain ⟨x0, x1, x2, x3, x4⟩ := blk5_cells HX7.out
                 have e0 := blk5_frozen (o := 0) HX7.out
                 have e1 := blk5_frozen (o := 1) HX7.out
                 have e2 := blk5_frozen (o := 2) HX7.out
                 have e3 := blk5_frozen (o := 3) HX7.out
                 have e4 := blk5_frozen (o := 4) HX7.out
                 have HB7 := Lib.hid hB7
                 have HC7 := Lib.hid (HPK.out w7 hB7)
                 clear hB7 hK7)
              | (go_at_call 51
                 refine (HFM.out _ ?_).mono ?_
                 (first | (with_reducible exact Below.refl _ _) | (with_reducible exact below_drewE (Below.refl _ _)))
                 rintro e w7 ⟨rfl, hB7, hK7⟩
                 have HB7 := Lib.hid hB7
                 have HC7 := Lib.hid (HPK.out w7 hB7)
                 clear hB7 hK7))
          all_goals (go_wp2_with fail; go_meet)
          all_goals first
            | (with_reducible exact ⟨_, rfl, FmK.of (FmSt.two (Nat.le_refl _) HB7.out HX7.out) HE.out.1 HE.out.2.1 HE.out.2.2.1 HE.out.2.2.2.1 HE.out.2.2.2.2⟩)
            | (with_reducible exact ⟨_, rfl, FmK.of (FmSt.one HB7.out) HE.out.1 HE.out.2.1 HE.out.2.2.1 HE.out.2.2.2.1 HE.out.2.2.2.2⟩)
            | (with_reducible exact ⟨_, rfl, FmK.of ((FmSt.two (Nat.le_refl _) HB7.out HX7.out).drewN 1) HE.out.1 HE.out.2.1 HE.out.2.2.1 HE.out.2.2.2.1 HE.out.2.2.2.2⟩)
            | (with_reducible exact ⟨_, rfl, FmK.of ((FmSt.one HB7.out).drewN 1) HE.out.1 HE.out.2.1 HE.out.2.2.1 HE.out.2.2.2.1 HE.out.2.2.2.2⟩)
        · have hx7 := HXX.out.2.1
          have HE : Hid (edW 2 = ⟨#[100, 101, 108, 101, 116, 101]⟩ ∧ hasJ 2 = true ∧ hasK 2 = false ∧ hasP 2 = false ∧ hasM 2 = false) := Lib.hid ⟨rfl, rfl, rfl, rfl, rfl⟩
          go_region_held3 (fun w' => w'.cell? ⟨w.heap.size, 0, none⟩ = some (.int .i64 2))
            (first | (with_reducible go_keep) | (with_reducible exact p0) | (with_reducible exact HC7.out) | (with_reducible exact HPK.out _ (HB7.out.alloc HB7.out.size _)) | (with_reducible exact HPK.out _ (((((HB7.out.setCell (Nat.le_refl _) _).setCell (Nat.le_refl _) _).setCell (Nat.le_refl _) _).setCell (Nat.le_refl _) _).setCell (Nat.le_refl _) _)) | go_keep)
            (first
              | (go_at_call 51
                 refine (HFM.out _ ?_).mono ?_
                 (first | (with_reducible exact (Below.refl _ _).alloc (Nat.le_refl _) _) | (with_reducible exact below_drewE ((Below.refl _ _).alloc (Nat.le_refl _) _)) | (with_reducible exact (below_drewE (Below.refl _ _)).alloc (Nat.le_refl _) _))
                 rintro e w7 ⟨rfl, hB7, hK7⟩
                 have HX7 : Hid (w7.heap[w3.heap.size]? = some (.cells #[.string ⟨#[]⟩, .bool false, .bool false, .bool false, .bool false] 99 (0, 0))) := Lib.hid ((hK7 _ (by simp)).trans (heap_alloc_new w3 _))
                 obtain ⟨x0, x1, x2, x3, x4⟩ := blk5_cells HX7.out
                 have e0 := blk5_frozen (o := 0) HX7.out
                 have e1 := blk5_frozen (o := 1) HX7.out
                 have e2 := blk5_frozen (o := 2) HX7.out
                 have e3 := blk5_frozen (o := 3) HX7.out
                 have e4 := blk5_frozen (o := 4) HX7.out
                 have HB7 := Lib.hid hB7
                 have HC7 := Lib.hid (HPK.out w7 hB7)
                 clear hB7 hK7)
              | (go_at_call 51
                 refine (HFM.out _ ?_).mono ?_
                 (first | (with_reducible exact Below.refl _ _) | (with_reducible exact below_drewE (Below.refl _ _)))
                 rintro e w7 ⟨rfl, hB7, hK7⟩
                 have HB7 := Lib.hid hB7
                 have HC7 := Lib.hid (HPK.out w7 hB7)
                 clear hB7 hK7))
          all_goals (go_wp2_with fail; go_meet)
          all_goals first
            | (with_reducible exact ⟨_, rfl, FmK.of (FmSt.two (Nat.le_refl _) HB7.out HX7.out) HE.out.1 HE.out.2.1 HE.out.2.2.1 HE.out.2.2.2.1 HE.out.2.2.2.2⟩)
            | (with_reducible exact ⟨_, rfl, FmK.of (FmSt.one HB7.out) HE.out.1 HE.out.2.1 HE.out.2.2.1 HE.out.2.2.2.1 HE.out.2.2.2.2⟩)
            | (with_reducible exact ⟨_, rfl, FmK.of ((FmSt.two (Nat.le_refl _) HB7.out HX7.out).drewN 1) HE.out.1 HE.out.2.1 HE.out.2.2.1 HE.out.2.2.2.1 HE.out.2.2.2.2⟩)
            | (with_reducible exact ⟨_, rfl, FmK.of ((FmSt.one HB7.out).drewN 1) HE.out.1 HE.out.2.1 HE.out.2.2.1 HE.out.2.2.2.1 HE.out.2.2.2.2⟩)
        · have hx7 := HXX.out.2.2.1
          have HE : Hid (edW 3 = ⟨#[99, 111, 112, 121]⟩ ∧ hasJ 3 = true ∧ hasK 3 = true ∧ hasP 3 = false ∧ hasM 3 = false) := Lib.hid ⟨rfl, rfl, rfl, rfl, rfl⟩
          go_region_held3 (fun w' => w'.cell? ⟨w.heap.size, 0, none⟩ = some (.int .i64 3))
            (first | (with_reducible go_keep) | (with_reducible exact p0) | (with_reducible exact HC7.out) | (with_reducible exact HPK.out _ (HB7.out.alloc HB7.out.size _)) | (with_reducible exact HPK.out _ (((((HB7.out.setCell (Nat.le_refl _) _).setCell (Nat.le_refl _) _).setCell (Nat.le_refl _) _).setCell (Nat.le_refl _) _).setCell (Nat.le_refl _) _)) | go_keep)
            (first
              | (go_at_call 51
                 refine (HFM.out _ ?_).mono ?_
                 (first | (with_reducible exact (Below.refl _ _).alloc (Nat.le_refl _) _) | (with_reducible exact below_drewE ((Below.refl _ _).alloc (Nat.le_refl _) _)) | (with_reducible exact (below_drewE (Below.refl _ _)).alloc (Nat.le_refl _) _))
                 rintro e w7 ⟨rfl, hB7, hK7⟩
                 have HX7 : Hid (w7.heap[w3.heap.size]? = some (.cells #[.string ⟨#[]⟩, .bool false, .bool false, .bool false, .bool false] 99 (0, 0))) := Lib.hid ((hK7 _ (by simp)).trans (heap_alloc_new w3 _))
                 obtain ⟨x0, x1, x2, x3, x4⟩ := blk5_cells HX7.out
                 have e0 := blk5_frozen (o := 0) HX7.out
                 have e1 := blk5_frozen (o := 1) HX7.out
                 have e2 := blk5_frozen (o := 2) HX7.out
                 have e3 := blk5_frozen (o := 3) HX7.out
                 have e4 := blk5_frozen (o := 4) HX7.out
                 have HB7 := Lib.hid hB7
                 have HC7 := Lib.hid (HPK.out w7 hB7)
                 clear hB7 hK7)
              | (go_at_call 51
                 refine (HFM.out _ ?_).mono ?_
                 (first | (with_reducible exact Below.refl _ _) | (with_reducible exact below_drewE (Below.refl _ _)))
                 rintro e w7 ⟨rfl, hB7, hK7⟩
                 have HB7 := Lib.hid hB7
                 have HC7 := Lib.hid (HPK.out w7 hB7)
                 clear hB7 hK7))
          all_goals (go_wp2_with fail; go_meet)
          all_goals first
            | (with_reducible exact ⟨_, rfl, FmK.of (FmSt.two (Nat.le_refl _) HB7.out HX7.out) HE.out.1 HE.out.2.1 HE.out.2.2.1 HE.out.2.2.2.1 HE.out.2.2.2.2⟩)
            | (with_reducible exact ⟨_, rfl, FmK.of (FmSt.one HB7.out) HE.out.1 HE.out.2.1 HE.out.2.2.1 HE.out.2.2.2.1 HE.out.2.2.2.2⟩)
            | (with_reducible exact ⟨_, rfl, FmK.of ((FmSt.two (Nat.le_refl _) HB7.out HX7.out).drewN 1) HE.out.1 HE.out.2.1 HE.out.2.2.1 HE.out.2.2.2.1 HE.out.2.2.2.2⟩)
            | (with_reducible exact ⟨_, rfl, FmK.of ((FmSt.one HB7.out).drewN 1) HE.out.1 HE.out.2.1 HE.out.2.2.1 HE.out.2.2.2.1 HE.out.2.2.2.2⟩)
        · have hx7 := HXX.out.2.2.2.1
          have HE : Hid (edW 4 = ⟨#[109, 111, 118, 101]⟩ ∧ hasJ 4 = true ∧ hasK 4 = true ∧ hasP 4 = false ∧ hasM 4 = false) := Lib.hid ⟨rfl, rfl, rfl, rfl, rfl⟩
          go_region_held3 (fun w' => w'.cell? ⟨w.heap.size, 0, none⟩ = some (.int .i64 4))
            (first | (with_reducible go_keep) | (with_reducible exact p0) | (with_reducible exact HC7.out) | (with_reducible exact HPK.out _ (HB7.out.alloc HB7.out.size _)) | (with_reducible exact HPK.out _ (((((HB7.out.setCell (Nat.le_refl _) _).setCell (Nat.le_refl _) _).setCell (Nat.le_refl _) _).setCell (Nat.le_refl _) _).setCell (Nat.le_refl _) _)) | go_keep)
            (first
              | (go_at_call 51
                 refine (HFM.out _ ?_).mono ?_
                 (first | (with_reducible exact (Below.refl _ _).alloc (Nat.le_refl _) _) | (with_reducible exact below_drewE ((Below.refl _ _).alloc (Nat.le_refl _) _)) | (with_reducible exact (below_drewE (Below.refl _ _)).alloc (Nat.le_refl _) _))
                 rintro e w7 ⟨rfl, hB7, hK7⟩
                 have HX7 : Hid (w7.heap[w3.heap.size]? = some (.cells #[.string ⟨#[]⟩, .bool false, .bool false, .bool false, .bool false] 99 (0, 0))) := Lib.hid ((hK7 _ (by simp)).trans (heap_alloc_new w3 _))
                 obtain ⟨x0, x1, x2, x3, x4⟩ := blk5_cells HX7.out
                 have e0 := blk5_frozen (o := 0) HX7.out
                 have e1 := blk5_frozen (o := 1) HX7.out
                 have e2 := blk5_frozen (o := 2) HX7.out
                 have e3 := blk5_frozen (o := 3) HX7.out
                 have e4 := blk5_frozen (o := 4) HX7.out
                 have HB7 := Lib.hid hB7
                 have HC7 := Lib.hid (HPK.out w7 hB7)
                 clear hB7 hK7)
              | (go_at_call 51
                 refine (HFM.out _ ?_).mono ?_
                 (first | (with_reducible exact Below.refl _ _) | (with_reducible exact below_drewE (Below.refl _ _)))
                 rintro e w7 ⟨rfl, hB7, hK7⟩
                 have HB7 := Lib.hid hB7
                 have HC7 := Lib.hid (HPK.out w7 hB7)
                 clear hB7 hK7))
          all_goals (go_wp2_with fail; go_meet)
          all_goals first
            | (with_reducible exact ⟨_, rfl, FmK.of (FmSt.two (Nat.le_refl _) HB7.out HX7.out) HE.out.1 HE.out.2.1 HE.out.2.2.1 HE.out.2.2.2.1 HE.out.2.2.2.2⟩)
            | (with_reducible exact ⟨_, rfl, FmK.of (FmSt.one HB7.out) HE.out.1 HE.out.2.1 HE.out.2.2.1 HE.out.2.2.2.1 HE.out.2.2.2.2⟩)
            | (with_reducible exact ⟨_, rfl, FmK.of ((FmSt.two (Nat.le_refl _) HB7.out HX7.out).drewN 1) HE.out.1 HE.out.2.1 HE.out.2.2.1 HE.out.2.2.2.1 HE.out.2.2.2.2⟩)
            | (with_reducible exact ⟨_, rfl, FmK.of ((FmSt.one HB7.out).drewN 1) HE.out.1 HE.out.2.1 HE.out.2.2.1 HE.out.2.2.2.1 HE.out.2.2.2.2⟩)
        · have hx7 := HXX.out.2.2.2.2.1
          have HE : Hid (edW 5 = ⟨#[116, 117, 114, 110]⟩ ∧ hasJ 5 = true ∧ hasK 5 = false ∧ hasP 5 = false ∧ hasM 5 = false) := Lib.hid ⟨rfl, rfl, rfl, rfl, rfl⟩
          go_region_held3 (fun w' => w'.cell? ⟨w.heap.size, 0, none⟩ = some (.int .i64 5))
            (first | (with_reducible go_keep) | (with_reducible exact p0) | (with_reducible exact HC7.out) | (with_reducible exact HPK.out _ (HB7.out.alloc HB7.out.size _)) | (with_reducible exact HPK.out _ (((((HB7.out.setCell (Nat.le_refl _) _).setCell (Nat.le_refl _) _).setCell (Nat.le_refl _) _).setCell (Nat.le_refl _) _).setCell (Nat.le_refl _) _)) | go_keep)
            (first
              | (go_at_call 51
                 refine (HFM.out _ ?_).mono ?_
                 (first | (with_reducible exact (Below.refl _ _).alloc (Nat.le_refl _) _) | (with_reducible exact below_drewE ((Below.refl _ _).alloc (Nat.le_refl _) _)) | (with_reducible exact (below_drewE (Below.refl _ _)).alloc (Nat.le_refl _) _))
                 rintro e w7 ⟨rfl, hB7, hK7⟩
                 have HX7 : Hid (w7.heap[w3.heap.size]? = some (.cells #[.string ⟨#[]⟩, .bool false, .bool false, .bool false, .bool false] 99 (0, 0))) := Lib.hid ((hK7 _ (by simp)).trans (heap_alloc_new w3 _))
                 obtain ⟨x0, x1, x2, x3, x4⟩ := blk5_cells HX7.out
                 have e0 := blk5_frozen (o := 0) HX7.out
                 have e1 := blk5_frozen (o := 1) HX7.out
                 have e2 := blk5_frozen (o := 2) HX7.out
                 have e3 := blk5_frozen (o := 3) HX7.out
                 have e4 := blk5_frozen (o := 4) HX7.out
                 have HB7 := Lib.hid hB7
                 have HC7 := Lib.hid (HPK.out w7 hB7)
                 clear hB7 hK7)
              | (go_at_call 51
                 refine (HFM.out _ ?_).mono ?_
                 (first | (with_reducible exact Below.refl _ _) | (with_reducible exact below_drewE (Below.refl _ _)))
                 rintro e w7 ⟨rfl, hB7, hK7⟩
                 have HB7 := Lib.hid hB7
                 have HC7 := Lib.hid (HPK.out w7 hB7)
                 clear hB7 hK7))
          all_goals (go_wp2_with fail; go_meet)
          all_goals first
            | (with_reducible exact ⟨_, rfl, FmK.of (FmSt.two (Nat.le_refl _) HB7.out HX7.out) HE.out.1 HE.out.2.1 HE.out.2.2.1 HE.out.2.2.2.1 HE.out.2.2.2.2⟩)
            | (with_reducible exact ⟨_, rfl, FmK.of (FmSt.one HB7.out) HE.out.1 HE.out.2.1 HE.out.2.2.1 HE.out.2.2.2.1 HE.out.2.2.2.2⟩)
            | (with_reducible exact ⟨_, rfl, FmK.of ((FmSt.two (Nat.le_refl _) HB7.out HX7.out).drewN 1) HE.out.1 HE.out.2.1 HE.out.2.2.1 HE.out.2.2.2.1 HE.out.2.2.2.2⟩)
            | (with_reducible exact ⟨_, rfl, FmK.of ((FmSt.one HB7.out).drewN 1) HE.out.1 HE.out.2.1 HE.out.2.2.1 HE.out.2.2.2.1 HE.out.2.2.2.2⟩)
        · have hx7 := HXX.out.2.2.2.2.2.1
          have HE : Hid (edW 6 = ⟨#[114, 101, 112, 101, 97, 116]⟩ ∧ hasJ 6 = true ∧ hasK 6 = true ∧ hasP 6 = false ∧ hasM 6 = false) := Lib.hid ⟨rfl, rfl, rfl, rfl, rfl⟩
          go_region_held3 (fun w' => w'.cell? ⟨w.heap.size, 0, none⟩ = some (.int .i64 6))
            (first | (with_reducible go_keep) | (with_reducible exact p0) | (with_reducible exact HC7.out) | (with_reducible exact HPK.out _ (HB7.out.alloc HB7.out.size _)) | (with_reducible exact HPK.out _ (((((HB7.out.setCell (Nat.le_refl _) _).setCell (Nat.le_refl _) _).setCell (Nat.le_refl _) _).setCell (Nat.le_refl _) _).setCell (Nat.le_refl _) _)) | go_keep)
            (first
              | (go_at_call 51
                 refine (HFM.out _ ?_).mono ?_
                 (first | (with_reducible exact (Below.refl _ _).alloc (Nat.le_refl _) _) | (with_reducible exact below_drewE ((Below.refl _ _).alloc (Nat.le_refl _) _)) | (with_reducible exact (below_drewE (Below.refl _ _)).alloc (Nat.le_refl _) _))
                 rintro e w7 ⟨rfl, hB7, hK7⟩
                 have HX7 : Hid (w7.heap[w3.heap.size]? = some (.cells #[.string ⟨#[]⟩, .bool false, .bool false, .bool false, .bool false] 99 (0, 0))) := Lib.hid ((hK7 _ (by simp)).trans (heap_alloc_new w3 _))
                 obtain ⟨x0, x1, x2, x3, x4⟩ := blk5_cells HX7.out
                 have e0 := blk5_frozen (o := 0) HX7.out
                 have e1 := blk5_frozen (o := 1) HX7.out
                 have e2 := blk5_frozen (o := 2) HX7.out
                 have e3 := blk5_frozen (o := 3) HX7.out
                 have e4 := blk5_frozen (o := 4) HX7.out
                 have HB7 := Lib.hid hB7
                 have HC7 := Lib.hid (HPK.out w7 hB7)
                 clear hB7 hK7)
              | (go_at_call 51
                 refine (HFM.out _ ?_).mono ?_
                 (first | (with_reducible exact Below.refl _ _) | (with_reducible exact below_drewE (Below.refl _ _)))
                 rintro e w7 ⟨rfl, hB7, hK7⟩
                 have HB7 := Lib.hid hB7
                 have HC7 := Lib.hid (HPK.out w7 hB7)
                 clear hB7 hK7))
          all_goals (go_wp2_with fail; go_meet)
          all_goals first
            | (with_reducible exact ⟨_, rfl, FmK.of (FmSt.two (Nat.le_refl _) HB7.out HX7.out) HE.out.1 HE.out.2.1 HE.out.2.2.1 HE.out.2.2.2.1 HE.out.2.2.2.2⟩)
            | (with_reducible exact ⟨_, rfl, FmK.of (FmSt.one HB7.out) HE.out.1 HE.out.2.1 HE.out.2.2.1 HE.out.2.2.2.1 HE.out.2.2.2.2⟩)
            | (with_reducible exact ⟨_, rfl, FmK.of ((FmSt.two (Nat.le_refl _) HB7.out HX7.out).drewN 1) HE.out.1 HE.out.2.1 HE.out.2.2.1 HE.out.2.2.2.1 HE.out.2.2.2.2⟩)
            | (with_reducible exact ⟨_, rfl, FmK.of ((FmSt.one HB7.out).drewN 1) HE.out.1 HE.out.2.1 HE.out.2.2.1 HE.out.2.2.2.1 HE.out.2.2.2.2⟩)
        · have hx7 := HXX.out.2.2.2.2.2.2
          have HE : Hid (edW 7 = ⟨#[109, 97, 112]⟩ ∧ hasJ 7 = true ∧ hasK 7 = false ∧ hasP 7 = false ∧ hasM 7 = true) := Lib.hid ⟨rfl, rfl, rfl, rfl, rfl⟩
          go_region_held3 (fun w' => w'.cell? ⟨w.heap.size, 0, none⟩ = some (.int .i64 7))
            (first | (with_reducible go_keep) | (with_reducible exact p0) | (with_reducible exact HC7.out) | (with_reducible exact HPK.out _ (HB7.out.alloc HB7.out.size _)) | (with_reducible exact HPK.out _ (((((HB7.out.setCell (Nat.le_refl _) _).setCell (Nat.le_refl _) _).setCell (Nat.le_refl _) _).setCell (Nat.le_refl _) _).setCell (Nat.le_refl _) _)) | go_keep)
            (first
              | (go_at_call 51
                 refine (HFM.out _ ?_).mono ?_
                 (first | (with_reducible exact (Below.refl _ _).alloc (Nat.le_refl _) _) | (with_reducible exact below_drewE ((Below.refl _ _).alloc (Nat.le_refl _) _)) | (with_reducible exact (below_drewE (Below.refl _ _)).alloc (Nat.le_refl _) _))
                 rintro e w7 ⟨rfl, hB7, hK7⟩
                 have HX7 : Hid (w7.heap[w3.heap.size]? = some (.cells #[.string ⟨#[]⟩, .bool false, .bool false, .bool false, .bool false] 99 (0, 0))) := Lib.hid ((hK7 _ (by simp)).trans (heap_alloc_new w3 _))
                 obtain ⟨x0, x1, x2, x3, x4⟩ := blk5_cells HX7.out
                 have e0 := blk5_frozen (o := 0) HX7.out
                 have e1 := blk5_frozen (o := 1) HX7.out
                 have e2 := blk5_frozen (o := 2) HX7.out
                 have e3 := blk5_frozen (o := 3) HX7.out
                 have e4 := blk5_frozen (o := 4) HX7.out
                 have HB7 := Lib.hid hB7
                 have HC7 := Lib.hid (HPK.out w7 hB7)
                 clear hB7 hK7)
              | (go_at_call 51
                 refine (HFM.out _ ?_).mono ?_
                 (first | (with_reducible exact Below.refl _ _) | (with_reducible exact below_drewE (Below.refl _ _)))
                 rintro e w7 ⟨rfl, hB7, hK7⟩
                 have HB7 := Lib.hid hB7
                 have HC7 := Lib.hid (HPK.out w7 hB7)
                 clear hB7 hK7))
          all_goals (go_wp2_with fail; go_meet)
          all_goals first
            | (with_reducible exact ⟨_, rfl, FmK.of (FmSt.two (Nat.le_refl _) HB7.out HX7.out) HE.out.1 HE.out.2.1 HE.out.2.2.1 HE.out.2.2.2.1 HE.out.2.2.2.2⟩)
            | (with_reducible exact ⟨_, rfl, FmK.of (FmSt.one HB7.out) HE.out.1 HE.out.2.1 HE.out.2.2.1 HE.out.2.2.2.1 HE.out.2.2.2.2⟩)
            | (with_reducible exact ⟨_, rfl, FmK.of ((FmSt.two (Nat.le_refl _) HB7.out HX7.out).drewN 1) HE.out.1 HE.out.2.1 HE.out.2.2.1 HE.out.2.2.2.1 HE.out.2.2.2.2⟩)
            | (with_reducible exact ⟨_, rfl, FmK.of ((FmSt.one HB7.out).drewN 1) HE.out.1 HE.out.2.1 HE.out.2.2.1 HE.out.2.2.2.1 HE.out.2.2.2.2⟩)
      case rest =>
        obtain ⟨F, rfl, hst⟩ := hcut
        unfold FmK at hst
        obtain ⟨hF, hF2, hB⟩ := hst
        obtain ⟨wd, rfl⟩ : ∃ wd : World, wd = wc := ⟨_, rfl⟩
        have hP4 := (hB.block w.heap.size HS3.out).trans HP3.out
        have HBD := Lib.hid (HB3.out.trans (hB.mono (Nat.le_of_lt HS3.out)))
        have HSZ : Hid (w.heap.size < wd.heap.size ∧ F < wd.heap.size) := Lib.hid ⟨Nat.lt_of_lt_of_le HS3.out hB.size, by
          rcases Nat.lt_or_ge F wd.heap.size with h | h
          · exact h
          · rw [Array.getElem?_eq_none h] at hF; cases hF⟩
        obtain ⟨ii, rfl⟩ : ∃ n : Nat, i = n := ⟨i.toNat, by omega⟩
        obtain ⟨jj, rfl⟩ : ∃ n : Nat, j = n := ⟨j.toNat, by omega⟩
        obtain ⟨tt, rfl⟩ : ∃ n : Nat, t = n := ⟨t.toNat, by omega⟩
        simp only [Int.toNat_natCast] at HT
        have HPC := Lib.hid (fun W (hb : Below wd.heap.size wd W) => And.intro (blk6_cells ((hb.block w.heap.size HSZ.out.1).trans hP4)).1 (blk5_cells ((hb.block F HSZ.out.2).trans hF)))
        have HD2 := Lib.hid (fun n (h : n ≤ 1000000000000000) W (hb : Below wd.heap.size wd W) => HDI.out n h W (HBD.out.trans (hb.mono HBD.out.size)))
        have HN : Hid (ii ≤ 1000000000000000 ∧ jj ≤ 1000000000000000 ∧ tt ≤ 1000000000000000) := Lib.hid (by omega)
        have sI := decT_size (n := ii) (by omega)
        have sJ := decT_size (n := jj) (by omega)
        have sK := decT_size (n := tt) (by omega)
        have sW := edW_size k
        have HKC : Hid ((((hasJ k = false ∧ hasK k = false) ∧ hasP k = true) ∧ hasM k = false) ∨ (((hasJ k = true ∧ hasK k = false) ∧ hasP k = false) ∧ hasM k = false) ∨ (((hasJ k = true ∧ hasK k = true) ∧ hasP k = false) ∧ hasM k = false) ∨ (((hasJ k = true ∧ hasK k = false) ∧ hasP k = false) ∧ hasM k = true)) := Lib.hid (by
          have := HK2.out
          obtain rfl | rfl | rfl | rfl | rfl | rfl | rfl : k = 1 ∨ k = 2 ∨ k = 3 ∨ k = 4 ∨ k = 5 ∨ k = 6 ∨ k = 7 := by omega
          all_goals decide)
        obtain ⟨⟨q0, q1, q2, q3, q4, q5⟩, f0, f1, f2, f3, f4⟩ := HPC.out wd (Below.refl _ _)
        clear hF hF2 hB hP4 p0 HB0 HP0 HS0 HP1 HB1 HS1 HP3 HB3 HS3 HTB HDI hk hk0 hk8 HK2 hi0 hi1 hj0 hj1 ht0 ht1
        generalize edW k = W0 at *
        generalize hasJ k = b1 at *
        generalize hasK k = b2 at *
        generalize hasP k = b3 at *
        generalize hasM k = b4 at *
        go_upto_region 5 with fail
        go_cut [6] (fun s6 wx => wx.ownsRow wd.heap.size 9 1 s6 2 [.string W0, .string (decT ii)] ∧ Below wd.heap.size wd wx)
        case first =>
          have HC := Lib.hid (And.intro f0 q1)
          have HB := Lib.hid (Below.refl wd.heap.size wd)
          have HK3 := Lib.hid (fun W (hb : Below wd.heap.size wd W) => And.intro (HPC.out W hb).2.1 (HPC.out W hb).1.2.1)
          clear HT HPP HKC hm4 sJ sK
          go_region_held3 (fun w' => w'.cell? ⟨F, 0, none⟩ = some (.string W0) ∧ w'.cell? ⟨w.heap.size, 1, none⟩ = some (.int .i64 (ii : Int)))
            (first | (with_reducible exact HC.out) | (with_reducible exact HK3.out _ (HB.out.alloc HB.out.size _)) | (with_reducible go_keep) | go_keep)
            (first
              | (go_at_call 31
                 refine (HD2.out _ HN.out.1 _ ?_).mono ?_
                 (first | (with_reducible exact HB.out) | (with_reducible exact below_drewN HB.out 1) | exact below_drewN HB.out _)
                 rintro e w5 ⟨rfl, hB5⟩
                 have HB := Lib.hid (show Below wd.heap.size wd w5 from by first | (with_reducible exact HB.out.trans (hB5.mono HB.out.size)) | (with_reducible exact HB.out.trans ((undrewE hB5).mono HB.out.size)) | exact HB.out.trans ((below_undrew hB5).mono HB.out.size))
                 have HC := Lib.hid (HK3.out w5 HB.out)
                 clear hB5))
          all_goals (go_wp2_with fail; go_meet)
          all_goals exact ⟨World.ownsRow_lit _ #[.string W0, .string (decT ii)] 2 HB.out.size (by decide) rfl, HB.out.alloc HB.out.size _⟩
        case rest =>
          obtain ⟨ho, hBc⟩ := hcut
          have HO := Lib.hid ho
          have HB := Lib.hid hBc
          obtain ⟨⟨q0, q1, q2, q3, q4, q5⟩, f0, f1, f2, f3, f4⟩ := HPC.out wc hBc
          obtain ⟨Ay, cy, rfl⟩ := own_slice ho
          have HBE := Lib.hid (fun W (hb : Below wd.heap.size wd W) => HBD.out.trans (hb.mono HBD.out.size))
          generalize decT ii = I at *
          generalize hJJ : decT jj = J at *
          generalize hKK : decT tt = K at *
          have HDJ : Hid (∀ W, Below wd.heap.size wd W → Calls Tryd.prog 31 #[.int .i64 (jj : Int)] W fun e w' => e = .returned (.string J) ∧ Below W.heap.size W w') := Lib.hid (fun W hb => by rw [← hJJ]; exact HD2.out jj HN.out.2.1 W hb)
          have HDT : Hid (∀ W, Below wd.heap.size wd W → Calls Tryd.prog 31 #[.int .i64 (tt : Int)] W fun e w' => e = .returned (.string K) ∧ Below W.heap.size W w') := Lib.hid (fun W hb => by rw [← hKK]; exact HD2.out tt HN.out.2.2 W hb)
          clear ho hBc hJJ hKK HD2 HN
          rcases HKC.out with ⟨⟨⟨rfl, rfl⟩, rfl⟩, rfl⟩ | ⟨⟨⟨rfl, rfl⟩, rfl⟩, rfl⟩ | ⟨⟨⟨rfl, rfl⟩, rfl⟩, rfl⟩ | ⟨⟨⟨rfl, rfl⟩, rfl⟩, rfl⟩
          · have hpp := HPP.out
            have hps : PT.size ≤ 2000 := by have := hpp.2.2 (hpp.1 rfl); have := HBG.out; omega
            have HTT : Hid (joinB [W0, I, PT] = T) := Lib.hid (by rw [HT.out, joinB_3]; rfl)
            have hjs : (joinB [W0, I, PT]).size ≤ 1000000 := by rw [joinB_3]; simp only [et_sz]; have e1 : (⟨#[32]⟩ : ByteArray).size = 1 := rfl; omega
            have HJS := Lib.hid hjs
            clear HT HPP hpp hjs sI sJ sK sW hm4 hps
            go_wp2_with (first | (at_builtin; refine wpList_append_own _ rfl _ _ 61 rfl wd.heap.size 9 i0 (.string ⟨#[]⟩) 1 16 Tryd.underlying61 hi hz0 hz1 hz2 rfl (by decide) _ _ _ rfl (World.ownsRow.alloc HO.out _) ⟨wc.heap.size, 0, none⟩ 1 1 [.string PT] rfl rfl (one_new _ _ _) (one_str _) (by unfold maxLen; omega) (by omega) (base_alloc HB.out.size _) ?_))
            intro v' x1 hown' hgr _
            have HB := Lib.hid ((HB.out.alloc HB.out.size (.cells #[.string PT] 9)).grown hgr (Nat.le_trans HB.out.size (by simp)) (fun q hq => (HO.out.lt q hq).1))
            have HO := Lib.hid hown'
            obtain ⟨Ay, cy, rfl⟩ := own_slice hown'
            obtain ⟨⟨q0, q1, q2, q3, q4, q5⟩, f0, f1, f2, f3, f4⟩ := HPC.out x1 HB.out
            clear hown' hgr
            have HJN := Lib.hid (join_own (w := x1) (B := wd.heap.size) (v := .slice Ay (2 + 1) cy) [W0, I, PT] HO.out (by simp) (by simp) HJS.out)
            go_wp2_with fail
            refine HJN.out.mono ?_
            rintro e z ⟨rfl, hBz⟩
            have HBZ := Lib.hid (HBE.out _ (HB.out.trans (hBz.mono HB.out.size)))
            clear hBz
            go_wp2_with fail
            go_ret
            exact ⟨by rw [← HTT.out]; rfl, HBZ.out⟩
          · have hpp := HPP.out
            have HTT : Hid (joinB [W0, I, J] = T) := Lib.hid (by rw [HT.out, joinB_3]; rfl)
            have hjs : (joinB [W0, I, J]).size ≤ 1000000 := by rw [joinB_3]; simp only [et_sz]; have e1 : (⟨#[32]⟩ : ByteArray).size = 1 := rfl; omega
            have HJS := Lib.hid hjs
            clear HT HPP hpp hjs sI sJ sK sW hm4
            go_wp2_with fail
            refine (HDJ.out _ HB.out).mono ?_
            rintro e x1 ⟨rfl, hBx1⟩
            have HO := Lib.hid (own_below HO.out hBx1 (Nat.le_refl _))
            have HB := Lib.hid (HB.out.trans (hBx1.mono HB.out.size))
            obtain ⟨⟨q0, q1, q2, q3, q4, q5⟩, f0, f1, f2, f3, f4⟩ := HPC.out x1 HB.out
            clear hBx1
            go_wp2_with (first | (at_builtin; refine wpList_append_own _ rfl _ _ 61 rfl wd.heap.size 9 i0 (.string ⟨#[]⟩) 1 16 Tryd.underlying61 hi hz0 hz1 hz2 rfl (by decide) _ _ _ rfl (World.ownsRow.alloc HO.out _) ⟨x1.heap.size, 0, none⟩ 1 1 [.string J] rfl rfl (one_new _ _ _) (one_str _) (by unfold maxLen; omega) (by omega) (base_alloc HB.out.size _) ?_))
            intro v' x2 hown' hgr _
            have HB := Lib.hid ((HB.out.alloc HB.out.size (.cells #[.string J] 9)).grown hgr (Nat.le_trans HB.out.size (by simp)) (fun q hq => (HO.out.lt q hq).1))
            have HO := Lib.hid hown'
            obtain ⟨Ay, cy, rfl⟩ := own_slice hown'
            obtain ⟨⟨q0, q1, q2, q3, q4, q5⟩, f0, f1, f2, f3, f4⟩ := HPC.out x2 HB.out
            clear hown' hgr
            have HJN := Lib.hid (join_own (w := x2) (B := wd.heap.size) (v := .slice Ay (2 + 1) cy) [W0, I, J] HO.out (by simp) (by simp) HJS.out)
            go_wp2_with fail
            refine HJN.out.mono ?_
            rintro e z ⟨rfl, hBz⟩
            have HBZ := Lib.hid (HBE.out _ (HB.out.trans (hBz.mono HB.out.size)))
            clear hBz
            go_wp2_with fail
            go_ret
            exact ⟨by rw [← HTT.out]; rfl, HBZ.out⟩
          · have hpp := HPP.out
            have HTT : Hid (joinB [W0, I, J, K] = T) := Lib.hid (by rw [HT.out, joinB_4]; rfl)
            have hjs : (joinB [W0, I, J, K]).size ≤ 1000000 := by rw [joinB_4]; simp only [et_sz]; have e1 : (⟨#[32]⟩ : ByteArray).size = 1 := rfl; omega
            have HJS := Lib.hid hjs
            clear HT HPP hpp hjs sI sJ sK sW hm4
            go_wp2_with fail
            refine (HDJ.out _ HB.out).mono ?_
            rintro e x1 ⟨rfl, hBx1⟩
            have HO := Lib.hid (own_below HO.out hBx1 (Nat.le_refl _))
            have HB := Lib.hid (HB.out.trans (hBx1.mono HB.out.size))
            obtain ⟨⟨q0, q1, q2, q3, q4, q5⟩, f0, f1, f2, f3, f4⟩ := HPC.out x1 HB.out
            clear hBx1
            go_wp2_with (first | (at_builtin; refine wpList_append_own _ rfl _ _ 61 rfl wd.heap.size 9 i0 (.string ⟨#[]⟩) 1 16 Tryd.underlying61 hi hz0 hz1 hz2 rfl (by decide) _ _ _ rfl (World.ownsRow.alloc HO.out _) ⟨x1.heap.size, 0, none⟩ 1 1 [.string J] rfl rfl (one_new _ _ _) (one_str _) (by unfold maxLen; omega) (by omega) (base_alloc HB.out.size _) ?_))
            intro v' x2 hown' hgr _
            have HB := Lib.hid ((HB.out.alloc HB.out.size (.cells #[.string J] 9)).grown hgr (Nat.le_trans HB.out.size (by simp)) (fun q hq => (HO.out.lt q hq).1))
            have HO := Lib.hid hown'
            obtain ⟨Ay, cy, rfl⟩ := own_slice hown'
            obtain ⟨⟨q0, q1, q2, q3, q4, q5⟩, f0, f1, f2, f3, f4⟩ := HPC.out x2 HB.out
            clear hown' hgr
            go_wp2_with fail
            refine (HDT.out _ HB.out).mono ?_
            rintro e x3 ⟨rfl, hBx3⟩
            have HO := Lib.hid (own_below HO.out hBx3 (Nat.le_refl _))
            have HB := Lib.hid (HB.out.trans (hBx3.mono HB.out.size))
            obtain ⟨⟨q0, q1, q2, q3, q4, q5⟩, f0, f1, f2, f3, f4⟩ := HPC.out x3 HB.out
            clear hBx3
            go_wp2_with (first | (at_builtin; refine wpList_append_own _ rfl _ _ 61 rfl wd.heap.size 9 i0 (.string ⟨#[]⟩) 1 16 Tryd.underlying61 hi hz0 hz1 hz2 rfl (by decide) _ _ _ rfl (World.ownsRow.alloc HO.out _) ⟨x3.heap.size, 0, none⟩ 1 1 [.string K] rfl rfl (one_new _ _ _) (one_str _) (by unfold maxLen; omega) (by omega) (base_alloc HB.out.size _) ?_))
            intro v' x4 hown' hgr _
            have HB := Lib.hid ((HB.out.alloc HB.out.size (.cells #[.string K] 9)).grown hgr (Nat.le_trans HB.out.size (by simp)) (fun q hq => (HO.out.lt q hq).1))
            have HO := Lib.hid hown'
            obtain ⟨Ay, cy, rfl⟩ := own_slice hown'
            obtain ⟨⟨q0, q1, q2, q3, q4, q5⟩, f0, f1, f2, f3, f4⟩ := HPC.out x4 HB.out
            clear hown' hgr
            have HJN := Lib.hid (join_own (w := x4) (B := wd.heap.size) (v := .slice Ay (2 + 1 + 1) cy) [W0, I, J, K] HO.out (by simp) (by simp) HJS.out)
            go_wp2_with fail
            refine HJN.out.mono ?_
            rintro e z ⟨rfl, hBz⟩
            have HBZ := Lib.hid (HBE.out _ (HB.out.trans (hBz.mono HB.out.size)))
            clear hBz
            go_wp2_with fail
            go_ret
            exact ⟨by rw [← HTT.out]; rfl, HBZ.out⟩
          · have hpp := HPP.out
            have HTT : Hid (joinB [W0, I, J, m] = T) := Lib.hid (by rw [HT.out, joinB_4]; rfl)
            have hjs : (joinB [W0, I, J, m]).size ≤ 1000000 := by rw [joinB_4]; simp only [et_sz]; have e1 : (⟨#[32]⟩ : ByteArray).size = 1 := rfl; omega
            have HJS := Lib.hid hjs
            clear HT HPP hpp hjs sI sJ sK sW hm4
            go_wp2_with fail
            refine (HDJ.out _ HB.out).mono ?_
            rintro e x1 ⟨rfl, hBx1⟩
            have HO := Lib.hid (own_below HO.out hBx1 (Nat.le_refl _))
            have HB := Lib.hid (HB.out.trans (hBx1.mono HB.out.size))
            obtain ⟨⟨q0, q1, q2, q3, q4, q5⟩, f0, f1, f2, f3, f4⟩ := HPC.out x1 HB.out
            clear hBx1
            go_wp2_with (first | (at_builtin; refine wpList_append_own _ rfl _ _ 61 rfl wd.heap.size 9 i0 (.string ⟨#[]⟩) 1 16 Tryd.underlying61 hi hz0 hz1 hz2 rfl (by decide) _ _ _ rfl (World.ownsRow.alloc HO.out _) ⟨x1.heap.size, 0, none⟩ 1 1 [.string J] rfl rfl (one_new _ _ _) (one_str _) (by unfold maxLen; omega) (by omega) (base_alloc HB.out.size _) ?_))
            intro v' x2 hown' hgr _
            have HB := Lib.hid ((HB.out.alloc HB.out.size (.cells #[.string J] 9)).grown hgr (Nat.le_trans HB.out.size (by simp)) (fun q hq => (HO.out.lt q hq).1))
            have HO := Lib.hid hown'
            obtain ⟨Ay, cy, rfl⟩ := own_slice hown'
            obtain ⟨⟨q0, q1, q2, q3, q4, q5⟩, f0, f1, f2, f3, f4⟩ := HPC.out x2 HB.out
            clear hown' hgr
            go_wp2_with (first | (at_builtin; refine wpList_append_own _ rfl _ _ 61 rfl wd.heap.size 9 i0 (.string ⟨#[]⟩) 1 16 Tryd.underlying61 hi hz0 hz1 hz2 rfl (by decide) _ _ _ rfl (World.ownsRow.alloc HO.out _) ⟨x2.heap.size, 0, none⟩ 1 1 [.string m] rfl rfl (one_new _ _ _) (one_str _) (by unfold maxLen; omega) (by omega) (base_alloc HB.out.size _) ?_))
            intro v' x3 hown' hgr _
            have HB := Lib.hid ((HB.out.alloc HB.out.size (.cells #[.string m] 9)).grown hgr (Nat.le_trans HB.out.size (by simp)) (fun q hq => (HO.out.lt q hq).1))
            have HO := Lib.hid hown'
            obtain ⟨Ay, cy, rfl⟩ := own_slice hown'
            obtain ⟨⟨q0, q1, q2, q3, q4, q5⟩, f0, f1, f2, f3, f4⟩ := HPC.out x3 HB.out
            clear hown' hgr
            have HJN := Lib.hid (join_own (w := x3) (B := wd.heap.size) (v := .slice Ay (2 + 1 + 1) cy) [W0, I, J, m] HO.out (by simp) (by simp) HJS.out)
            go_wp2_with fail
            refine HJN.out.mono ?_
            rintro e z ⟨rfl, hBz⟩
            have HBZ := Lib.hid (HBE.out _ (HB.out.trans (hBz.mono HB.out.size)))
            clear hBz
            go_wp2_with fail
            go_ret
            exact ⟨by rw [← HTT.out]; rfl, HBZ.out⟩
end Go.Proofs.YtcaeihdfljljbaaDoor
