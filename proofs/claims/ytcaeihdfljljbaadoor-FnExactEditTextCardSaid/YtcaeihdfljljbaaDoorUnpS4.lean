/-
  (Turned from GramLen, GLetS, UnpS: the grammar lies at offset 4.) Walks: spec.l02Length, spec.l02Letter, spec.l02Unpack.
-/
import Derived.Test.YtcaeihdfljljbaaDoorGramOk
import Derived.Test.YtcaeihdfljljbaaDoorEdG
import Derived.Test.YtcaeihdfljljbaaDoorGLetM
import Derived.Test.YtcaeihdfljljbaaDoorGWLen
import Derived.Test.YtcaeihdfljljbaaDoorWordM
import Derived.Test.YtcaeihdfljljbaaDoorVar
import Derived.Test.YtcaeihdfljljbaaDoorOwnK
namespace Go.Proofs.YtcaeihdfljljbaaDoor
open Go.RowKit
open Wd
set_option linter.unusedVariables false


set_option maxHeartbeats 800000 in
/-- spec.l02Length of a grammar whose rules are right -/
theorem l02Length4_any (p : Nat) (gs : List Rl) (w : World) (hf : FewR gs) (h : GP4 w p gs) (hok : (fits gs && small gs) = true) :
    Calls Tryd.prog 46 #[.pointer (some ⟨p, 4, none⟩)] w fun e w' => e = .returned (.int .i64 (wordLen gs)) ∧ Below w.heap.size w w' := by
  have HC := Lib.hid (sizes4_any p gs w hf h)
  have hn := hf.len
  clear h hf
  have HK := Lib.hid hok
  clear hok
  go_enter Tryd.func46, Tryd.ntmps46
  go_wp2_with fail
  refine HC.out.mono ?_
  rintro e w' ⟨x, rfl, ho, hB⟩
  rw [HK.out]
  have ho := ho HK.out
  by_cases h0 : gs.length = 0
  · have hz := wordLen_zero h0
    have hl : (lens gs).length = 0 := by rw [lens_len]; exact h0
    obtain ⟨A, c, rfl⟩ := own_slice ho
    rw [hl]
    have HZ := Lib.hid hz
    clear ho h0 hz hl
    go_wp2
    go_ret
    exact ⟨ret_int HZ.out.symm, hB⟩
  · obtain ⟨m, hm⟩ : ∃ m, gs.length = m + 1 := ⟨gs.length - 1, by omega⟩
    have hl : (lens gs).length = m + 1 := by rw [lens_len]; exact hm
    rcases ho.shape with ⟨_, h'⟩ | ⟨g, cap, rfl, _⟩
    · rw [h'] at hl; simp at hl
    have hc := ho.cell m (by omega)
    have hw : wordLen gs = (lens gs)[m] := by
      unfold wordLen
      rw [hm, Nat.add_sub_cancel, List.getD_eq_getElem?_getD, List.getElem?_eq_getElem (by omega), Option.getD_some]
    rw [← hw] at hc
    rw [hl]
    have hm' : m ≤ 1048576 := by omega
    clear ho h0 hw hl hm hn
    go_wp2
    go_ret
    exact ⟨rfl, hB⟩


/-- the letter that comes back -/
def LetPost (gs : List Rl) (T : Nat) (w : World) (e : Ending) (w' : World) : Prop :=
  (∃ (x : Rl) (h0 : 0 < x.L.size), gs[T]? = some x ∧ x.L.size = 1 ∧ lt x.L[0] = true ∧ e = .returned (.int .u8 (x.L[0]).toNat)) ∧ w = w'

set_option maxRecDepth 100000 in
set_option maxHeartbeats 6400000 in
theorem l02Letter4_any (p : Nat) (gs : List Rl) (x : Value) (B m : Nat) (i : Int) (w : World) (hok : gOk gs = true) (h : GP4 w p gs) (hx : OwnsI w B x (lens gs)) (hm : gs.length = m + 1) (hi0 : 0 ≤ i) (hi1 : i ≤ 1000000000000000)
    (T : Nat) (hT : leafAt gs gs.length m i = T) :
    Calls Tryd.prog 75 #[.pointer (some ⟨p, 4, none⟩), x, .int .i64 i] w (LetPost gs T w) := by
  obtain ⟨v, hv, A, c, rfl, hr⟩ := h
  have hn := gOk_len hok
  have hst := down_start hm hi0 hi1
  rw [hT] at hst
  rcases hr with hr | ⟨g, rfl, hg, hc⟩
  · rw [hr] at hm; simp at hm
  rcases hx.shape with ⟨_, h'⟩ | ⟨gx, cx, rfl, _⟩
  · have := lens_len gs; rw [h', hm] at this; simp at this
  have HX := Lib.hid (fun j (hj : j < gs.length) => (show w.cell? ⟨gx, j, none⟩ = some (.int .i64 ((lens gs).getD j 0)) by
    have := hx.cell j (by rw [lens_len]; exact hj)
    rw [this, List.getD_eq_getElem?_getD, List.getElem?_eq_getElem (by rw [lens_len]; exact hj), Option.getD_some]))
  have hl := lens_len gs
  rw [hl]
  obtain ⟨n, hng⟩ : ∃ n, n = gs.length := ⟨_, rfl⟩
  rw [← hng] at hn hv ⊢
  have HN := Lib.hid hng
  have HST := Lib.hid hst
  have HC := Lib.hid hc
  have HK := Lib.hid hok
  have hm' : n = m + 1 := by omega
  have hmi : (n : Int) - 1 = (m : Int) := by omega
  have HMI := Lib.hid hmi
  clear hst hc hok hx hl hng hm hT hmi
  subst hm'
  go_enter Tryd.func75, Tryd.ntmps75
  go_wp2_with fail
  go_loopw [2, 7, 8] (fun iv kv _ wr => ∃ (k : Nat) (j : Int), kv = .int .i64 k ∧ iv = .int .i64 j ∧ Down gs T k j ∧ w = wr) (fun _ kv _ _ => (intOf kv).toNat)
  case atStart => exact ⟨m, i, by go_num, rfl, HST.out, rfl⟩
  case round =>
    obtain ⟨k, j, rfl, rfl, hd, hw⟩ := hrel
    subst hw
    have hkg := hd.1
    have hkn : k < m + 1 := by rw [HN.out]; exact hkg
    have hj0 := hd.2.1
    have hj1 := hd.2.2.1
    obtain ⟨a0, a1, a2⟩ := rules_cells HC.out hkg
    by_cases h0 : gs[k].L.size = 0
    · obtain ⟨a, b, ha, hb, hak, hbk, p1, p2, hl, hr⟩ := down_step hd HK.out hkg h0
      have he := empty_arr h0
      rw [he] at a0
      rw [ha] at a1
      rw [hb] at a2
      have o1 := HX.out a (by omega)
      generalize (lens gs).getD a 0 = z at *
      have HL := Lib.hid hl
      have HR := Lib.hid hr
      clear hd hl hr he h0 ha hb
      by_cases hlt : j < z
      · have HD := Lib.hid (HL.out hlt)
        go_wp2_with fail
        go_roundw
        case rel => exact ⟨a, j, rfl, rfl, HD.out, trivial⟩
        case measure => simp [intOf]; omega
      · have HD := Lib.hid (HR.out hlt)
        go_wp2_with fail
        go_roundw
        case rel => exact ⟨b, j - z, rfl, rfl, HD.out, trivial⟩
        case measure => simp [intOf]; omega
    · have he := full_list h0
      obtain rfl := down_end hd hkg h0
      have hL1 := (ok_letter h0).1 (fits_at (gOk_iff.1 HK.out).2.1 T hkg)
      have h0' : 0 < gs[T].L.size := by have := hL1.1.1; omega
      have HF : Hid (LetPost gs T w (.returned (.int .u8 (gs[T].L[0]'h0').toNat)) w) := Lib.hid ⟨⟨gs[T], h0', List.getElem?_eq_getElem hkg, hL1.1.1, by
        have := okL_at hL1.1.2 (i := 0) (by simpa using h0'); exact this, rfl⟩, rfl⟩
      clear hL1
      clear hd h0
      go_wp2_with fail
      go_ret
      exact HF.out

theorem own_own_ne {w w' : World} {B B' e e' s s' n n' : Nat} {v v' : Value} {xs ys : List Value} (h : w.ownsRow B e s v n xs) (h' : w.ownsRow B' e' s' v' n' ys) (hne : e ≠ e') : v.ownBlock = none ∨ v.ownBlock ≠ v'.ownBlock := by
  rcases h.2 with ⟨rfl, _⟩ | ⟨g, cap, cur, rfl, _, hg, _⟩
  · exact .inl rfl
  · rcases h'.2 with ⟨rfl, _⟩ | ⟨g', cap', cur', rfl, _, hg', _⟩
    · exact .inr (by simp [Value.ownBlock])
    · refine .inr fun e => ?_
      have : g = g' := by simpa [Value.ownBlock] using e
      subst this
      rw [hg] at hg'
      injection hg' with h1
      injection h1 with _ h2
      exact hne h2

theorem partW_at {gs : List Rl} (hok : gOk gs = true) {i j : Int} {m n : Nat} (hn : gs.length = n + 1) (h0 : 0 ≤ i) (hj : j ≤ wordLen gs) (hm : i + m < j) {x : Rl} (hx : gs[leafAt gs gs.length n (i + m)]? = some x) (hs : 0 < x.L.size) :
    (partW gs i j).take (m + 1) = (partW gs i j).take m ++ [x.L[0]] := by
  have hwl : wordLen gs = (lens gs).getD n 0 := by unfold wordLen; rw [hn, Nat.add_sub_cancel]
  have h1 := leaf_word hok gs.length n (i + m) (by omega) (by omega) (by omega) (by omega)
  rw [hx] at h1
  have h2 : (partW gs i j)[m]? = some x.L[0] := by
    unfold partW wordAt
    rw [hn, Nat.add_sub_cancel, List.getElem?_drop, List.getElem?_take, if_pos (by omega), show i.toNat + m = (i + m).toNat from by omega, ← hn, h1]
    show x.L.data.toList[0]? = _
    rw [List.getElem?_eq_getElem (by simpa using hs)]
    rfl
  obtain ⟨hlt, h3⟩ := List.getElem?_eq_some_iff.1 h2
  rw [List.take_succ_eq_append_getElem hlt, h3]

/-- what holds between two letters -/
def UsRel (w : World) (x : Value) (gs : List Rl) (i j : Int) (out kv : Value) (wr : World) : Prop :=
  ∃ m : Nat, (m : Int) ≤ j - i ∧ kv = .int .i64 (i + m) ∧ wr.ownsRow w.heap.size 5 1 out m (bv ((partW gs i j).take m)) ∧ wr.ownsRow w.heap.size 2 1 x (lens gs).length (iv (lens gs)) ∧ Below w.heap.size w wr

set_option maxRecDepth 100000 in
set_option maxHeartbeats 3200000 in
theorem l02Unpack4_any (p : Nat) (gs : List Rl) (i j : Int) (w : World) (hf : FewR gs) (hg : GP4 w p gs) (hok : gOk gs = true) (h0 : 0 ≤ i) (hij : i ≤ j) (hj : j ≤ wordLen gs) (hl : j - i ≤ 2000) (hwl : wordLen gs ≤ 1000000000000000) (hpl : ((partW gs i j).length : Int) = j - i) :
    Calls Tryd.prog 47 #[.pointer (some ⟨p, 4, none⟩), .int .i64 i, .int .i64 j] w fun e w' => e = .returned (.string ⟨(partW gs i j).toArray⟩) ∧ Below w.heap.size w w' := by
  obtain ⟨i0, hi, hz0, hz1, hz2⟩ := info_parts Tryd.info_u8
  have h1 := lengths4_any p gs w hf hg
  unfold LensPost at h1
  rw [hok] at h1
  have H1 := Lib.hid h1
  have HG := Lib.hid hg
  have hn := gOk_len hok
  have HLW := Lib.hid (fun n (hn : gs.length = n + 1) x B (k : Int) W hG hx h0 h1 => l02Letter4_any p gs x B n k W hok hG hx hn h0 h1 _ rfl)
  have HPA := Lib.hid (fun (m n : Nat) (hn : gs.length = n + 1) hm (x : Rl) hx hs => partW_at (i := i) (j := j) (m := m) hok hn h0 hj hm (x := x) hx hs)
  have HN0 : Hid (i < j → 0 < gs.length) := Lib.hid fun h => by
    rcases Nat.eq_zero_or_pos gs.length with h9 | h9
    · rw [wordLen_zero h9] at hj; omega
    · exact h9
  have HPL := Lib.hid hpl
  clear h1 hg hok hpl
  go_enter Tryd.func47, Tryd.ntmps47
  go_wp2_with fail
  refine H1.out.mono ?_
  rintro e w1 ⟨x, rfl, ho, hB1⟩
  have HO := Lib.hid (ho trivial)
  have HB1 := Lib.hid hB1
  have hs1 := hB1.size
  clear hB1 ho
  go_wp2_with fail
  have HST : Hid (UsRel w x gs i j (.slice (some ⟨w1.heap.size, 0, none⟩) 0 0) (.int .i64 i) (w1.alloc (.cells #[] 5))) := Lib.hid
    ⟨0, by omega, by simp, World.ownsRow_lit w1 #[] 0 hs1 (by decide) rfl, World.ownsRow.alloc HO.out _, HB1.out.alloc hs1 _⟩
  go_loopw [9, 10] (fun out kv wr => UsRel w x gs i j out kv wr) (fun _ kv _ => (j - intOf kv).toNat)
  case atStart => exact HST.out
  case round =>
    obtain ⟨m, hm, rfl, hown, hx, hB⟩ := hrel
    obtain ⟨wo, rfl⟩ : ∃ wo : World, wo = wr := ⟨_, rfl⟩
    by_cases hlt : i + m < j
    · obtain ⟨n, hn1⟩ : ∃ n, gs.length = n + 1 := ⟨gs.length - 1, by have := HN0.out (by omega); omega⟩
      have HL := Lib.hid (HLW.out n hn1 x w.heap.size (i + m) wo (HG.out.kept hB) hx (by omega) (by omega))
      obtain ⟨Ay, cy, rfl⟩ := own_slice hown
      have HO1 := Lib.hid hown
      have HX1 := Lib.hid hx
      have HB2 := Lib.hid hB
      have hsz := hB.size
      clear hown hx hB
      go_wp2_with fail
      refine HL.out.mono ?_
      rintro e w3 ⟨⟨y, hy0, hy, hy1, hyl, rfl⟩, rfl⟩
      have HPS := Lib.hid (HPA.out m n hn1 hlt y hy hy0)
      obtain ⟨b, hb⟩ : ∃ b, b = y.L[0] := ⟨_, rfl⟩
      rw [← hb] at HPS ⊢
      clear hy hy1 hyl hb hy0
      go_wp2_with (first | (at_builtin; refine wpList_append_own _ rfl _ _ 77 rfl w.heap.size 5 i0 (.int .u8 0) 1 1 Tryd.underlying77 hi hz0 hz1 hz2 rfl (by decide) _ _ _ rfl (World.ownsRow.alloc HO1.out _) ⟨wo.heap.size, 0, none⟩ 1 1 [.int .u8 b.toNat] rfl rfl (one_new _ _ _) (one_int _ _) (by unfold maxLen; omega) (by omega) (by simp; omega) ?_))
      intro v' w4 hown' hgr _
      have hba : Below wo.heap.size wo (wo.alloc (.cells #[.int .u8 b.toNat] 5)) := (Below.refl _ wo).alloc (Nat.le_refl _) _
      have HST2 : Hid (UsRel w x gs i j v' (.int .i64 (i + m + 1)) w4) := Lib.hid
        ⟨m + 1, by omega, by first | rfl | (congr 1; omega), by rw [HPS.out, bv_app, bv_one]; exact hown', World.ownsRow.kept (World.ownsRow.alloc HX1.out _) hgr (own_own_ne (w' := wo) HX1.out HO1.out (by decide)), (HB2.out.alloc hsz _).grown hgr (by simp; omega) (fun q hq => (HO1.out.lt q hq).1)⟩
      clear hown' hgr hba
      go_wp2_with fail
      go_roundw
      case rel => first | exact HST2.out | ((repeat apply Exists.intro); exact ⟨HST2.out, rfl⟩)
      case measure => (first | (simp [intOf]; done) | (simp [intOf]; omega))
    · have hmj : (m : Int) = j - i := by omega
      rw [List.take_of_length_le (by have := HPL.out; omega)] at hown
      have hconv := conv_owned (P := Tryd.prog) (src := 77) (dst := 9) hown Tryd.underlying77 Tryd.underlying5 Tryd.underlying9
      have HBE := Lib.hid hB
      clear hown hx hmj hB
      go_wp2_with fail
      go_ret
      exact ⟨rfl, HBE.out⟩
end Go.Proofs.YtcaeihdfljljbaaDoor
