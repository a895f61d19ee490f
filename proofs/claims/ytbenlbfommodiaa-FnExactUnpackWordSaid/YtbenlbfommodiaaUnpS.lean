/-
  Walks: spec.l02Part, spec.l02Unpack, spec.UnpackPart.
-/
import Derived.Test.YtbenlbfommodiaaGLetS
import Derived.Test.YtbenlbfommodiaaGramLen
import Derived.Test.YtbenlbfommodiaaWordM
import Derived.Test.YtbenlbfommodiaaGVar
namespace Go.Proofs.Ytbenlbfommodiaa
open Go.RowKit
open Wd
set_option linter.unusedVariables false
namespace Wd
def inPartS (i j n : Int) : Bool := decide (0 ≤ i) && (decide (i ≤ j) && decide (j ≤ n))
def partC (gs : List Rl) (i j : Int) : Int := if gOk gs then (if inPartS i j (wordLen gs) then 0 else 2) else 1
end Wd
theorem own_own_ne {w w' : World} {B B' e e' s s' n n' : Nat} {v v' : Value} {xs ys : List Value} (h : w.ownsRow B e s v n xs) (h' : w.ownsRow B' e' s' v' n' ys) (hne : e ≠ e') : v.ownBlock = none ∨ v.ownBlock ≠ v'.ownBlock := by
  rcases h.2 with ⟨rfl, _⟩ | ⟨g, cap, cur, rfl, _, hg, _⟩
  · exact .inl rfl
  · rcases h'.2 with ⟨rfl, _⟩ | ⟨g', cap', cur', rfl, _, hg', _⟩
    · exact .inr (by simp [Value.ownBlock])
    · refine .inr fun e => ?_
      have : g = g' := by simpa [Value.ownBlock] using e
      subst this
      rw [hg] at hg'
      injection hg' with h1
      injection h1 with _ h2
      exact hne h2

set_option maxRecDepth 100000 in
set_option maxHeartbeats 1600000 in
theorem l02Part_any (p : Nat) (gs : List Rl) (i j : Int) (w : World) (hf : FewR gs) (hg : GP w p gs) :
    Calls Try.prog 73 #[.pointer (some ⟨p, 0, none⟩), .int .i64 i, .int .i64 j] w fun e w' => e = .returned (.int .i64 (partC gs i j)) ∧ Below w.heap.size w w' := by
  have h1 := l02Ok_any p gs w hf hg
  have H2 := Lib.hid (fun W (hW : GP W p gs) hok => l02Length_any p gs W hf hW hok)
  have HG := Lib.hid hg
  have hfs := gOk_fs (gs := gs)
  unfold partC
  cases hok : gOk gs
  · rw [hok] at h1
    have H1 := Lib.hid h1
    clear h1 hok hg hfs
    go_enter Try.func73, Try.ntmps73
    go_wp2_with fail
    refine H1.out.mono ?_
    rintro e w1 ⟨rfl, hB1⟩
    have HB1 := Lib.hid hB1
    clear hB1
    go_wp2_with fail
    go_ret
    exact ⟨rfl, HB1.out⟩
  · rw [hok] at h1
    have H1 := Lib.hid h1
    have HFS := Lib.hid (hfs hok)
    clear h1 hok hg hfs
    by_cases a1 : i < 0
    · have hd : inPartS i j (wordLen gs) = false := by simp [inPartS]; omega
      rw [hd]
      clear hd
      go_enter Try.func73, Try.ntmps73
      go_wp2_with fail
      refine H1.out.mono ?_
      rintro e w1 ⟨rfl, hB1⟩
      have HB1 := Lib.hid hB1
      clear hB1
      go_wp2_with fail
      go_ret
      exact ⟨rfl, HB1.out⟩
    · have a1d : decide (i < 0) = false := decide_eq_false a1
      by_cases a2 : j < i
      · have hd : inPartS i j (wordLen gs) = false := by simp [inPartS]; omega
        rw [hd]
        clear hd
        go_enter Try.func73, Try.ntmps73
        go_wp2_with fail
        refine H1.out.mono ?_
        rintro e w1 ⟨rfl, hB1⟩
        have HB1 := Lib.hid hB1
        clear hB1
        go_wp2_with fail
        go_ret
        exact ⟨rfl, HB1.out⟩
      · have a2d : decide (j < i) = false := decide_eq_false a2
        have hdd : inPartS i j (wordLen gs) = decide (j ≤ wordLen gs) := by
          have e1 : decide (0 ≤ i) = true := decide_eq_true (by omega)
          have e2 : decide (i ≤ j) = true := decide_eq_true (by omega)
          simp [inPartS, e1, e2]
        rw [hdd]
        generalize wordLen gs = wl at *
        by_cases a3 : wl < j
        · have hd : decide (j ≤ wl) = false := decide_eq_false (by omega)
          rw [hd]
          clear hd hdd
          go_enter Try.func73, Try.ntmps73
          go_wp2_with fail
          refine H1.out.mono ?_
          rintro e w1 ⟨rfl, hB1⟩
          have HB1 := Lib.hid hB1
          clear hB1
          go_wp2_with fail
          refine (H2.out _ (HG.out.kept HB1.out) HFS.out).mono ?_
          rintro e w2 ⟨rfl, hB2⟩
          have HB2 := Lib.hid (HB1.out.trans (hB2.mono HB1.out.size))
          clear hB2
          go_wp2_with fail
          go_ret
          exact ⟨rfl, HB2.out⟩
        · have hd : decide (j ≤ wl) = true := decide_eq_true (by omega)
          rw [hd]
          have a3d : decide (wl < j) = false := decide_eq_false a3
          clear hd hdd
          go_enter Try.func73, Try.ntmps73
          go_wp2_with fail
          refine H1.out.mono ?_
          rintro e w1 ⟨rfl, hB1⟩
          have HB1 := Lib.hid hB1
          clear hB1
          go_wp2_with fail
          refine (H2.out _ (HG.out.kept HB1.out) HFS.out).mono ?_
          rintro e w2 ⟨rfl, hB2⟩
          have HB2 := Lib.hid (HB1.out.trans (hB2.mono HB1.out.size))
          clear hB2
          go_wp2_with fail
          go_ret
          exact ⟨rfl, HB2.out⟩

theorem partW_at {gs : List Rl} (hok : gOk gs = true) {i j : Int} {m n : Nat} (hn : gs.length = n + 1) (h0 : 0 ≤ i) (hj : j ≤ wordLen gs) (hm : i + m < j) {x : Rl} (hx : gs[leafAt gs gs.length n (i + m)]? = some x) (hs : 0 < x.L.size) :
    (partW gs i j).take (m + 1) = (partW gs i j).take m ++ [x.L[0]] := by
  have hwl : wordLen gs = (lens gs).getD n 0 := by unfold wordLen; rw [hn, Nat.add_sub_cancel]
  have h1 := leaf_word hok gs.length n (i + m) (by omega) (by omega) (by omega) (by omega)
  rw [hx] at h1
  have h2 : (partW gs i j)[m]? = some x.L[0] := by
    unfold partW wordAt
    rw [hn, Nat.add_sub_cancel, List.getElem?_drop, List.getElem?_take, if_pos (by omega), show i.toNat + m = (i + m).toNat from by omega, ← hn, h1]
    show x.L.data.toList[0]? = _
    rw [List.getElem?_eq_getElem (by simpa using hs)]
    rfl
  obtain ⟨hlt, h3⟩ := List.getElem?_eq_some_iff.1 h2
  rw [List.take_succ_eq_append_getElem hlt, h3]

/-- what holds between two letters -/
def UsRel (w : World) (x : Value) (gs : List Rl) (i j : Int) (out kv : Value) (wr : World) : Prop :=
  ∃ m : Nat, (m : Int) ≤ j - i ∧ kv = .int .i64 (i + m) ∧ wr.ownsRow w.heap.size 5 1 out m (bv ((partW gs i j).take m)) ∧ wr.ownsRow w.heap.size 2 1 x (lens gs).length (iv (lens gs)) ∧ Below w.heap.size w wr

set_option maxRecDepth 100000 in
set_option maxHeartbeats 3200000 in
theorem l02Unpack_any (p : Nat) (gs : List Rl) (i j : Int) (w : World) (hf : FewR gs) (hg : GP w p gs) (hok : gOk gs = true) (h0 : 0 ≤ i) (hij : i ≤ j) (hj : j ≤ wordLen gs) (hl : j - i ≤ 2000) (hwl : wordLen gs ≤ 1000000000000000) (hpl : ((partW gs i j).length : Int) = j - i) :
    Calls Try.prog 74 #[.pointer (some ⟨p, 0, none⟩), .int .i64 i, .int .i64 j] w fun e w' => e = .returned (.string ⟨(partW gs i j).toArray⟩) ∧ Below w.heap.size w w' := by
  obtain ⟨i0, hi, hz0, hz1, hz2⟩ := info_parts Try.info_u8
  have h1 := lengths_any p gs w hf hg
  unfold LensPost at h1
  rw [hok] at h1
  have H1 := Lib.hid h1
  have HG := Lib.hid hg
  have hn := gOk_len hok
  have HLW := Lib.hid (fun n (hn : gs.length = n + 1) x B (k : Int) W hG hx h0 h1 => l02Letter_any p gs x B n k W hok hG hx hn h0 h1 _ rfl)
  have HPA := Lib.hid (fun (m n : Nat) (hn : gs.length = n + 1) hm (x : Rl) hx hs => partW_at (i := i) (j := j) (m := m) hok hn h0 hj hm (x := x) hx hs)
  have HN0 : Hid (i < j → 0 < gs.length) := Lib.hid fun h => by
    rcases Nat.eq_zero_or_pos gs.length with h9 | h9
    · rw [wordLen_zero h9] at hj; omega
    · exact h9
  have HPL := Lib.hid hpl
  clear h1 hg hok hpl
  go_enter Try.func74, Try.ntmps74
  go_wp2_with fail
  refine H1.out.mono ?_
  rintro e w1 ⟨x, rfl, ho, hB1⟩
  have HO := Lib.hid (ho trivial)
  have HB1 := Lib.hid hB1
  have hs1 := hB1.size
  clear hB1 ho
  go_wp2_with fail
  have HST : Hid (UsRel w x gs i j (.slice (some ⟨w1.heap.size, 0, none⟩) 0 0) (.int .i64 i) (w1.alloc (.cells #[] 5))) := Lib.hid
    ⟨0, by omega, by simp, World.ownsRow_lit w1 #[] 0 hs1 (by decide) rfl, World.ownsRow.alloc HO.out _, HB1.out.alloc hs1 _⟩
  go_loopw [9, 10] (fun out kv wr => UsRel w x gs i j out kv wr) (fun _ kv _ => (j - intOf kv).toNat)
  case atStart => exact HST.out
  case round =>
    obtain ⟨m, hm, rfl, hown, hx, hB⟩ := hrel
    obtain ⟨wo, rfl⟩ : ∃ wo : World, wo = wr := ⟨_, rfl⟩
    by_cases hlt : i + m < j
    · obtain ⟨n, hn1⟩ : ∃ n, gs.length = n + 1 := ⟨gs.length - 1, by have := HN0.out (by omega); omega⟩
      have HL := Lib.hid (HLW.out n hn1 x w.heap.size (i + m) wo (HG.out.kept hB) hx (by omega) (by omega))
      obtain ⟨Ay, cy, rfl⟩ := own_slice hown
      have HO1 := Lib.hid hown
      have HX1 := Lib.hid hx
      have HB2 := Lib.hid hB
      have hsz := hB.size
      clear hown hx hB
      go_wp2_with fail
      refine HL.out.mono ?_
      rintro e w3 ⟨⟨y, hy0, hy, hy1, hyl, rfl⟩, rfl⟩
      have HPS := Lib.hid (HPA.out m n hn1 hlt y hy hy0)
      obtain ⟨b, hb⟩ : ∃ b, b = y.L[0] := ⟨_, rfl⟩
      rw [← hb] at HPS ⊢
      clear hy hy1 hyl hb hy0
      go_wp2_with (first | (at_builtin; refine wpList_append_own _ rfl _ _ 72 rfl w.heap.size 5 i0 (.int .u8 0) 1 1 Try.underlying72 hi hz0 hz1 hz2 rfl (by decide) _ _ _ rfl (World.ownsRow.alloc HO1.out _) ⟨wo.heap.size, 0, none⟩ 1 1 [.int .u8 b.toNat] rfl rfl (one_new _ _ _) (one_int _ _) (by unfold maxLen; omega) (by omega) (by simp; omega) ?_))
      intro v' w4 hown' hgr _
      have hba : Below wo.heap.size wo (wo.alloc (.cells #[.int .u8 b.toNat] 5)) := (Below.refl _ wo).alloc (Nat.le_refl _) _
      have HST2 : Hid (UsRel w x gs i j v' (.int .i64 (i + m + 1)) w4) := Lib.hid
        ⟨m + 1, by omega, by first | rfl | (congr 1; omega), by rw [HPS.out, bv_app, bv_one]; exact hown', World.ownsRow.kept (World.ownsRow.alloc HX1.out _) hgr (own_own_ne (w' := wo) HX1.out HO1.out (by decide)), (HB2.out.alloc hsz _).grown hgr (by simp; omega) (fun q hq => (HO1.out.lt q hq).1)⟩
      clear hown' hgr hba
      go_wp2_with fail
      go_roundw
      case rel => first | exact HST2.out | ((repeat apply Exists.intro); exact ⟨HST2.out, rfl⟩)
      case measure => (first | (simp [intOf]; done) | (simp [intOf]; omega))
    · have hmj : (m : Int) = j - i := by omega
      rw [List.take_of_length_le (by have := HPL.out; omega)] at hown
      have hconv := conv_owned (P := Try.prog) (src := 72) (dst := 9) hown Try.underlying72 Try.underlying5 Try.underlying9
      have HBE := Lib.hid hB
      clear hown hx hmj hB
      go_wp2_with fail
      go_ret
      exact ⟨rfl, HBE.out⟩
end Go.Proofs.Ytbenlbfommodiaa
