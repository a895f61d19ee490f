/-
  Walk: impl.BordersOf.
-/
import Derived.Test.YtdfdeppfhadopaaMapLaw
import Derived.Test.YtdfdeppfhadopaaPerB
namespace Go.Proofs.Ytdfdeppfhadopaa
open Go.RowKit Go.Maps
open Wd
set_option linter.unusedVariables false

/-- what the loop over the map has gathered, 'left' telling which keys are still to come -/
def Gath (s : ByteArray) (left : Lit → Bool) (acc : List Int) : Prop :=
  acc.Nodup ∧ ∀ x, x ∈ acc ↔ ∃ p : Nat, Per s p ∧ left (.int .i64 p) = false ∧ x = (s.size : Int) - p ∧ 0 < x
theorem Gath.start {s : ByteArray} {D : DataW Unit} (h : ∀ kl, Maps.has D kl = true ↔ ∃ p : Nat, Per s p ∧ kl = .int .i64 p) : Gath s (Maps.has D) [] := by
  refine ⟨List.nodup_nil, fun x => ⟨(fun h => by cases h), ?_⟩⟩
  rintro ⟨p, h1, h2, _⟩
  rw [(h _).2 ⟨p, h1, rfl⟩] at h2
  cases h2
theorem sameKey_int (p q : Int) : (Lit.int .i64 p).sameKey (.int .i64 q) = decide (p = q) := by
  simp [Lit.sameKey]
theorem Gath.take {s : ByteArray} {left : Lit → Bool} {acc : List Int} {p : Nat} (h : Gath s left acc) (hp : Per s p) (hl : left (.int .i64 p) = true) (h0 : (0 : Int) < (s.size : Int) - p) :
    Gath s (fun z => left z && !z.sameKey (.int .i64 p)) (acc ++ [(s.size : Int) - p]) := by
  refine ⟨?_, fun x => ?_⟩
  · rw [List.nodup_append]
    refine ⟨h.1, by simp, ?_⟩
    intro a ha b hb
    simp at hb
    subst hb
    rintro rfl
    obtain ⟨q, _, h2, h3, _⟩ := (h.2 _).1 ha
    have : q = p := by omega
    subst this
    rw [hl] at h2
    cases h2
  · rw [List.mem_append, h.2, List.mem_singleton]
    constructor
    · rintro (⟨q, h1, h2, h3, h4⟩ | rfl)
      · exact ⟨q, h1, by simp [h2], h3, h4⟩
      · exact ⟨p, hp, by simp [sameKey_int], rfl, h0⟩
    · rintro ⟨q, h1, h2, h3, h4⟩
      by_cases hq : q = p
      · subst hq; exact .inr h3
      · refine .inl ⟨q, h1, ?_, h3, h4⟩
        have : ¬ (q : Int) = (p : Int) := by omega
        simpa [sameKey_int, this] using h2
theorem Gath.skip {s : ByteArray} {left : Lit → Bool} {acc : List Int} {p : Nat} (h : Gath s left acc) (h0 : ¬ (0 : Int) < (s.size : Int) - p) :
    Gath s (fun z => left z && !z.sameKey (.int .i64 p)) acc := by
  refine ⟨h.1, fun x => ?_⟩
  rw [h.2]
  constructor
  · rintro ⟨q, h1, h2, h3, h4⟩
    exact ⟨q, h1, by simp [h2], h3, h4⟩
  · rintro ⟨q, h1, h2, h3, h4⟩
    have : ¬ (q : Int) = (p : Int) := by omega
    exact ⟨q, h1, by simpa [sameKey_int, this] using h2, h3, h4⟩


theorem Gath.sorted {s : ByteArray} {left : Lit → Bool} {acc : List Int} (h : Gath s left acc) (hl : ∀ kl, left kl = false) :
    (acc.mergeSort fun x y => decide (x ≤ y)) = upTo (brdB s) (s.size - 1) := by
  refine rising_ext _ _ (sort_rising h.1) (upTo_rising _ _) fun x => ?_
  rw [sort_mem, h.2, upTo_mem]
  constructor
  · rintro ⟨p, h1, _, h3, h4⟩
    refine ⟨s.size - p, by omega, by have := h1.1; omega, ?_, by have := h1.2.1; omega⟩
    rw [brd_iff (by omega) (by have := h1.1; omega), show s.size - (s.size - p) = p by have := h1.2.1; omega]
    exact h1
  · rintro ⟨n, h1, h2, h3, rfl⟩
    exact ⟨s.size - n, (brd_iff h1 (by omega)).1 h3, hl _, by omega, by omega⟩
theorem Gath.len {s : ByteArray} {left : Lit → Bool} {acc : List Int} (h : Gath s left acc) : True := trivial

set_option maxRecDepth 100000 in
set_option maxHeartbeats 3200000 in
theorem implBorders_ok (s : ByteArray) (w : World) (hs : s.size ≤ 2000) (h : okL s.data.toList = true) :
    Calls Try.prog 12 #[.string s] w fun e w' => ∃ x, e = .returned (.tuple #[x, .int .i64 0]) ∧ OwnsI w' w.heap.size x (upTo (brdB s) (s.size - 1)) ∧ Below w.heap.size w w' := by
  obtain ⟨i0, hi, hz0, hz1, hz2⟩ := info_parts Try.info_i64'
  have c1 := implOk s w (by unfold maxLen; omega)
  rw [h] at c1
  have C1 := Lib.hid c1
  clear c1 h
  go_enter Try.func12, Try.ntmps12
  go_wp2_with fail
  refine C1.out.mono ?_; rintro e w' ⟨rfl, rfl⟩
  go_wp2_with fail
  refine (implPeriods s _ hs).mono ?_
  rintro e w1 ⟨b, n, D, rfl, hP, hb1⟩
  have hs1 := hb1.size
  have hs1' : w.heap.size < w1.heap.size := by simp at hs1; omega
  have hrow : w1.ownsRow w.heap.size 2 1 (.slice (some ⟨w.heap.size, 0, none⟩) 0 0) 0 (iv []) :=
    (World.ownsRow_lit (base := w.heap.size) (e := 2) (size := 1) w #[] 0 (Nat.le_refl _) (by decide) rfl).kept (row := none) ⟨hb1.os, hb1.tape, hb1.output, hb1.size, fun k hk _ => hb1.block k (by omega)⟩ (by simp [Value.ownBlock])
  have hB : Below w.heap.size w w1 := ((Below.refl _ w).alloc (Nat.le_refl _) _).trans (hb1.mono (by simp))
  have hkeys := hP.has
  have hG0 := Lib.hid (Gath.start hkeys)
  have HKEYS := Lib.hid hkeys
  have hsd : Maps.size D ≤ s.size := Nat.le_trans (size_le hP.1) hP.2.2.1
  have hmp := hP.1
  have hbw : w.heap.size < b := by have := hP.2.1; simp at this; omega
  clear hb1 hs1 hkeys hP
  go_wp2_with (first | (at_range; refine wpList_range_own _ rfl _ 45 rfl 2 4 keyed64 Try.underlying45 _ b n _ rfl hmp ?_; intro w2 hrg2 hg2 hs2))
  have hrow2 := hrow.kept hg2 (by simp [Value.ownBlock])
  have hB2 : Below w.heap.size w w2 := hB.grown hg2 (by omega) (fun k hk => by cases hk)
  have hsl : w.heap.size ≤ w1.heap.size := by omega
  generalize hr : w1.heap.size = r at hrg2 hsl ⊢
  clear hrow hB hg2 hs2 hmp hr hs1'
  go_frame
  go_loopw [4, 5, 6] (fun x _ _ wr => ∃ (left : Lit → Bool) (cnt m : Nat) (acc : List Int), wr.ranges Try.prog 2 (plainElem Try.prog 4) b r n D left cnt ∧ Gath s left acc ∧ acc.length = m ∧ m + cnt ≤ s.size ∧ wr.ownsRow w.heap.size 2 1 x m (iv acc) ∧ Below w.heap.size w wr ∧
      (∀ kl, left kl = true → Maps.has D kl = true)) (fun _ _ _ wr => wr.rangeLeft b r)
  case atStart => exact ⟨_, _, 0, [], hrg2, hG0.out, rfl, by omega, hrow2, hB2, fun _ h => h⟩
  case round =>
    obtain ⟨left, cnt, m, acc, hrg, hG, hm, hmc, hown, hBr, hlD⟩ := hrel
    clear hrg2 hrow2 hB2
    have HG := Lib.hid hG
    have HM := Lib.hid hm
    have HLD := Lib.hid hlD
    clear hG hm hlD
    go_wp2_with (first | (at_next; refine wpList_next_ranges_ib _ rfl _ rfl 2 .i64 keyed64 Try.underlying2 _ b r n _ _ _ rfl hrg ?_ ?_))
    · intro _ hl0
      have hfin := Lib.hid (Gath.sorted HG.out hl0)
      have hoi : OwnsI wr w.heap.size u4 acc := by unfold OwnsI; rw [HM.out]; exact hown
      have hlen : acc.length ≤ 1000000 := by have := HM.out; omega
      have HOI := Lib.hid hoi
      clear hl0 hoi hown
      go_wp2_with fail
      refine (sortI u4 acc _ _ HOI.out hlen).mono ?_
      rintro e w3 ⟨rfl, ho3, hg3⟩
      rw [hfin.out] at ho3
      have hb3 : Below w.heap.size w w3 := hBr.grown hg3 hBr.size (fun q hq => (HOI.out.lt q hq).1)
      clear hg3 hfin HOI
      go_wp2
      go_ret2
      exact ⟨_, rfl, ho3, hb3⟩
    · intro x c w4 cnt1 hwx hlx hrg1 hlt hg1 hs1 hen
      obtain ⟨p, hp, he⟩ := (HKEYS.out _).1 (HLD.out _ hlx)
      obtain rfl : x = (p : Int) := by injection he
      have hp1 := hp.1
      have hp2 := hp.2.1
      have hap := row_apart hrg hown
      have hown4 := hown.kept hg1 (.inr (fun h => hap.2 h.symm))
      have hB4 : Below w.heap.size w w4 := hBr.grown hg1 hBr.size (fun q hq => by cases hq; exact hsl)
      have hap4 := row_apart hrg1 hown4
      have hle1 := hrg.left_eq
      have hle2 := hrg1.left_eq
      have hlD1 : ∀ kl, (left kl && !kl.sameKey (.int .i64 (p : Int))) = true → Maps.has D kl = true := fun kl hk => HLD.out kl (by simp at hk; exact hk.1)
      have HLD1 := Lib.hid hlD1
      have HLE := Lib.hid (show w4.rangeLeft b r < wr.rangeLeft b r by rw [hle1, hle2]; exact hlt)
      have HP := Lib.hid hp
      have HLX := Lib.hid hlx
      have s4 := hB4.size
      clear hp hlx he hlD1 hle1 hle2 hown hBr hg1 hs1 hap hwx hG0
      by_cases h0 : (0 : Int) < (s.size : Int) - (p : Int)
      · have hgt := Lib.hid (Gath.take HG.out HP.out HLX.out h0)
        go_wp2_with (first | (at_builtin; refine wpList_append_own _ rfl _ _ 25 rfl w.heap.size 2 i0 (.int .i64 0) 1 8 Try.underlying25 hi hz0 hz1 hz2 rfl (by decide) _ _ _ rfl (hown4.alloc _) ⟨w4.heap.size, 0, none⟩ 1 1 [.int .i64 ((s.size : Int) - (p : Int))] rfl rfl (one_new _ _ _) (one_int _ _) (by unfold maxLen; omega) (by omega) (base_alloc s4 _) ?_))
        intro v5 w5 hown5 hg5 _
        have hrg5 := (hrg1.alloc _).kept hg5 hap4.1 hap4.2
        have hB5 : Below w.heap.size w w5 := (hB4.alloc s4 _).grown hg5 (by simp; omega) (fun q hq => (hown4.lt q hq).1)
        have hl5 : w5.rangeLeft b r < wr.rangeLeft b r := by rw [hrg5.left_eq, ← hrg1.left_eq]; exact HLE.out
        have HL5 := Lib.hid hl5
        have hown5' : w5.ownsRow w.heap.size 2 1 v5 (m + 1) (iv (acc ++ [(s.size : Int) - (p : Int)])) := by rw [iv_app]; exact hown5
        clear hl5 hg5 hown5 hrg1 hB4 hown4 hap4
        go_wp2
        go_roundw
        case rel => exact ⟨_, cnt1, m + 1, acc ++ [(s.size : Int) - (p : Int)], hrg5, hgt.out, by rw [List.length_append, HM.out]; rfl, by omega, hown5', hB5, HLD1.out⟩
        case measure => exact HL5.out
      · have hgs := Lib.hid (Gath.skip HG.out h0)
        go_wp2
        go_roundw
        case rel => exact ⟨_, cnt1, m, acc, hrg1, hgs.out, HM.out, by omega, hown4, hB4, HLD1.out⟩
        case measure => exact HLE.out
end Go.Proofs.Ytdfdeppfhadopaa
