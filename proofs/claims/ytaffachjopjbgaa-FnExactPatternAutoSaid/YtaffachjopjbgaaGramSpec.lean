/-
  Walks: spec.l02Sizes, l02Lengths, l02Ok, l02Length: the lengths of all words, and whether a grammar is valid.
-/
import Derived.Test.YtaffachjopjbgaaGramEq
import Derived.Test.YtaffachjopjbgaaIntsM
namespace Go.Proofs.Ytaffachjopjbgaa
open Go.RowKit
open Wd
set_option linter.unusedVariables false

theorem Try.info_i64 : (Try.prog.info? 2).map (fun i => (i.zero, i.size, i.bytes)) = some (some (.int .i64 0), 1, 8) := by kernel_rfl

namespace Wd
/-- not too much in all -/
def FewR (gs : List Rl) : Prop := gs.length + sumL gs ≤ 1048576
theorem FewR.len {gs : List Rl} (h : FewR gs) : gs.length ≤ 1048576 := by unfold FewR at h; omega
theorem FewR.at_ {gs : List Rl} (h : FewR gs) (k : Nat) (hk : k < gs.length) : gs[k].L.size ≤ maxLen := by
  have := sumL_at gs k hk
  unfold FewR at h; unfold maxLen; omega
/-- a grammar behind a pointer -/
def GP (w : World) (p : Nat) (gs : List Rl) : Prop := ∃ v, w.cell? ⟨p, 0, none⟩ = some v ∧ Rules w v gs
theorem GP.kept {w w' : World} {p : Nat} {gs : List Rl} (h : GP w p gs) (hb : Below w.heap.size w w') : GP w' p gs := by
  obtain ⟨v, h1, h2⟩ := h
  exact ⟨v, (hb.cell (p := ⟨p, 0, none⟩) (lt_of_cell h1)).trans h1, h2.kept hb⟩
end Wd
theorem own_drewN {w : World} {B e s n : Nat} {v : Value} {xs : List Value} (h : w.ownsRow B e s v n xs) (m : Nat) : (w.drewN m).ownsRow B e s v n xs := h
/-- what comes back of the lengths -/
def SizesPost (gs : List Rl) (w : World) (e : Ending) (w' : World) : Prop :=
  ∃ x, e = .returned (.tuple #[x, .bool (fits gs && small gs)]) ∧ ((fits gs && small gs) = true → OwnsI w' w.heap.size x (lens gs)) ∧ Below w.heap.size w w'

theorem sizes_no {gs : List Rl} {w w' : World} {x : Value} (h : (fits gs && small gs) = false) (hB : Below w.heap.size w w') : SizesPost gs w (.returned (.tuple #[x, .bool false])) w' :=
  ⟨x, by rw [h], fun h' => by (rw [h] at h'; cases h'), hB⟩
theorem sizes_yes {gs : List Rl} {w w' : World} {x : Value} (h : (fits gs && small gs) = true) (ho : OwnsI w' w.heap.size x (lens gs)) (hB : Below w.heap.size w w') : SizesPost gs w (.returned (.tuple #[x, .bool true])) w' :=
  ⟨x, by rw [h], fun _ => ho, hB⟩

/-- what holds between two rounds -/
def SzRel (gs : List Rl) (w : World) (out i : Value) (wr : World) : Prop :=
  ∃ k : Nat, k ≤ gs.length ∧ i = .int .i64 k ∧ wr.ownsRow w.heap.size 2 1 out k (iv (lens (gs.take k))) ∧ Below w.heap.size w wr ∧ UpTo gs k
theorem szRel_start (gs : List Rl) (w : World) : SzRel gs w (.slice (some ⟨w.heap.size, 0, none⟩) 0 0) (.int .i64 0) (w.alloc (.cells #[] 2)) :=
  ⟨0, Nat.zero_le _, rfl, World.ownsRow_lit w #[] 0 (Nat.le_refl _) (by decide) rfl, (Below.refl _ _).alloc (Nat.le_refl _) _, upTo_zero _⟩
theorem szRel_step {gs : List Rl} {w wr w1 : World} {k : Nat} {out out' : Value} {o : Obj} (hk : k < gs.length) (hown : wr.ownsRow w.heap.size 2 1 out k (iv (lens (gs.take k)))) (hB : Below w.heap.size w wr)
    (hu : UpTo gs k) (h1 : gs[k].ok k = true) (h2 : (lens gs).getD k 0 ≤ 1000000000000000)
    (hown' : w1.ownsRow w.heap.size 2 1 out' (k + 1) (iv (lens (gs.take k)) ++ [.int .i64 ((lens gs).getD k 0)])) (hgrow : (wr.alloc o).grownBy w1 out.ownBlock) : SzRel gs w out' (.int .i64 ((k + 1 : Nat) : Int)) w1 := by
  have hsz := hB.size
  refine ⟨k + 1, hk, rfl, ?_, (hB.alloc hsz o).grown hgrow (by simp; omega) (fun q hq => (hown.lt q hq).1), upTo_succ hu hk h1 h2⟩
  rw [lens_snoc hk, iv_app]
  exact hown'

set_option maxRecDepth 100000 in
set_option maxHeartbeats 3200000 in
theorem sizes_any (p : Nat) (gs : List Rl) (w : World) (hf : FewR gs) (h : GP w p gs) :
    Calls Try.prog 153 #[.pointer (some ⟨p, 0, none⟩)] w (SizesPost gs w) := by
  obtain ⟨i0, hi, hz0, hz1, hz2⟩ := info_parts Try.info_i64
  obtain ⟨v, hv, A, c, rfl, hr⟩ := h
  obtain ⟨n, hng⟩ : ∃ n, n = gs.length := ⟨_, rfl⟩
  have hn := hf.len
  rw [← hng] at hn hv
  have HN := Lib.hid hng
  have HV := Lib.hid hv
  have HR := Lib.hid hr
  have HF := Lib.hid hf
  clear hng hv hr hf
  go_enter Try.func153, Try.ntmps153
  go_wp2
  go_loopw [4, 5, 6, 7] (fun x i _ _ wr => SzRel gs w x i wr) (fun _ i _ _ _ => n - (intOf i).toNat)
  case atStart => exact szRel_start gs w
  case round =>
    obtain ⟨k, hk, rfl, hown, hB, hu⟩ := hrel
    obtain ⟨x, rfl⟩ : ∃ x : Value, x = u4 := ⟨_, rfl⟩
    obtain ⟨wo, rfl⟩ : ∃ wo : World, wo = wr := ⟨_, rfl⟩
    have hv' : wo.cell? ⟨p, 0, none⟩ = some (.slice A n c) := (hB.cell (p := ⟨p, 0, none⟩) (lt_of_cell HV.out)).trans HV.out
    by_cases hlt : k < n
    · have hkg : k < gs.length := by rw [← HN.out]; exact hlt
      rcases HR.out with hn | ⟨g, rfl, hg, hc⟩
      · rw [hn] at hkg; simp at hkg
      obtain ⟨a0, a1, a2⟩ := rules_cells hc hkg
      rw [← hB.cell (p := ⟨g, k * 3, none⟩) hg] at a0
      rw [← hB.cell (p := ⟨g, k * 3 + 1, none⟩) hg] at a1
      rw [← hB.cell (p := ⟨g, k * 3 + 2, none⟩) hg] at a2
      have hrl := rule_any gs[k] g (k * 3) k wo (HF.out.at_ k hkg) (by unfold maxLen; omega) a0 a1 a2
      clear hc hk
      cases hok : gs[k].ok k
      · rw [hok] at hrl
        have HRL := Lib.hid hrl
        have HBD := Lib.hid (sizes_no (w := w) (w' := wo) (x := x) (bad_fit hkg hok) hB)
        clear hrl hok hown hu a0 a1 a2 hB
        go_wp2_with fail
        refine HRL.out.mono ?_; rintro e w' ⟨rfl, rfl⟩
        go_wp2
        go_ret2
        exact HBD.out
      · rw [hok] at hrl
        have HRL := Lib.hid hrl
        clear hrl
        have HSZ := Lib.hid hB.size
        have hst := fun (Z : Int) (hZ : (lens gs).getD k 0 = Z) (hZ2 : Z ≤ 1000000000000000) (m : Nat) (w1 : World) (out' : Value) (o : Obj) h3 h4 =>
          szRel_step (w1 := w1) (out' := out') (o := o) (wr := wo.drewN m) hkg hown (below_drewN hB m) hu hok (by rw [hZ]; exact hZ2) (by rw [hZ]; exact h3) h4
        by_cases h0 : gs[k].L.size = 0
        · have he := empty_arr h0
          rw [he] at a0
          obtain ⟨a, b, ha, hb, hak, hbk, hsum, pa1, pa2, pb1, pb2⟩ := lens_next hkg hu hok h0
          rw [ha] at a1
          rw [hb] at a2
          have hO := hown
          rcases hown.2 with ⟨_, hk0⟩ | ⟨g', c', cur, rfl, _⟩
          · omega
          have o1 : wo.cell? ⟨g', a, none⟩ = some (.int .i64 ((lens gs).getD a 0)) := by
            rw [hO.cellAt a (by omega)]; simp only [iv, List.getElem?_map, lens_at hak (Nat.le_of_lt hkg), Option.map_some]
          have o2 : wo.cell? ⟨g', b, none⟩ = some (.int .i64 ((lens gs).getD b 0)) := by
            rw [hO.cellAt b (by omega)]; simp only [iv, List.getElem?_map, lens_at hbk (Nat.le_of_lt hkg), Option.map_some]
          generalize (lens gs).getD a 0 = z1 at *
          generalize (lens gs).getD b 0 = z2 at *
          have HO := Lib.hid hO
          have HST := Lib.hid (hst (z1 + z2) hsum)
          have HBD := Lib.hid (fun (h : 1000000000000000 < z1 + z2) m => sizes_no (w := w) (w' := wo.drewN m) (x := .slice (some ⟨g', 0, none⟩) k c') (bad_long hkg (by rw [hsum]; exact h)) (below_drewN hB m))
          clear hst hsum hO hown hu hok ha hb he h0 hB
          by_cases hbig : 1000000000000000 < z1 + z2
          · go_wp2_with fail
            refine HRL.out.mono ?_; rintro e w' ⟨rfl, rfl⟩
            go_wp2
            go_quiet (fail)
            go_wp2
            go_ret2
            exact HBD.out hbig _
          · go_wp2_with fail
            refine HRL.out.mono ?_; rintro e w' ⟨rfl, rfl⟩
            go_wp2
            go_quiet (fail)
            go_wp2_with (first | (at_builtin; refine wpList_append_own _ rfl _ _ 22 rfl w.heap.size 2 i0 (.int .i64 0) 1 8 Try.underlying22 hi hz0 hz1 hz2 rfl (by decide) _ _ _ rfl (World.ownsRow.alloc (own_drewN HO.out _) _) ⟨wo.heap.size, 0, none⟩ 1 1 [.int .i64 (z1 + z2)] rfl rfl (one_new _ _ _) (one_int _ _) (by unfold maxLen; omega) (by omega) (base_alloc HSZ.out _) ?_))
            intro v' w1 hown' hgrow _
            have HNW := Lib.hid (HST.out (by omega) _ w1 v' _ hown' hgrow)
            clear hown' hgrow
            go_wp2
            go_roundw
            case rel => first | exact HNW.out | ((repeat apply Exists.intro); exact ⟨HNW.out, rfl⟩)
            case measure => simp [intOf]; omega
        · have he := full_list h0
          have hz := vals_letter (fun a b => a + b) gs k hkg h0
          have HST := Lib.hid (hst 1 hz (by omega) 0)
          have HO := Lib.hid hown
          clear hst hown hu hok h0 hB hz
          go_wp2_with fail
          refine HRL.out.mono ?_; rintro e w' ⟨rfl, rfl⟩
          go_wp2_with (first | (at_builtin; refine wpList_append_own _ rfl _ _ 22 rfl w.heap.size 2 i0 (.int .i64 0) 1 8 Try.underlying22 hi hz0 hz1 hz2 rfl (by decide) _ _ _ rfl (World.ownsRow.alloc HO.out _) ⟨wo.heap.size, 0, none⟩ 1 1 [.int .i64 1] rfl rfl (one_new _ _ _) (one_int _ _) (by unfold maxLen; omega) (by omega) (base_alloc HSZ.out _) ?_))
          intro v' w1 hown' hgrow _
          have HNW := Lib.hid (HST.out w1 v' _ hown' hgrow)
          clear hown' hgrow
          go_wp2
          go_roundw
          case rel => first | exact HNW.out | ((repeat apply Exists.intro); exact ⟨HNW.out, rfl⟩)
          case measure => simp [intOf]; omega
    · have hg := HN.out
      have hkn : k = gs.length := by omega
      have hy := sizes_yes (w := w) (w' := wo) (x := x) (upTo_all hu (by omega)) (by
        unfold OwnsI; rw [lens_len]; rw [hkn, List.take_of_length_le (Nat.le_refl _)] at hown; exact hown) hB
      have HY := Lib.hid hy
      clear hy hown hu hkn hg hB
      go_wp2
      go_ret2
      exact HY.out
end Go.Proofs.Ytaffachjopjbgaa
