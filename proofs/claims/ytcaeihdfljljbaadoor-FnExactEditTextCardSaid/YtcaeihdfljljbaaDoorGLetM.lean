/-
  Which rule a letter comes from. Nothing of the program.
-/
import Derived.Test.YtcaeihdfljljbaaDoorGramM
namespace Go.Proofs.YtcaeihdfljljbaaDoor
open Go.RowKit
set_option linter.unusedVariables false
namespace Wd
/-- the rule in which one ends that goes down to a place -/
def leafAt (gs : List Rl) : Nat → Nat → Int → Nat
  | 0, k, _ => k
  | f + 1, k, i => if h : k < gs.length then
      (if gs[k].L.size = 0 then (if i < (lens gs).getD gs[k].l.toNat 0 then leafAt gs f gs[k].l.toNat i else leafAt gs f gs[k].r.toNat (i - (lens gs).getD gs[k].l.toNat 0)) else k) else k
theorem leaf_letter {gs : List Rl} {f k : Nat} {i : Int} (hk : k < gs.length) (h0 : gs[k].L.size ≠ 0) : leafAt gs f k i = k := by
  cases f with
  | zero => rfl
  | succ f => rw [leafAt, dif_pos hk, if_neg h0]
theorem leaf_left {gs : List Rl} {f k a : Nat} {i : Int} (hk : k < gs.length) (h0 : gs[k].L.size = 0) (ha : gs[k].l = a) (hi : i < (lens gs).getD a 0) : leafAt gs (f + 1) k i = leafAt gs f a i := by
  rw [leafAt, dif_pos hk, if_pos h0, ha, Int.toNat_natCast, if_pos hi]
theorem leaf_right {gs : List Rl} {f k a b : Nat} {i : Int} (hk : k < gs.length) (h0 : gs[k].L.size = 0) (ha : gs[k].l = a) (hb : gs[k].r = b) (hi : ¬ i < (lens gs).getD a 0) : leafAt gs (f + 1) k i = leafAt gs f b (i - (lens gs).getD a 0) := by
  rw [leafAt, dif_pos hk, if_pos h0, ha, hb, Int.toNat_natCast, Int.toNat_natCast, if_neg hi]
/-- on the way down: rule k, place i -/
def Down (gs : List Rl) (T k : Nat) (i : Int) : Prop := k < gs.length ∧ 0 ≤ i ∧ i ≤ 1000000000000000 ∧ ∃ f, k < f ∧ leafAt gs f k i = T
theorem down_start {gs : List Rl} {n : Nat} {i : Int} (h : gs.length = n + 1) (h0 : 0 ≤ i) (h1 : i ≤ 1000000000000000) : Down gs (leafAt gs gs.length n i) n i := ⟨by omega, h0, h1, gs.length, by omega, rfl⟩
theorem down_step {gs : List Rl} {T k : Nat} {i : Int} (hd : Down gs T k i) (hok : gOk gs = true) (hk : k < gs.length) (h0 : gs[k].L.size = 0) :
    ∃ a b : Nat, gs[k].l = a ∧ gs[k].r = b ∧ a < k ∧ b < k ∧ 1 ≤ (lens gs).getD a 0 ∧ (lens gs).getD a 0 ≤ 1000000000000000 ∧ (i < (lens gs).getD a 0 → Down gs T a i) ∧ (¬ i < (lens gs).getD a 0 → Down gs T b (i - (lens gs).getD a 0)) := by
  have hg := gOk_iff.1 hok
  have hu : UpTo gs k := fun j hj _ => ⟨fits_at hg.2.1 j hj, small_at hg.2.2 j hj⟩
  obtain ⟨a, b, ha, hb, hak, hbk, _, p1, p2, _, _⟩ := lens_next hk hu (fits_at hg.2.1 k hk) h0
  obtain ⟨_, hi0, hi1, f, hf, hT⟩ := hd
  obtain ⟨f, rfl⟩ : ∃ f', f = f' + 1 := ⟨f - 1, by omega⟩
  refine ⟨a, b, ha, hb, hak, hbk, p1, p2, fun hi => ⟨by omega, hi0, hi1, f, by omega, ?_⟩, fun hi => ⟨by omega, by omega, by omega, f, by omega, ?_⟩⟩
  · rw [← leaf_left hk h0 ha hi]; exact hT
  · rw [← leaf_right hk h0 ha hb hi]; exact hT
theorem down_end {gs : List Rl} {T k : Nat} {i : Int} (hd : Down gs T k i) (hk : k < gs.length) (h0 : gs[k].L.size ≠ 0) : T = k := by
  obtain ⟨_, _, _, f, _, hT⟩ := hd
  rw [← hT, leaf_letter hk h0]
/-- a letter's text is its one byte -/
theorem one_byte {L : ByteArray} (h : L.size = 1) : L = ⟨#[L[0]]⟩ := by
  obtain ⟨⟨l⟩⟩ := L
  match l, h with
  | [c], _ => rfl
/-- the answer of LetterAt -/
def letAns (gs : List Rl) (i : Int) : ByteArray × Int :=
  if gOk gs then (if 0 ≤ i ∧ i < (lens gs).getD (gs.length - 1) 0 then (match gs[leafAt gs gs.length (gs.length - 1) i]? with | some x => x.L | none => ⟨#[]⟩, 0) else (⟨#[]⟩, 2)) else (⟨#[]⟩, 1)
end Wd
end Go.Proofs.YtcaeihdfljljbaaDoor
