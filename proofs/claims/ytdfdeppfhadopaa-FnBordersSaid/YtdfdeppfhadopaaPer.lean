/-
  Walk: impl.periodSet: a map of its own that has just the periods as keys.
-/
import Derived.Test.YtdfdeppfhadopaaKmpW
import Derived.Maps.Own
import Derived.Maps.Views
import Derived.Maps.RangeWalk
namespace Go.Proofs.Ytdfdeppfhadopaa
open Go.RowKit Go.Maps
open Wd
set_option linter.unusedVariables false

namespace Wd
/-- p is a period of s -/
def Per (s : ByteArray) (p : Nat) : Prop := 1 ≤ p ∧ p ≤ s.size ∧ Bd s s.size (s.size - p)
end Wd

/-- the keys that the loop has laid when it stands at the border b -/
def KeysAt (s : ByteArray) (b : Nat) (D : DataW Unit) : Prop := IsMap D ∧ ∀ kl, Maps.has D kl = true ↔ ∃ c, Bd s s.size c ∧ b ≤ c ∧ kl = .int .i64 ((s.size : Int) - c)
theorem KeysAt.start (s : ByteArray) : KeysAt s s.size (.map []) := by
  refine ⟨isMap_empty, fun kl => ⟨(fun h => by cases h), ?_⟩⟩
  rintro ⟨c, h, hc, _⟩
  have := h.1
  omega
theorem KeysAt.put {s : ByteArray} {b c : Nat} {D : DataW Unit} (h : KeysAt s b D) (hb : b = s.size ∨ Bd s s.size b) (hb0 : 0 < b) (hc : Lb s b c) (hs : s.size ≤ 2000) :
    KeysAt s c (D.put (.int .i64 ((s.size : Int) - c)) (.lit (.bool true))) ∧ Bd s s.size c := by
  have hbc : Bd s s.size c := by
    rcases hb with rfl | hb
    · exact (hc.bd hb0).1
    · exact hb.trans (hc.bd hb0).1
  refine ⟨⟨h.1.put _ _, fun kl => ?_⟩, hbc⟩
  by_cases hk : kl = .int .i64 ((s.size : Int) - c)
  · subst hk
    rw [has_put_same h.1 (show WideAt.IsKeyLit (.int .i64 ((s.size : Int) - c)) from trivial)]
    exact ⟨fun _ => ⟨c, hbc, Nat.le_refl _, rfl⟩, fun _ => rfl⟩
  · rw [has_put_other hk, h.2]
    constructor
    · rintro ⟨d, h1, h2, h3⟩
      exact ⟨d, h1, Nat.le_trans hc.le h2, h3⟩
    · rintro ⟨d, h1, h2, h3⟩
      refine ⟨d, h1, ?_, h3⟩
      by_cases hdb : b ≤ d
      · exact hdb
      · exfalso
        have hbd : Bd s b d := by
          rcases hb with rfl | hb
          · exact h1
          · exact hb.inner h1 (by omega)
        have := (hc.bd hb0).2 d hbd
        have : d = c := by omega
        subst this
        exact hk h3

/-- what periodSet hands back -/
def PerMap (s : ByteArray) (B : Nat) (b n : Nat) (D : DataW Unit) (w : World) : Prop :=
  w.ownsMap Try.prog 2 (plainElem Try.prog 4) b n D ∧ B ≤ b ∧ n ≤ s.size ∧ KeysAt s 0 D
theorem PerMap.has {s : ByteArray} {B b n : Nat} {D : DataW Unit} {w : World} (h : PerMap s B b n D w) (kl : Lit) : Maps.has D kl = true ↔ ∃ p : Nat, Per s p ∧ kl = .int .i64 p := by
  rw [h.2.2.2.2]
  constructor
  · rintro ⟨c, h1, _, h3⟩
    have := h1.1
    exact ⟨s.size - c, ⟨by omega, by omega, by rwa [show s.size - (s.size - c) = c by omega]⟩, by rw [h3]; congr 1; omega⟩
  · rintro ⟨p, ⟨h1, h2, h3⟩, h4⟩
    exact ⟨s.size - p, h3, Nat.zero_le _, by rw [h4]; congr 1; omega⟩

theorem keyed64 : Keyed Try.prog 2 := int_keyed Try.underlying2

set_option maxRecDepth 100000 in
set_option maxHeartbeats 3200000 in
theorem implPeriods (s : ByteArray) (w : World) (hs : s.size ≤ 2000) :
    Calls Try.prog 22 #[.string s] w fun e w' => ∃ b n D, e = .returned (.map (some b)) ∧ PerMap s w.heap.size b n D w' ∧ Below w.heap.size w w' := by
  have hmm := @run_makeMap Try.prog
  go_enter Try.func22, Try.ntmps22
  go_wp2_with fail
  refine (implLongest s _ hs).mono ?_
  rintro e w1 ⟨g, zs, rfl, hown, hT, hb1⟩
  have HT := Lib.hid hT
  have hs1 := hb1.size
  have hs1' : w.heap.size < w1.heap.size := by simp at hs1; omega
  have hgl := (hown.lt g rfl).1
  have hgl' : w.heap.size < g := by simp at hgl; omega
  have hmap : w1.ownsMap Try.prog 2 (plainElem (H := Unit) Try.prog 4) w.heap.size 0 (.map []) :=
    (World.ownsMap_made w Try.prog 2 (plainElem (H := Unit) Try.prog 4)).kept (row := none) ⟨hb1.os, hb1.tape, hb1.output, hb1.size, fun k hk _ => hb1.block k (by omega)⟩ (by simp)
  have hB : Below w.heap.size w w1 := ((Below.refl _ w).alloc (Nat.le_refl _) _).trans (hb1.mono (by simp))
  clear hb1 hs1 hgl hT
  go_wp2
  go_loopw [5] (fun x wr => ∃ (b n : Nat) (D : DataW Unit), x = .int .i64 b ∧ b ≤ s.size ∧ (b = s.size ∨ Bd s s.size b) ∧ n + b ≤ s.size ∧ wr.ownsMap Try.prog 2 (plainElem Try.prog 4) w.heap.size n D ∧ KeysAt s b D ∧
      wr.ownsRow (w.heap.size + 1) 3 1 (.slice (some ⟨g, 0, none⟩) (s.size + 1) (s.size + 1)) (s.size + 1) (iv zs) ∧ Below w.heap.size w wr) (fun x _ => (intOf x).toNat)
  case atStart => exact ⟨s.size, 0, .map [], rfl, Nat.le_refl _, .inl rfl, by omega, hmap, KeysAt.start s, by simpa using hown, hB⟩
  case round =>
    obtain ⟨b, n, D, rfl, hbs, hbd, hnb, hmp, hK, howr, hBr⟩ := hrel
    clear hmap hB hown
    by_cases hb0 : 0 < b
    · obtain ⟨c, hc, hlb⟩ := tab_cell (k := b) howr HT.out (by omega) (by omega)
      have hput := hK.put hbd hb0 hlb hs
      have hcb : c < b := (hlb.bd hb0).1.1
      have PUT := Lib.hid hput
      have b0 : (0 : Int) < (b : Int) := by omega
      have b1 : (b : Int) < (s.size : Int) + 1 := by omega
      have hwf : (Lit.int .i64 ((s.size : Int) - c)).wf = true := WalkArith.wf_i64 (by omega)
      clear hput hK hbd hlb
      go_wp2_with (first | (at_mapUpdate; refine wpList_mapUpdate_own _ rfl _ _ _ 45 rfl 2 4 keyed64 Try.underlying45 _ w.heap.size n D rfl hmp (by unfold maxLen; omega) _ _ _ rfl rfl (keyOf_int_mk Try.underlying2 hwf) (.lit (.bool true)) [] (plainElem_bool Try.underlying4 true) ?_))
      intro w2 hmp2 hgr2
      have how2 := howr.kept hgr2 (.inr (by simp [Value.ownBlock]; omega))
      have hc2 : w2.cell? ⟨g, b, none⟩ = some (.int .i64 c) := hgr2.cell hc (by simp; omega)
      have hB2 : Below w.heap.size w w2 := hBr.grown hgr2 hBr.size (fun q hq => by cases hq; exact Nat.le_refl _)
      clear hgr2 howr hBr hmp hc
      go_wp2
      go_roundw
      case rel => exact ⟨c, n + 1, _, rfl, by omega, .inr PUT.out.2, by omega, hmp2, PUT.out.1, how2, hB2⟩
      case measure => simp [intOf]; omega
    · obtain rfl : b = 0 := by omega
      have HK := Lib.hid hK
      clear hK hbd
      go_wp2
      go_ret
      exact ⟨_, n, D, rfl, ⟨hmp, Nat.le_refl _, by omega, HK.out⟩, hBr⟩
end Go.Proofs.Ytdfdeppfhadopaa
