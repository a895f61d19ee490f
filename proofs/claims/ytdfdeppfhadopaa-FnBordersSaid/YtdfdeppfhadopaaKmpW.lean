/-
  Walk: impl.longestBorders.
-/
import Derived.Test.YtdfdeppfhadopaaIntsM
import Derived.Test.YtdfdeppfhadopaaKmp
import Derived.Outline
namespace Go.Proofs.Ytdfdeppfhadopaa
open Go.RowKit
open Wd
set_option linter.unusedVariables false

theorem Try.info_int : (Try.prog.info? 3).map (fun i => (i.zero, i.size, i.bytes)) = some (some (.int .i64 0), 1, 8) := by kernel_rfl

/-- numbers as cells of ints -/
theorem iv_set' (zs : List Int) (j : Nat) (x : Int) : (iv zs).set j (.int .i64 x) = iv (zs.set j x) := by
  simp [iv, List.map_set]

/-- the table up to the place e -/
def Tab (s : ByteArray) (zs : List Int) (e : Nat) : Prop := zs.length = s.size + 1 ∧ ∀ k, k ≤ e → k ≤ s.size → ∃ m : Nat, zs[k]? = some (m : Int) ∧ Lb s k m
theorem Tab.start (s : ByteArray) : Tab s (List.replicate (s.size + 1) 0) 1 := by
  refine ⟨by simp, fun k hk hs => ⟨0, ?_, ?_⟩⟩
  · simp [List.getElem?_replicate]; omega
  · rcases (show k = 0 ∨ k = 1 by omega) with rfl | rfl
    · exact Lb.nil s
    · exact Lb.one s
theorem Tab.put {s : ByteArray} {zs : List Int} {e m : Nat} (h : Tab s zs e) (he : e < s.size) (hm : Lb s (e + 1) m) : Tab s (zs.set (e + 1) m) (e + 1) := by
  refine ⟨by simpa using h.1, fun k hk hs => ?_⟩
  by_cases hke : k = e + 1
  · subst hke
    exact ⟨m, by rw [List.getElem?_set_self (by rw [h.1]; omega)], hm⟩
  · obtain ⟨m', h1, h2⟩ := h.2 k (by omega) hs
    exact ⟨m', by rw [List.getElem?_set_ne (by omega)]; exact h1, h2⟩


/-- what holds between two rounds of the outer loop -/
def KmpRel (s : ByteArray) (w : World) (g : Nat) (i : Value) (wr : World) : Prop :=
  ∃ (e : Nat) (zs : List Int), i = .int .i64 e ∧ 1 ≤ e ∧ e ≤ s.size + 1 ∧ wr.ownsRow w.heap.size 3 1 (.slice (some ⟨g, 0, none⟩) (s.size + 1) (s.size + 1)) (s.size + 1) (iv zs) ∧ Tab s zs e ∧ Below w.heap.size w wr

theorem KmpRel.put {s : ByteArray} {w wr : World} {g e m : Nat} {zs : List Int} (hown : wr.ownsRow w.heap.size 3 1 (.slice (some ⟨g, 0, none⟩) (s.size + 1) (s.size + 1)) (s.size + 1) (iv zs)) (hT : Tab s zs e) (hB : Below w.heap.size w wr)
    (he : e < s.size) (hm : Lb s (e + 1) m) (hg : w.heap.size ≤ g) : KmpRel s w g (.int .i64 ((e + 1 : Nat) : Int)) (wr.setCell ⟨g, e + 1, none⟩ (.int .i64 m)) := by
  have hst := hown.stored (e + 1) (.int .i64 m)
  rw [iv_set'] at hst
  exact ⟨e + 1, zs.set (e + 1) m, rfl, by omega, by omega, hst.1, hT.put he hm, hB.setCell (p := ⟨g, e + 1, none⟩) hg _⟩

theorem tab_cell {s : ByteArray} {wr : World} {B : Nat} {g e k : Nat} {zs : List Int} (hown : wr.ownsRow B 3 1 (.slice (some ⟨g, 0, none⟩) (s.size + 1) (s.size + 1)) (s.size + 1) (iv zs)) (hT : Tab s zs e) (hk : k ≤ e) (hs : k ≤ s.size) :
    ∃ m : Nat, wr.cell? ⟨g, k, none⟩ = some (.int .i64 m) ∧ Lb s k m := by
  obtain ⟨m, h1, h2⟩ := hT.2 k hk hs
  exact ⟨m, by rw [hown.cellAt k (by omega)]; simp [iv, h1], h2⟩
theorem tab_any {s : ByteArray} {wr : World} {B : Nat} {g e k : Nat} {zs : List Int} (hown : wr.ownsRow B 3 1 (.slice (some ⟨g, 0, none⟩) (s.size + 1) (s.size + 1)) (s.size + 1) (iv zs)) (hT : Tab s zs e) (hs : k ≤ s.size) :
    ∃ x : Int, wr.cell? ⟨g, k, none⟩ = some (.int .i64 x) := by
  have : k < zs.length := by rw [hT.1]; omega
  exact ⟨zs[k], by rw [hown.cellAt k (by omega)]; simp [iv, this]⟩

set_option maxRecDepth 100000 in
set_option maxHeartbeats 3200000 in
theorem implLongest (s : ByteArray) (w : World) (hs : s.size ≤ 2000) :
    Calls Try.prog 31 #[.string s] w fun e w' => ∃ g zs, e = .returned (.slice (some ⟨g, 0, none⟩) (s.size + 1) (s.size + 1)) ∧ w'.ownsRow w.heap.size 3 1 (.slice (some ⟨g, 0, none⟩) (s.size + 1) (s.size + 1)) (s.size + 1) (iv zs) ∧
      Tab s zs s.size ∧ Below w.heap.size w w' := by
  obtain ⟨i0, hi, hz0, hz1, hz2⟩ := info_parts Try.info_int
  go_enter Try.func31, Try.ntmps31
  go_wp2_with (first | (at_make; refine wpList_make_full _ rfl _ _ 60 rfl w.heap.size 3 i0 (.int .i64 0) 1 Try.underlying60 hi hz0 hz1 _ _ _ _ (s.size + 1) rfl rfl ?c1 ?c2 ?c3 ?c4 ?c5 ?_))
  case c1 => omega
  case c2 => omega
  case c3 => rw [hz2]; omega
  case c4 => unfold maxLen; omega
  case c5 => exact Nat.le_refl _
  intro w1 hown1 hgr1
  have hB1 : Below w.heap.size w w1 := (Below.refl _ w).grown hgr1 (Nat.le_refl _) (fun k hk => by cases hk)
  have hstart : KmpRel s w w.heap.size (.int .i64 1) w1 := by
    rw [toList_madeCells_one] at hown1
    exact ⟨1, List.replicate (s.size + 1) 0, rfl, Nat.le_refl _, by omega, by simpa [iv] using hown1, Tab.start s, hB1⟩
  have HST := Lib.hid hstart
  clear hstart hB1 hgr1 hown1
  go_wp2
  go_loopw [4, 5] (fun i _ wr => KmpRel s w w.heap.size i wr) (fun i _ _ => s.size - (intOf i).toNat)
  case atStart => exact HST.out
  case round =>
    obtain ⟨e, zs, rfl, he1, he2, hown, hT, hB⟩ := hrel
    obtain ⟨wo, rfl⟩ : ∃ wo : World, wo = wr := ⟨_, rfl⟩
    clear HST
    by_cases hlt : e < s.size
    · obtain ⟨m0, hc0, hm0⟩ := tab_cell hown hT (Nat.le_refl e) (by omega)
      have hin0 := Lib.hid (In.start hm0 (by omega))
      have e0 : (0 : Int) ≤ (e : Int) := by omega
      have e3 : (e : Int) < (s.size : Int) + 1 := by omega
      clear hm0
      go_wp2
      go_loopw [5] (fun v wi => ∃ m : Nat, v = .int .i64 m ∧ In s e m ∧ Drawn wo wi) (fun v _ => (intOf v).toNat)
      case atStart => exact ⟨m0, rfl, hin0.out, Drawn.refl _⟩
      case round =>
        obtain ⟨m, rfl, hin, hD⟩ := hrel
        clear hin0 hc0
        have hme : m < e := hin.1.1
        have hms : m < s.size := by omega
        have hownr : wr.ownsRow w.heap.size 3 1 (.slice (some ⟨w.heap.size, 0, none⟩) (s.size + 1) (s.size + 1)) (s.size + 1) (iv zs) := by obtain ⟨q, rfl⟩ := hD; exact hown
        have hBr : Below w.heap.size w wr := hB.trans (hD.below _)
        have hput := fun (q x : Nat) (hx : Lb s (e + 1) x) => KmpRel.put (wr := wr.drewN q) (m := x) hownr hT (below_drewN hBr q) hlt hx (Nat.le_refl _)
        obtain ⟨old, hco⟩ := tab_any (k := e + 1) hownr hT (by omega)
        have hfo : wr.frozen? ⟨w.heap.size, e + 1, none⟩ = false := hownr.frozenAt (e + 1)
        have PUT := Lib.hid hput
        have IN := Lib.hid hin
        have g1 : at0 s m = s[m] := at0_get hms
        have g2 : at0 s e = s[e] := at0_get hlt
        have G1 := Lib.hid g1
        have G2 := Lib.hid g2
        have e4 : (e : Int) + 1 < (s.size : Int) + 1 := by omega
        clear hput hin g1 g2
        by_cases hm : 0 < m
        · have p1 : (0 : Int) < (m : Int) := by omega
          have hm1 : (m : Int) < (s.size : Int) + 1 := by omega
          by_cases hx : s[m] = s[e]
          · have hlb := Lib.hid ((IN.out).hit (by rw [G1.out, G2.out]; exact hx))
            have t1 : ((s[m].toNat : Int) == (s[e].toNat : Int)) = true := by rw [hx]; simp
            have t2 : ((s[m].toNat : Int) != (s[e].toNat : Int)) = false := by rw [hx]; simp
            clear hx hown hownr hB hBr hT hD
            go_wp2
            go_quiet (fail)
            go_wp2
            go_quiet (fail)
            go_wp2
            go_roundw
            case rel => exact PUT.out _ _ hlb.out
            case measure => simp [intOf]; omega
          · obtain ⟨m', hc', hm'⟩ := tab_cell (k := m) hownr hT (by omega) (by omega)
            have hst := Lib.hid ((IN.out).step hm (by rw [G1.out, G2.out]; exact hx) hm')
            have hne : (s[m].toNat : Int) ≠ (s[e].toNat : Int) := fun h => hx (UInt8.toNat_inj.1 (by omega))
            have t1 : ((s[m].toNat : Int) == (s[e].toNat : Int)) = false := by rw [beq_eq_false_iff_ne]; exact hne
            have t2 : ((s[m].toNat : Int) != (s[e].toNat : Int)) = true := by rw [bne_iff_ne]; exact hne
            have hlt' : m' < m := (hm'.bd hm).1.1
            clear hx hown hownr hB hBr hT hm' hne
            go_wp2
            go_quiet (fail)
            go_wp2
            go_roundw
            case rel => exact ⟨m', rfl, hst.out, hD.drewN _⟩
            case measure => simp [intOf]; omega
        · obtain rfl : m = 0 := by omega
          by_cases hx : s[0] = s[e]
          · have hlb := Lib.hid ((IN.out).hit (by rw [G1.out, G2.out]; exact hx))
            have t1 : ((s[0].toNat : Int) == (s[e].toNat : Int)) = true := by rw [hx]; simp
            clear hx hown hownr hB hBr hT hD
            go_wp2
            go_quiet (fail)
            go_wp2
            go_quiet (fail)
            go_wp2
            go_roundw
            case rel => exact PUT.out _ _ hlb.out
            case measure => simp [intOf]; omega
          · have hlb := Lib.hid ((IN.out).miss (by rw [G1.out, G2.out]; exact hx))
            have hne : (s[0].toNat : Int) ≠ (s[e].toNat : Int) := fun h => hx (UInt8.toNat_inj.1 (by omega))
            have t1 : ((s[0].toNat : Int) == (s[e].toNat : Int)) = false := by rw [beq_eq_false_iff_ne]; exact hne
            clear hx hown hownr hB hBr hT hD hne
            go_wp2
            go_quiet (fail)
            go_wp2
            go_quiet (fail)
            go_wp2
            go_roundw
            case rel => exact PUT.out _ _ hlb.out
            case measure => simp [intOf]; omega
    · have hT' : Tab s zs s.size := ⟨hT.1, fun k hk hs => hT.2 k (by omega) hs⟩
      have HT := Lib.hid hT'
      clear hT' hT
      go_wp2
      go_ret
      exact ⟨_, zs, rfl, hown, HT.out, hB⟩
end Go.Proofs.Ytdfdeppfhadopaa
