/-
  The walk of impl.measured at the join of depths.
-/
import Derived.Test.YtlkjceolddccbaaMeasD
import Derived.Laws.EntriesVeiled
namespace Go.Proofs.Ytlkjceolddccbaa.dep
open Go.RowKit
open Wd
set_option linter.unusedVariables false

theorem made_inv {w w1 : World} {B : Nat} {gs : List Rl} {A : Option Addr} {c n t1 t2 t3 t4 : Nat} (V : Nat → Int) (hn : n = gs.length) (hBs : B ≤ w.heap.size)
    (hr : gs = [] ∨ ∃ g, A = some ⟨g, 0, none⟩ ∧ g < B ∧ ∀ j u, (rv gs)[j]? = some u → w.cell? ⟨g, j, none⟩ = some u)
    (hown : w1.ownsRow w.heap.size 2 1 (.slice (some ⟨w.heap.size + 1 + 1, 0, none⟩) n n) n (iv (List.replicate n 0)))
    (hg : ((w.alloc (.cells #[.slice A n c] t1)).alloc (.cells #[joinV] t2)).grownBy w1 none) :
    w.heap.size + 1 + 1 < w1.heap.size ∧ Below w.heap.size w ((w1.alloc (.cells #[.slice (some ⟨w.heap.size + 1 + 1, 0, none⟩) n n] t3)).alloc (.cells #[measV w1.heap.size w.heap.size (w.heap.size + 1) (w1.heap.size + 1)] t4)) ∧
    MInv B w1.heap.size w.heap.size (w.heap.size + 1) (w1.heap.size + 1) (w.heap.size + 1 + 1) joinV gs V ((w1.alloc (.cells #[.slice (some ⟨w.heap.size + 1 + 1, 0, none⟩) n n] t3)).alloc (.cells #[measV w1.heap.size w.heap.size (w.heap.size + 1) (w1.heap.size + 1)] t4)) := by
  have hlt : w.heap.size + 1 + 1 < w1.heap.size := (hown.lt _ rfl).2
  have hB1 := below_of_grown hg
  have hBw : Below w.heap.size w w1 := (((Below.refl _ w).alloc (Nat.le_refl _) _).alloc (by simp) _).trans (hB1.mono (by simp; omega))
  obtain ⟨o1, ho1⟩ : ∃ o1, o1 = Obj.cells #[.slice (some ⟨w.heap.size + 1 + 1, 0, none⟩) n n] t3 := ⟨_, rfl⟩
  obtain ⟨o2, ho2⟩ : ∃ o2, o2 = Obj.cells #[measV w1.heap.size w.heap.size (w.heap.size + 1) (w1.heap.size + 1)] t4 := ⟨_, rfl⟩
  have hBf : Below w1.heap.size w1 ((w1.alloc o1).alloc o2) := ((Below.refl _ w1).alloc (Nat.le_refl _) _).alloc (by simp) _
  have c1 : ((w1.alloc o1).alloc o2).cell? ⟨w1.heap.size, 0, none⟩ = some (.slice (some ⟨w.heap.size + 1 + 1, 0, none⟩) n n) := by
    rw [((Below.refl _ (w1.alloc o1)).alloc (Nat.le_refl _) o2).cell (p := ⟨w1.heap.size, 0, none⟩) (by simp), ho1]; exact cell_new _ _ _
  have c2 : ((w1.alloc o1).alloc o2).cell? ⟨w1.heap.size + 1, 0, none⟩ = some (measV w1.heap.size w.heap.size (w.heap.size + 1) (w1.heap.size + 1)) := by
    have := cell_new (w1.alloc o1) (measV w1.heap.size w.heap.size (w.heap.size + 1) (w1.heap.size + 1)) t4
    rw [ho2]
    simp at this ⊢
  have c3 : ((w1.alloc o1).alloc o2).cell? ⟨w.heap.size, 0, none⟩ = some (.slice A n c) := by
    rw [hBf.cell (p := ⟨w.heap.size, 0, none⟩) (by simp; omega), hB1.cell (p := ⟨w.heap.size, 0, none⟩) (by simp; omega), ((Below.refl _ (w.alloc _)).alloc (Nat.le_refl _) _).cell (p := ⟨w.heap.size, 0, none⟩) (by simp)]; exact cell_new _ _ _
  have c4 : ((w1.alloc o1).alloc o2).cell? ⟨w.heap.size + 1, 0, none⟩ = some joinV := by
    rw [hBf.cell (p := ⟨w.heap.size + 1, 0, none⟩) (by simp; omega), hB1.cell (p := ⟨w.heap.size + 1, 0, none⟩) (by simp)]
    have := cell_new (w.alloc (.cells #[.slice A n c] t1)) joinV t2
    simp at this ⊢
  have hBa := hBw.trans (hBf.mono (by omega))
  have hoF := own_below (own_below hown ((Below.refl _ w1).alloc (Nat.le_refl _) o1) (Nat.le_refl _)) ((Below.refl _ (w1.alloc o1)).alloc (Nat.le_refl _) o2) (Nat.le_refl _)
  rw [← ho1, ← ho2]
  refine ⟨hlt, hBa, ⟨by rw [← hn]; exact c1, ⟨_, c3, A, c, by rw [hn], ?_⟩, c4, c2, by omega, by omega, by omega, by omega, by omega, Nat.le_trans hBs hBa.size⟩, List.replicate n 0, by simp [hn], MemOk.zero _ _, by rw [← hn]; exact own_lower hoF hBs⟩
  rcases hr with hr | ⟨g, hA, hg', hc⟩
  · exact .inl hr
  · exact .inr ⟨g, hA, hg', fun j u hu => (hBa.cell (p := ⟨g, j, none⟩) (Nat.lt_of_lt_of_le hg' hBs)).trans (hc j u hu)⟩
theorem made_i64 (n : Nat) : (madeCells #[.int .i64 0] n).toList = iv (List.replicate n 0) := by
  apply List.ext_getElem
  · simp [madeCells, iv]
  · intro i h1 h2
    simp [madeCells, iv, Nat.mod_one]

set_option maxRecDepth 100000 in
set_option maxHeartbeats 3200000 in
/-- impl.measured at the join of lengths -/
theorem measured_any (B : Nat) (v : Value) (gs : List Rl) (w : World) (hn : gs.length ≤ 1048576) (hBs : B ≤ w.heap.size) (hr : RulesU B w v gs) :
    Calls Try.prog 99 #[v, joinV] w fun e w' => ∃ bm br bj bf M, e = .returned (measV bm br bj bf) ∧ (w.heap.size ≤ bm ∧ w.heap.size ≤ br ∧ w.heap.size ≤ bj ∧ w.heap.size ≤ bf ∧ w.heap.size ≤ M) ∧ MInv B bm br bj bf M joinV gs (depV gs) w' ∧ Below w.heap.size w w' := by
  obtain ⟨i0, hi, hz0, hz1, hz2⟩ := info_parts Try.info_i64
  obtain ⟨A, c, rfl, hr⟩ := hr
  obtain ⟨n, hng⟩ : ∃ n, n = gs.length := ⟨_, rfl⟩
  rw [← hng] at hn ⊢
  have HN := Lib.hid hng
  have HR := Lib.hid hr
  have HBS := Lib.hid hBs
  clear hng hr hBs
  go_enter Try.func99, Try.ntmps99
  go_wp2_with (refine wpList_make_full _ rfl _ _ 53 rfl w.heap.size 2 i0 (.int .i64 0) 1 Try.underlying53 hi hz0 hz1 .i64 .i64 _ _ n rfl rfl rfl rfl (by rw [hz2]; omega) (by unfold maxLen; omega) (by simp; omega) ?_)
  intro w1 hown hg
  rw [made_i64] at hown
  have hm := made_inv (t3 := 53) (t4 := 75) (depV gs) HN.out HBS.out HR.out hown hg
  have HM := Lib.hid hm
  clear hown hg hm
  go_wp2
  go_ret
  obtain ⟨h1, h2, h3⟩ := HM.out
  exact ⟨_, _, _, _, _, rfl, ⟨by omega, by omega, by omega, by omega, by omega⟩, h3, h2⟩

theorem depthsOf_any (B : Nat) (v : Value) (gs : List Rl) (w : World) (hn : gs.length ≤ 1048576) (hBs : B ≤ w.heap.size) (hr : RulesU B w v gs) :
    Calls Try.prog 60 #[v] w fun e w' => ∃ bm br bj bf M, e = .returned (measV bm br bj bf) ∧ (w.heap.size ≤ bm ∧ w.heap.size ≤ br ∧ w.heap.size ≤ bj ∧ w.heap.size ≤ bf ∧ w.heap.size ≤ M) ∧ MInv B bm br bj bf M joinV gs (depV gs) w' ∧ Below w.heap.size w w' := by
  have HC := Lib.hid (measured_any B v gs w hn hBs hr)
  obtain ⟨A, c, rfl, _⟩ := hr
  go_enter Try.func60, Try.ntmps60
  go_wp2_with fail
  refine HC.out.mono ?_
  rintro e w1 ⟨bm, br, bj, bf, M, rfl, h1, h2, h3⟩
  go_wp2_with fail
  go_ret
  exact ⟨bm, br, bj, bf, M, rfl, h1, h2, h3⟩
end Go.Proofs.Ytlkjceolddccbaa.dep
