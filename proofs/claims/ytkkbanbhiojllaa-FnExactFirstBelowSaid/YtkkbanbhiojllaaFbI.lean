/-
  Walk: impl.FirstBelow.
-/
import Derived.Test.YtkkbanbhiojllaaClH
namespace Go.Proofs.Ytkkbanbhiojllaa
open Go.RowKit
open Wd
set_option linter.unusedVariables false
set_option maxRecDepth 100000 in
set_option maxHeartbeats 3200000 in
theorem implFirstBelow (v wv : Value) (gs : List Rl) (zs : List Int) (B : Int) (w : World) (hf : FewR gs) (hr : Rules w v gs) (hm : zs.length ≤ 1048576) (hz : IW w wv zs) (hn : -9223372036854775808 ≤ B ∧ B ≤ 9223372036854775807) :
    Calls Try.prog 24 #[.agg #[v], wv, .int .i64 B] w fun e w' => e = .returned (.tuple #[.int .i64 (belowG gs zs B).1, .int .i64 (belowG gs zs B).2]) ∧ Below w.heap.size w w' := by
  have hb1 := (Below.refl _ w).alloc (Nat.le_refl _) (.cells #[v] 33)
  have hb2 := (Below.refl _ (w.alloc (.cells #[v] 33))).alloc (Nat.le_refl _) (.cells #[.int .i64 B] 2)
  have hb := hb1.trans (hb2.mono (by simp))
  have h1 := climbFold_any v wv gs zs _ hf (hr.kept hb) hm (hz.kept hb)
  have H1 := Lib.hid h1
  have HB := Lib.hid hb
  have HRU := Lib.hid (fun W (hb : Below w.heap.size w W) => hr.kept hb)
  have hg0 : ((w.alloc (.cells #[v] 33)).alloc (.cells #[.int .i64 B] 2)).cell? ⟨w.heap.size, 0, none⟩ = some v := (hb2.cell (p := ⟨w.heap.size, 0, none⟩) (by simp)).trans (cell_new _ _ _)
  have hc0 : ((w.alloc (.cells #[v] 33)).alloc (.cells #[.int .i64 B] 2)).cell? ⟨w.heap.size + 1, 0, none⟩ = some (.int .i64 B) := by
    have := cell_new (w.alloc (.cells #[v] 33)) (.int .i64 B) 2
    rwa [show (w.alloc (.cells #[v] 33)).heap.size = w.heap.size + 1 from by simp] at this
  have HC0 := Lib.hid hc0
  obtain ⟨A, c, rfl, _⟩ := hr
  unfold belowG
  cases hk : gOk gs && wOkB zs
  · rw [if_neg (by simp)]
    have HK := Lib.hid hk
    obtain ⟨cd, hcd⟩ : ∃ cd : Int, cd = if gOk gs then 2 else 1 := ⟨_, rfl⟩
    have hne : (cd != 0) = true := by rw [hcd]; cases gOk gs <;> rfl
    rw [show wCode (gOk gs) (wOkB zs) = cd from by rw [hcd]; unfold wCode; rw [hk]; rfl]
    have HCD := Lib.hid hcd
    clear hb hb1 hb2 h1 hz hk hcd hc0
    go_enter Try.func24, Try.ntmps24
    go_wp2_with fail
    refine H1.out.mono ?_
    rintro e w1 hp
    obtain ⟨_, _, k1, k2, _⟩ | ⟨_, rfl, hB1⟩ := hp
    · have := HK.out; rw [k1, k2] at this; simp at this
    rw [← HCD.out]
    have HB1 := Lib.hid (HB.out.trans (hB1.mono HB.out.size))
    have HE : Hid (∀ o, Below w.heap.size w (w1.alloc o)) := Lib.hid (fun o => HB1.out.alloc HB1.out.size o)
    clear hB1
    go_wp2_with fail
    go_ret2
    exact ⟨rfl, HE.out _⟩
  · rw [if_pos rfl]
    have HK := Lib.hid hk
    obtain ⟨hok, hwb⟩ : gOk gs = true ∧ wOkB zs = true := by simpa using hk
    have hwo := wOkB_ok hwb
    have HSH := Lib.hid (fun fv lo bw W (hb : Below w.heap.size w W) (h : IsCl W lo bw zs fv (.slice A gs.length c) gs) (hc : W.cell? ⟨w.heap.size + 1, 0, none⟩ = some (.int .i64 B)) => clShort_any fv _ gs B (w.heap.size + 1) lo bw zs W hwo hok (HRU.out W hb) h hc)
    obtain ⟨X, hX⟩ : ∃ X, X = shortB zs gs B := ⟨_, rfl⟩
    have hG : (if 0 < B then ((0 : Int), (0 : Int)) else if B ≤ (clWh zs gs).getD 1 0 then (0, 6) else (fbF zs gs B gs.length (gs.length - 1) 0 + 1, 0)) = (if X.2 = true then (X.1, 0) else (0, 6)) := by
      rw [hX]
      unfold shortB
      split
      · rfl
      · split
        · rfl
        · rfl
    rw [hG]
    rw [← hX] at HSH
    obtain ⟨x0, xb⟩ := X
    simp only at HSH
    clear hb hb1 hb2 h1 hz hk hok hwb hwo hn hX hG
    cases xb
    · rw [if_neg (by simp)]
      go_enter Try.func24, Try.ntmps24
      go_wp2_with fail
      refine H1.out.mono ?_
      rintro e w1 hp
      obtain ⟨fv, bw, _, _, rfl, hy, hB1⟩ | ⟨k1, _⟩ := hp
      rotate_left
      · have := HK.out; rw [k1] at this; simp at this
      obtain ⟨A1, c1, A2, c2, he, _, _⟩ := hy.shape
      injection he with he
      subst he
      have HB1 := Lib.hid (HB.out.trans (hB1.mono HB.out.size))
      have hb3 := (Below.refl _ w1).alloc (Nat.le_refl _) (.cells (clAll bw (.slice A gs.length c) (.slice A1 gs.length c1) (.slice A2 gs.length c2)) 67)
      have HY3 := Lib.hid (hy.kept hb3)
      have HB3 := Lib.hid (HB1.out.trans (hb3.mono HB1.out.size))
      have HC1 := Lib.hid ((hB1.cell (lt_of_cell HC0.out)).trans HC0.out)
      have HC3 := Lib.hid ((hb3.cell (lt_of_cell HC1.out)).trans HC1.out)
      clear hB1 hy hb3 hc0 hg0
      go_wp2_with fail
      refine (HSH.out _ _ _ _ HB3.out HY3.out HC3.out).mono ?_
      rintro e w3 ⟨rfl, hB4⟩
      have HB4 := Lib.hid (HB3.out.trans (hB4.mono HB3.out.size))
      clear hB4
      go_wp2_with fail
      go_ret2
      exact ⟨rfl, HB4.out⟩
    · rw [if_pos rfl]
      go_enter Try.func24, Try.ntmps24
      go_wp2_with fail
      refine H1.out.mono ?_
      rintro e w1 hp
      obtain ⟨fv, bw, _, _, rfl, hy, hB1⟩ | ⟨k1, _⟩ := hp
      rotate_left
      · have := HK.out; rw [k1] at this; simp at this
      obtain ⟨A1, c1, A2, c2, he, _, _⟩ := hy.shape
      injection he with he
      subst he
      have HB1 := Lib.hid (HB.out.trans (hB1.mono HB.out.size))
      have hb3 := (Below.refl _ w1).alloc (Nat.le_refl _) (.cells (clAll bw (.slice A gs.length c) (.slice A1 gs.length c1) (.slice A2 gs.length c2)) 67)
      have HY3 := Lib.hid (hy.kept hb3)
      have HB3 := Lib.hid (HB1.out.trans (hb3.mono HB1.out.size))
      have HC1 := Lib.hid ((hB1.cell (lt_of_cell HC0.out)).trans HC0.out)
      have HC3 := Lib.hid ((hb3.cell (lt_of_cell HC1.out)).trans HC1.out)
      clear hB1 hy hb3 hc0 hg0
      go_wp2_with fail
      refine (HSH.out _ _ _ _ HB3.out HY3.out HC3.out).mono ?_
      rintro e w3 ⟨rfl, hB4⟩
      have HB4 := Lib.hid (HB3.out.trans (hB4.mono HB3.out.size))
      clear hB4
      go_wp2_with fail
      go_ret2
      exact ⟨rfl, HB4.out⟩
end Go.Proofs.Ytkkbanbhiojllaa
