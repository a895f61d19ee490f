/-
  Walks: impl.EmbeddedStart, impl.EmbedFirst.
-/
import Derived.Test.YtlkjceolddccbaaEmI
import Derived.Test.YtlkjceolddccbaaEmT
namespace Go.Proofs.Ytlkjceolddccbaa
open Go.RowKit
open Wd
set_option linter.unusedVariables false
set_option maxRecDepth 100000 in
set_option maxHeartbeats 3200000 in
theorem implEmbeddedStart (v : Value) (gs : List Rl) (s : ByteArray) (w : World) (hf : FewR gs) (hr : Rules w v gs) (hs : s.size ≤ maxLen) :
    Calls Try.prog 38 #[.agg #[v], .string s] w fun e w' => e = .returned (.tuple #[.int .i64 (embStG gs s).1, .int .i64 (embStG gs s).2]) ∧ Below w.heap.size w w' := by
  have hb := (Below.refl _ w).alloc (Nat.le_refl _) (.cells #[v] 30)
  have h1 := letterFold_any v gs _ hf (hr.kept hb)
  have HSO := Lib.hid (fun W => implOk s W hs)
  have HB := Lib.hid hb
  have HRU := Lib.hid (fun W (hb : Below w.heap.size w W) => hr.kept hb)
  obtain ⟨A, c, rfl, _⟩ := hr
  unfold embStG
  cases hok : gOk gs
  · rw [hok] at h1
    rw [Bool.false_and, if_neg (by simp)]
    have H1 := Lib.hid h1
    clear h1 hok hb
    go_enter Try.func38, Try.ntmps38
    go_wp2_with fail
    refine H1.out.mono ?_
    rintro e w1 ⟨fv, rfl, _, hz, hB1⟩
    obtain rfl := hz trivial
    have HB1 := Lib.hid (HB.out.trans (hB1.mono (by simp)))
    clear hB1 hz
    go_wp2_with fail
    go_ret2
    exact ⟨rfl, HB1.out.alloc HB1.out.size _⟩
  · rw [hok] at h1
    have H1 := Lib.hid h1
    have HOK := Lib.hid hok
    cases hl : okL s.data.toList
    · rw [hl] at HSO
      rw [Bool.and_false, if_neg (by simp)]
      clear h1 hok hl hb
      go_enter Try.func38, Try.ntmps38
      go_wp2_with fail
      refine H1.out.mono ?_
      rintro e w1 ⟨fv, rfl, hy, _, hB1⟩
      obtain ⟨A1, c1, A2, c2, he, _, _⟩ := (hy trivial).shape
      injection he with he
      subst he
      have HB1 := Lib.hid (HB.out.trans (hB1.mono (by simp)))
      clear hB1 hy
      go_wp2_with fail
      refine (HSO.out _).mono ?_
      rintro e w2 ⟨rfl, rfl⟩
      go_wp2_with fail
      go_ret2
      exact ⟨rfl, HB1.out.alloc HB1.out.size _⟩
    · rw [hl] at HSO
      rw [Bool.and_self, if_pos rfl]
      have HEM : Hid (∀ fv W, IsTa W (w.heap.size + 1) fv (.slice A gs.length c) gs → Below w.heap.size w W → Calls Try.prog 82 #[fv, .string s] W fun e w' => ∃ y, e = .returned y ∧ OwnsI w' W.heap.size y (embL gs s.data.toList 0) ∧ Below W.heap.size W w') := Lib.hid (fun fv W h hb => embedded_any fv _ gs s _ W hok (HRU.out W hb) h hl)
      generalize embL gs s.data.toList 0 = E at *
      clear h1 hok hl hb
      obtain ⟨d, hu, hd⟩ := und_taFold
      have HU := Lib.hid (And.intro hu hd)
      clear hu hd
      go_enter Try.func38, Try.ntmps38
      go_wp2_with fail
      refine H1.out.mono ?_
      rintro e w1 ⟨fv, rfl, hy, _, hB1⟩
      have hy := hy trivial
      have HY : Hid (IsTa w1 (w.heap.size + 1) (.agg fv) (.slice A gs.length c) gs) := Lib.hid (hy.lower (by simp))
      obtain ⟨A1, c1, A2, c2, he, _, _⟩ := hy.shape
      injection he with he
      subst he
      have HB1 := Lib.hid (HB.out.trans (hB1.mono (by simp)))
      clear hB1 hy
      go_wp2_with fail
      refine (HSO.out _).mono ?_
      rintro e w2 ⟨rfl, rfl⟩
      have hb3 := (Below.refl _ w1).alloc (Nat.le_refl _) (.cells (taAll (.slice A gs.length c) (.slice A1 gs.length c1) (.slice A2 gs.length c2)) 108)
      have hX3 := heap_alloc_new w1 (.cells (taAll (.slice A gs.length c) (.slice A1 gs.length c1) (.slice A2 gs.length c2)) 108)
      have HSF := Lib.hid (size_taFold (.slice A gs.length c) (.slice A1 gs.length c1) (.slice A2 gs.length c2))
      have HB3 := Lib.hid (HB1.out.trans (hb3.mono HB1.out.size))
      have HX3 := Lib.hid hX3
      have HEM3 := Lib.hid (HEM.out _ _ (HY.out.kept hb3) HB3.out)
      clear hb3 hX3
      go_wp2_with (with_reducible refine wpList_load_rowD HU.out.2 rfl 108 _ rfl w1.heap.size rfl 108 _ _ HX3.out HU.out.1 HSF.out ?_)
      refine HEM3.out.mono ?_
      rintro e w4 ⟨y, rfl, hyo, hB4⟩
      obtain ⟨Ay, cy, rfl⟩ := own_slice hyo
      have HB4 := Lib.hid (HB3.out.trans (hB4.mono HB3.out.size))
      clear hB4 hyo
      go_wp2_with fail
      go_ret2
      exact ⟨rfl, HB4.out⟩
set_option maxRecDepth 100000 in
set_option maxHeartbeats 3200000 in
theorem implEmbedFirst (v : Value) (gs : List Rl) (s : ByteArray) (w : World) (hf : FewR gs) (hr : Rules w v gs) (hs : s.size ≤ maxLen) :
    Calls Try.prog 40 #[.agg #[v], .string s] w fun e w' => ∃ y, e = .returned (.tuple #[y, .int .i64 (embFiG gs s).2]) ∧ OwnsI w' w.heap.size y (embFiG gs s).1 ∧ Below w.heap.size w w' := by
  have hb := (Below.refl _ w).alloc (Nat.le_refl _) (.cells #[v] 30)
  have h1 := letterFold_any v gs _ hf (hr.kept hb)
  have HSO := Lib.hid (fun W => implOk s W hs)
  have HB := Lib.hid hb
  have HRU := Lib.hid (fun W (hb : Below w.heap.size w W) => hr.kept hb)
  obtain ⟨A, c, rfl, _⟩ := hr
  unfold embFiG
  cases hok : gOk gs
  · rw [hok] at h1
    rw [Bool.false_and, if_neg (by simp)]
    have H1 := Lib.hid h1
    clear h1 hok hb
    go_enter Try.func40, Try.ntmps40
    go_wp2_with fail
    refine H1.out.mono ?_
    rintro e w1 ⟨fv, rfl, _, hz, hB1⟩
    obtain rfl := hz trivial
    have HB1 := Lib.hid (HB.out.trans (hB1.mono (by simp)))
    clear hB1 hz
    go_wp2_with fail
    go_ret2
    exact ⟨_, rfl, World.ownsRow_nil _ _ _ _, HB1.out.alloc HB1.out.size _⟩
  · rw [hok] at h1
    have H1 := Lib.hid h1
    have HOK := Lib.hid hok
    cases hl : okL s.data.toList
    · rw [hl] at HSO
      rw [Bool.and_false, if_neg (by simp)]
      clear h1 hok hl hb
      go_enter Try.func40, Try.ntmps40
      go_wp2_with fail
      refine H1.out.mono ?_
      rintro e w1 ⟨fv, rfl, hy, _, hB1⟩
      obtain ⟨A1, c1, A2, c2, he, _, _⟩ := (hy trivial).shape
      injection he with he
      subst he
      have HB1 := Lib.hid (HB.out.trans (hB1.mono (by simp)))
      clear hB1 hy
      go_wp2_with fail
      refine (HSO.out _).mono ?_
      rintro e w2 ⟨rfl, rfl⟩
      go_wp2_with fail
      go_ret2
      exact ⟨_, rfl, World.ownsRow_nil _ _ _ _, HB1.out.alloc HB1.out.size _⟩
    · rw [hl] at HSO
      rw [Bool.and_self, if_pos rfl]
      have HEM : Hid (∀ fv W, IsTa W (w.heap.size + 1) fv (.slice A gs.length c) gs → Below w.heap.size w W → Calls Try.prog 82 #[fv, .string s] W fun e w' => ∃ y, e = .returned y ∧ OwnsI w' W.heap.size y (embL gs s.data.toList 0) ∧ Below W.heap.size W w') := Lib.hid (fun fv W h hb => embedded_any fv _ gs s _ W hok (HRU.out W hb) h hl)
      generalize embL gs s.data.toList 0 = E at *
      by_cases hlt : E.length < s.size
      · rw [if_pos hlt]
        have t1 : (E.length : Int) < (s.size : Int) := by omega
        clear hlt
        clear h1 hok hl hb
        obtain ⟨d, hu, hd⟩ := und_taFold
        have HU := Lib.hid (And.intro hu hd)
        clear hu hd
        go_enter Try.func40, Try.ntmps40
        go_wp2_with fail
        refine H1.out.mono ?_
        rintro e w1 ⟨fv, rfl, hy, _, hB1⟩
        have hy := hy trivial
        have HY : Hid (IsTa w1 (w.heap.size + 1) (.agg fv) (.slice A gs.length c) gs) := Lib.hid (hy.lower (by simp))
        obtain ⟨A1, c1, A2, c2, he, _, _⟩ := hy.shape
        injection he with he
        subst he
        have HB1 := Lib.hid (HB.out.trans (hB1.mono (by simp)))
        clear hB1 hy
        go_wp2_with fail
        refine (HSO.out _).mono ?_
        rintro e w2 ⟨rfl, rfl⟩
        have hb3 := (Below.refl _ w1).alloc (Nat.le_refl _) (.cells (taAll (.slice A gs.length c) (.slice A1 gs.length c1) (.slice A2 gs.length c2)) 108)
        have hX3 := heap_alloc_new w1 (.cells (taAll (.slice A gs.length c) (.slice A1 gs.length c1) (.slice A2 gs.length c2)) 108)
        have HSF := Lib.hid (size_taFold (.slice A gs.length c) (.slice A1 gs.length c1) (.slice A2 gs.length c2))
        have HB3 := Lib.hid (HB1.out.trans (hb3.mono HB1.out.size))
        have HX3 := Lib.hid hX3
        have HEM3 := Lib.hid (HEM.out _ _ (HY.out.kept hb3) HB3.out)
        clear hb3 hX3
        go_wp2_with (with_reducible refine wpList_load_rowD HU.out.2 rfl 108 _ rfl w1.heap.size rfl 108 _ _ HX3.out HU.out.1 HSF.out ?_)
        refine HEM3.out.mono ?_
        rintro e w4 ⟨y, rfl, hyo, hB4⟩
        have HO4 : Hid (OwnsI w4 w.heap.size y E) := Lib.hid (own_lower hyo HB3.out.size)
        obtain ⟨Ay, cy, rfl⟩ := own_slice hyo
        have HB4 := Lib.hid (HB3.out.trans (hB4.mono HB3.out.size))
        clear hB4 hyo
        go_wp2_with fail
        go_ret2
        exact ⟨_, rfl, World.ownsRow_nil _ _ _ _, HB4.out⟩
      · rw [if_neg hlt]
        have t1 : ¬ (E.length : Int) < (s.size : Int) := by omega
        clear hlt
        clear h1 hok hl hb
        obtain ⟨d, hu, hd⟩ := und_taFold
        have HU := Lib.hid (And.intro hu hd)
        clear hu hd
        go_enter Try.func40, Try.ntmps40
        go_wp2_with fail
        refine H1.out.mono ?_
        rintro e w1 ⟨fv, rfl, hy, _, hB1⟩
        have hy := hy trivial
        have HY : Hid (IsTa w1 (w.heap.size + 1) (.agg fv) (.slice A gs.length c) gs) := Lib.hid (hy.lower (by simp))
        obtain ⟨A1, c1, A2, c2, he, _, _⟩ := hy.shape
        injection he with he
        subst he
        have HB1 := Lib.hid (HB.out.trans (hB1.mono (by simp)))
        clear hB1 hy
        go_wp2_with fail
        refine (HSO.out _).mono ?_
        rintro e w2 ⟨rfl, rfl⟩
        have hb3 := (Below.refl _ w1).alloc (Nat.le_refl _) (.cells (taAll (.slice A gs.length c) (.slice A1 gs.length c1) (.slice A2 gs.length c2)) 108)
        have hX3 := heap_alloc_new w1 (.cells (taAll (.slice A gs.length c) (.slice A1 gs.length c1) (.slice A2 gs.length c2)) 108)
        have HSF := Lib.hid (size_taFold (.slice A gs.length c) (.slice A1 gs.length c1) (.slice A2 gs.length c2))
        have HB3 := Lib.hid (HB1.out.trans (hb3.mono HB1.out.size))
        have HX3 := Lib.hid hX3
        have HEM3 := Lib.hid (HEM.out _ _ (HY.out.kept hb3) HB3.out)
        clear hb3 hX3
        go_wp2_with (with_reducible refine wpList_load_rowD HU.out.2 rfl 108 _ rfl w1.heap.size rfl 108 _ _ HX3.out HU.out.1 HSF.out ?_)
        refine HEM3.out.mono ?_
        rintro e w4 ⟨y, rfl, hyo, hB4⟩
        have HO4 : Hid (OwnsI w4 w.heap.size y E) := Lib.hid (own_lower hyo HB3.out.size)
        obtain ⟨Ay, cy, rfl⟩ := own_slice hyo
        have HB4 := Lib.hid (HB3.out.trans (hB4.mono HB3.out.size))
        clear hB4 hyo
        go_wp2_with fail
        go_ret2
        exact ⟨_, rfl, HO4.out, HB4.out⟩
end Go.Proofs.Ytlkjceolddccbaa
