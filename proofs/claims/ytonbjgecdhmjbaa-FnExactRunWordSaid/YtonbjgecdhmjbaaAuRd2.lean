/-
  Walks: spec.RunWord, impl.RunWord.
-/
import Derived.Test.YtonbjgecdhmjbaaAuRd
import Derived.Test.YtonbjgecdhmjbaaAuI3
import Derived.Test.YtonbjgecdhmjbaaAuSame2
import Derived.Test.YtonbjgecdhmjbaaShelf
import Derived.Lib.OthersKept
import Derived.Lib.IndexAny
import Derived.WalkSmall
namespace Go.Proofs.Ytonbjgecdhmjbaa
open Go.RowKit
open Wd
set_option linter.unusedVariables false
def runW (x : Au) (t : Int) (s : ByteArray) : Int × Int :=
  if aOk x = true ∧ okL s.data.toList = true then if 0 ≤ t ∧ t < x.st then (rdK x.nx t s.data.toList s.size, 0) else (0, 2) else (0, 1)
theorem aOk_parts {x : Au} (h : aOk x = true) : (1 ≤ x.st ∧ x.st ≤ 24) ∧ x.nx.all (rowOk x.st) = true ∧ (x.nx.length : Int) = x.st := by
  unfold aOk at h
  simp only [Bool.and_eq_true, decide_eq_true_iff] at h
  exact ⟨h.1.1.1, h.2.1, h.2.2⟩
set_option maxRecDepth 100000 in
set_option maxHeartbeats 3200000 in
theorem specRunWord (v : Value) (x : Au) (t : Int) (s : ByteArray) (w : World) (hsz : s.size ≤ maxLen) (hf : FewA x) (h : IsAu w v x) :
    Calls Try.prog 46 #[v, .int .i64 t, .string s] w fun e w' => e = .returned (.tuple #[.int .i64 (runW x t s).1, .int .i64 (runW x t s).2]) ∧ Below w.heap.size w w' := by
  obtain ⟨f, n, rfl, hF, hN⟩ := h
  have hb := (Below.refl _ w).alloc (Nat.le_refl _) (.cells #[.int .i64 x.st, .int .i64 x.go, f, n] 61)
  have hP := heap_alloc_new w (.cells #[.int .i64 x.st, .int .i64 x.go, f, n] 61)
  have HC := Lib.hid (l04Ok_any w.heap.size f n x _ hP (hF.kept hb) (hN.kept hb) hf)
  have HO := Lib.hid (fun W => specOk s W hsz)
  have HI := Lib.hid (fun W => inB_any t 0 (x.st - 1) W)
  have HN := Lib.hid (fun W (h : Below w.heap.size w W) => hN.kept h)
  have HB := Lib.hid hb
  have HP := Lib.hid hP
  obtain ⟨Af, cf, rfl⟩ := hF.shape
  obtain ⟨An, cn, rfl, hx⟩ := hN
  obtain ⟨⟨p0, p1, p2, p3⟩, _⟩ := blk4_cells hP
  clear hF hx hb hP
  unfold runW
  cases ha : aOk x
  · rw [ha] at HC
    rw [if_neg (fun h => by cases h.1)]
    clear ha
    go_enter Try.func46, Try.ntmps46
    go_wp2_with fail
    refine HC.out.mono ?_
    rintro e w1 ⟨rfl, q, rfl⟩
    go_wp2_with fail
    go_ret2
    exact ⟨rfl, drewN_below' HB.out _⟩
  · rw [ha] at HC
    obtain ⟨⟨h1, h24⟩, hrow, hlen⟩ := aOk_parts ha
    clear ha
    cases ho : okL s.data.toList
    · rw [ho] at HO
      rw [if_neg (fun h => by cases h.2)]
      clear ho hrow hlen
      go_enter Try.func46, Try.ntmps46
      go_wp2_with fail
      refine HC.out.mono ?_
      rintro e w1 ⟨rfl, q, rfl⟩
      go_wp2_with fail
      refine (HO.out _).mono ?_
      rintro e w1 ⟨rfl, rfl⟩
      go_wp2_with fail
      go_ret2
      exact ⟨rfl, drewN_below' HB.out _⟩
    · rw [ho] at HO
      rw [if_pos ⟨rfl, rfl⟩]
      have hw1 : IntKind.i64.wrap (x.st - 1) = x.st - 1 := by rw [IntKind.wrap_i64]; omega
      by_cases ht : 0 ≤ t ∧ t < x.st
      · rw [if_pos ht]
        rw [decide_eq_true (show 0 ≤ t ∧ t ≤ x.st - 1 by omega)] at HI
        have HRD := Lib.hid (fun W (h : Below w.heap.size w W) => read_any _ x.nx x.st t s W ho (HN.out W h) hrow hlen h24 ht)
        clear ho hrow hlen ht
        go_enter Try.func46, Try.ntmps46
        go_wp2_with fail
        refine HC.out.mono ?_
        rintro e w1 ⟨rfl, q, rfl⟩
        go_wp2_with fail
        refine (HO.out _).mono ?_
        rintro e w1 ⟨rfl, rfl⟩
        go_wp2_with fail
        refine (HI.out _).mono ?_
        rintro e w1 ⟨rfl, rfl⟩
        go_wp2_with fail
        refine (HRD.out _ (drewN_below' HB.out _)).mono ?_
        rintro e w1 ⟨rfl, q', rfl⟩
        go_wp2_with fail
        go_ret2
        exact ⟨rfl, by first | exact drewN_below' (drewN_below' HB.out _) _ | exact drewN_below' HB.out _⟩
      · rw [if_neg ht]
        rw [decide_eq_false (show ¬ (0 ≤ t ∧ t ≤ x.st - 1) by omega)] at HI
        clear ho hrow hlen ht
        go_enter Try.func46, Try.ntmps46
        go_wp2_with fail
        refine HC.out.mono ?_
        rintro e w1 ⟨rfl, q, rfl⟩
        go_wp2_with fail
        refine (HO.out _).mono ?_
        rintro e w1 ⟨rfl, rfl⟩
        go_wp2_with fail
        refine (HI.out _).mono ?_
        rintro e w1 ⟨rfl, rfl⟩
        go_wp2_with fail
        go_ret2
        exact ⟨rfl, drewN_below' HB.out _⟩
theorem indexL_any (d : Nat) (hd : d < 4) (w : World) :
    Calls Try.prog 115 #[.string ⟨#[97, 98, 99, 100]⟩, .int .i32 (97 + (d : Int))] w fun e w' => e = .returned (.int .i64 (d : Int)) ∧ w' = w := by
  refine (Try.strings_IndexRune_ascii _ _ w (by omega) (by omega)).mono fun e w' he => ⟨he.1.trans ?_, he.2⟩
  match d, hd with
  | 0, _ => rfl
  | 1, _ => rfl
  | 2, _ => rfl
  | 3, _ => rfl
end Go.Proofs.Ytonbjgecdhmjbaa
