/-
  The walk of FnExactDeedText: it returns true at every input.
-/
import Derived.Test.YtcaeihdfljljbaaDoorDtI
namespace Go.Proofs.YtcaeihdfljljbaaDoor
open Go.RowKit
open Wd
set_option linter.unusedVariables false
set_option maxRecDepth 100000 in
set_option maxHeartbeats 1600000 in
theorem toDeed_any (k a b c : Int) (w : World) :
    Calls Tryd.prog 8 #[.agg #[.int .i64 k, .int .i64 a, .int .i64 b, .int .i64 c]] w fun e w' => e = .returned (.agg #[.int .i64 k, .int .i64 a, .int .i64 b, .int .i64 c]) ∧ Below w.heap.size w w' := by
  go_enter Tryd.func8, Tryd.ntmps8
  go_wp2
  refine bodyPost_ret (v := .agg #[.int .i64 k, .int .i64 a, .int .i64 b, .int .i64 c]) (by simp [results, Tryd.results8, go_sem]) rfl ⟨rfl, ?_⟩
  exact (((Below.refl _ _).alloc (Nat.le_refl _) _).alloc (by simp) _).alloc (by simp; omega) _
namespace fnExactDeedText
set_option maxRecDepth 100000 in
set_option maxHeartbeats 3200000 in
theorem walk (k a b c : Int) (w : World) (ht : Pow10 w) :
    Calls Tryd.prog 3 #[.agg #[.int .i64 k, .int .i64 a, .int .i64 b, .int .i64 c]] w fun e w' => e = .returned (.bool true) ∧ Below w.heap.size w w' := by
  have hB0 := (Below.refl _ w).alloc (Nat.le_refl _) (.cells #[.int .i64 k, .int .i64 a, .int .i64 b, .int .i64 c] 23)
  have hP0 := heap_alloc_new w (.cells #[.int .i64 k, .int .i64 a, .int .i64 b, .int .i64 c] 23)
  have hs0 : w.heap.size < (w.alloc (.cells #[.int .i64 k, .int .i64 a, .int .i64 b, .int .i64 c] 23)).heap.size := by simp
  have HT := Lib.hid (fun W => toDeed_any k a b c W)
  have HS := Lib.hid (fun W => specDeedText k a b c W)
  have HI := Lib.hid (fun W (hb : Below w.heap.size w W) => implDeedText k a b c W (ht.kept hb))
  have HB0 := Lib.hid hB0
  have HP0 := Lib.hid hP0
  have HS0 := Lib.hid hs0
  clear hB0 hP0 hs0
  generalize (if ddOk k a b c = true then ddT k.toNat a.toNat b.toNat c.toNat else ⟨#[]⟩) = R at *
  have hq : (R.toList == R.toList) = true := by simp
  clear ht
  go_enter Tryd.func3, Tryd.ntmps3
  go_wp2_with fail
  refine (HT.out _).mono ?_
  rintro e w1 ⟨rfl, hB1⟩
  have HB1 := Lib.hid (HB0.out.trans (hB1.mono (by simp)))
  have HP1 := Lib.hid ((hB1.block w.heap.size HS0.out).trans HP0.out)
  have HS1 : Hid (w.heap.size < w1.heap.size) := Lib.hid (by have := hB1.size; have := HS0.out; omega)
  clear hB1
  go_wp2_with fail
  refine (HS.out _).mono ?_
  rintro e w2 ⟨rfl, hB2⟩
  have HB2 := Lib.hid (HB1.out.trans (hB2.mono (by have := HS1.out; omega)))
  have HP2 := Lib.hid ((hB2.block w.heap.size HS1.out).trans HP1.out)
  have HS2 : Hid (w.heap.size < w2.heap.size) := Lib.hid (by have := hB2.size; have := HS1.out; omega)
  obtain ⟨⟨p0, p1, p2, p3⟩, _⟩ := dblk_cells HP2.out
  clear hB2
  go_wp2_with fail
  refine (HT.out _).mono ?_
  rintro e w3 ⟨rfl, hB3⟩
  have HB3 := Lib.hid (HB2.out.trans (hB3.mono (by have := HS2.out; omega)))
  clear hB3
  go_wp2_with fail
  refine (HI.out _ HB3.out).mono ?_
  rintro e w4 ⟨rfl, hB4⟩
  have HB4 := Lib.hid (HB3.out.trans (hB4.mono HB3.out.size))
  clear hB4
  go_wp2_with fail
  go_ret
  exact ⟨rfl, HB4.out⟩
end fnExactDeedText
end Go.Proofs.YtcaeihdfljljbaaDoor
