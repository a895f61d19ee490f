/-
  The walk of FnExactCodeWord: it returns true at every input.
-/
import Derived.Test.YtapemoehcohjgaaZ1
import Derived.Test.YtapemoehcohjgaaZ5
import Derived.Deep.RegionHeld3
import Derived.Deep.Cut
namespace Go.Proofs.Ytapemoehcohjgaa.fnExactCodeWord
open Go.RowKit Wd
set_option linter.unusedVariables false
theorem c4k {w w' : World} {B : Nat} {a b c d : Value} (h : w.cell? ⟨B, 0, none⟩ = some a ∧ w.cell? ⟨B, 1, none⟩ = some b ∧ w.cell? ⟨B, 2, none⟩ = some c ∧ w.cell? ⟨B, 3, none⟩ = some d) (hb : Below w.heap.size w w') :
    w'.cell? ⟨B, 0, none⟩ = some a ∧ w'.cell? ⟨B, 1, none⟩ = some b ∧ w'.cell? ⟨B, 2, none⟩ = some c ∧ w'.cell? ⟨B, 3, none⟩ = some d :=
  ⟨(hb.cell (lt_of_cell h.1)).trans h.1, (hb.cell (lt_of_cell h.2.1)).trans h.2.1, (hb.cell (lt_of_cell h.2.2.1)).trans h.2.2.1, (hb.cell (lt_of_cell h.2.2.2)).trans h.2.2.2⟩
set_option maxRecDepth 100000 in
set_option maxHeartbeats 6400000 in
theorem walk (v : Value) (x : Co) (q0 : ByteArray) (w : World) (hx : IsCo w v x) (hm : MaxC x) (hq0 : q0.size ≤ maxLen) :
    Calls Try.prog 4 #[v, .string q0] w fun e w' => e = .returned (.bool true) ∧ Below w.heap.size w w' := by
  have HX := Lib.hid (fun W (hb : Below w.heap.size w W) => hx.kept hb)
  obtain ⟨f, n, rfl, hF, hN⟩ := hx
  obtain ⟨Af, cf, rfl⟩ := hF.shape
  obtain ⟨An, cn, rfl, hx0⟩ := hN
  have hb := (Below.refl _ w).alloc (Nat.le_refl _) (.cells #[.int .i64 x.st, .int .i64 x.go, .slice Af x.nx.length cf, .slice An x.ou.length cn] 25)
  have HC0 := Lib.hid (blk4_cells (heap_alloc_new w (.cells #[.int .i64 x.st, .int .i64 x.go, .slice Af x.nx.length cf, .slice An x.ou.length cn] 25))).1
  have HZ := Lib.hid (szCoder_any _ x 1048576 _ hm (HX.out _ hb) (by omega) (by omega))
  have HB := Lib.hid hb
  have HP := Lib.hid hb
  have HW := Lib.hid hb
  have HBE := Lib.hid hb
  clear hF hx0 hb hm
  have hboundq0 := hq0
  unfold maxLen at hboundq0
  by_cases hbigq0 : 1048576 < q0.size
  · have hd : decide ((1048576 : Int) < (q0.size : Int)) = true := decide_eq_true (by omega)
    clear HX HZ HB HP HW
    go_enter Try.func4, Try.ntmps4
    go_wp2_with fail
    go_ret
    exact ⟨rfl, HBE.out⟩
  have hddq0 : decide ((1048576 : Int) < (q0.size : Int)) = false := decide_eq_false (by omega)
  clear HP HW
  go_enter Try.func4, Try.ntmps4
  go_wp2_with fail
  refine HZ.out.mono ?_
  rintro e w1 ⟨y, rfl, hB1, hpaid⟩
  have HB1 := Lib.hid (HB.out.trans (hB1.mono HB.out.size))
  have HC1 := Lib.hid (c4k HC0.out hB1)
  clear hB1 HB HZ HBE HC0
  rcases hpaid with rfl | ⟨hy0, hy1, hfew⟩
  · go_wp2_with fail
    go_ret
    exact ⟨rfl, HB1.out⟩
  · have HT := Lib.hid (fun W (hb : Below w.heap.size w W) => toCoder_any _ x W hfew (HX.out W hb))
    have HSV := Lib.hid (fun W u (h : IsCo W u x) => specCodeWord u x q0 W hfew hq0 h)
    have HIV := Lib.hid (fun W u (h : IsCo W u x) => implCodeWord u x q0 W hfew hq0 h)
    have HEQ := Lib.hid (fun W u v (h1 : IsCo W u x) (h2 : IsCo W v x) => eqCoder_any u v x W hfew h1 h2)
    have hny : ¬ y < 0 := by omega
    obtain ⟨p0, p1, p2, p3⟩ := HC1.out
    clear hfew hy0 hy1
    generalize cwA x q0 = R at *
    obtain ⟨R1, R2⟩ := R
    simp only at HSV HIV
    go_wp2_with fail
    refine (HT.out _ HB1.out).mono ?_
    rintro e w2 ⟨y1, rfl, hy1, hB2⟩
    have HB2 := Lib.hid (HB1.out.trans (hB2.mono HB1.out.size))
    have HC2 := Lib.hid (c4k HC1.out hB2)
    have HV2 := Lib.hid (HSV.out _ _ hy1)
    clear hy1 hB2 p0 p1 p2 p3
    go_wp2_with fail
    refine HV2.out.mono ?_
    rintro e w3 ⟨rfl, hB3⟩
    have HB3 := Lib.hid (HB2.out.trans (hB3.mono HB2.out.size))
    have HC3 := Lib.hid (c4k HC2.out hB3)
    obtain ⟨p0, p1, p2, p3⟩ := HC3.out
    clear hB3
    go_wp2_with fail
    refine (HT.out _ HB3.out).mono ?_
    rintro e w4 ⟨y2, rfl, hy2, hB4⟩
    have HB4 := Lib.hid (HB3.out.trans (hB4.mono HB3.out.size))
    have HC4 := Lib.hid (c4k HC3.out hB4)
    have HY2 := Lib.hid hy2
    obtain ⟨f2, n2, rfl, hF2, hN2⟩ := hy2
    obtain ⟨Af2, cf2, rfl⟩ := hF2.shape
    obtain ⟨An2, cn2, rfl, hx2⟩ := hN2
    clear hF2 hx2 hB4 p0 p1 p2 p3
    go_upto_region 9 with fail
    have hb5 := (Below.refl _ w4).alloc (Nat.le_refl _) (.cells #[.int .i64 x.st, .int .i64 x.go, .slice Af2 x.nx.length cf2, .slice An2 x.ou.length cn2] 33)
    have HX5 := Lib.hid (blk4_cells (heap_alloc_new w4 (.cells #[.int .i64 x.st, .int .i64 x.go, .slice Af2 x.nx.length cf2, .slice An2 x.ou.length cn2] 33))).1
    have HY5 := Lib.hid (HY2.out.kept hb5)
    have HB5 := Lib.hid (HB4.out.trans (hb5.mono HB4.out.size))
    have HC5 := Lib.hid (c4k HC4.out hb5)
    obtain ⟨X, hX⟩ : ∃ X, X = w4.heap.size := ⟨_, rfl⟩
    rw [← hX] at HX5 ⊢
    generalize w4.alloc (.cells #[.int .i64 x.st, .int .i64 x.go, .slice Af2 x.nx.length cf2, .slice An2 x.ou.length cn2] 33) = w5 at *
    obtain ⟨q0', q1', q2', q3'⟩ := HX5.out
    clear hb5 hX
    go_wp2_with fail
    refine (HIV.out _ _ HY5.out).mono ?_
    rintro e w6 ⟨rfl, hB6⟩
    have HB6 := Lib.hid (HB5.out.trans (hB6.mono HB5.out.size))
    have HC6 := Lib.hid (And.intro (c4k HC5.out hB6) (c4k HX5.out hB6))
    have HY6 := Lib.hid (HY5.out.kept hB6)
    clear hB6 q0' q1' q2' q3'
    go_upto_region 12 with fail
    obtain ⟨⟨p0, p1, p2, p3⟩, q0', q1', q2', q3'⟩ := HC6.out
    have HT6 := Lib.hid (fun m => HT.out (w6.drewN m) (below_drewN HB6.out m))
    go_region_held3 (fun w' => (w'.cell? ⟨w.heap.size, 0, none⟩ = some (.int .i64 x.st) ∧ w'.cell? ⟨w.heap.size, 1, none⟩ = some (.int .i64 x.go) ∧ w'.cell? ⟨w.heap.size, 2, none⟩ = some (.slice Af x.nx.length cf) ∧ w'.cell? ⟨w.heap.size, 3, none⟩ = some (.slice An x.ou.length cn)) ∧ (w'.cell? ⟨X, 0, none⟩ = some (.int .i64 x.st) ∧ w'.cell? ⟨X, 1, none⟩ = some (.int .i64 x.go) ∧ w'.cell? ⟨X, 2, none⟩ = some (.slice Af2 x.nx.length cf2) ∧ w'.cell? ⟨X, 3, none⟩ = some (.slice An2 x.ou.length cn2)))
      (first | exact HC6.out | exact HC7.out | exact HC8.out | go_keep)
      (first
        | (go_at_call 11
           refine (HT6.out _).mono ?_
           rintro e w7 ⟨y3, rfl, hy3, hB7⟩
           have hB7 := below_undrew hB7
           have HB7 := Lib.hid (HB6.out.trans (hB7.mono HB6.out.size))
           have HC7 := Lib.hid (And.intro (c4k HC6.out.1 hB7) (c4k HC6.out.2 hB7))
           have HY7 := Lib.hid (HY6.out.kept hB7)
           have HZ7 := Lib.hid hy3
           clear hy3 hB7)
        | (go_at_call 14
           refine (HEQ.out _ _ _ HY7.out HZ7.out).mono ?_
           rintro e w8 ⟨rfl, hB8⟩
           have HB8 := Lib.hid (HB7.out.trans (hB8.mono HB7.out.size))
           have HC8 := Lib.hid (And.intro (c4k HC7.out.1 hB8) (c4k HC7.out.2 hB8))
           clear hB8))
    clear p0 p1 p2 p3 q0' q1' q2' q3'
    go_wp2_with fail
    go_ret
    exact ⟨rfl, HB8.out⟩
end Go.Proofs.Ytapemoehcohjgaa.fnExactCodeWord
