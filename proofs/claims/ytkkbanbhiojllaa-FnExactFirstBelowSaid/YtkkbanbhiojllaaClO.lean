/-
  Walks: spec.l05Weights, spec.ClimbOf.
-/
import Derived.Test.YtkkbanbhiojllaaClI
import Derived.Test.YtkkbanbhiojllaaKind
namespace Go.Proofs.Ytkkbanbhiojllaa
open Go.RowKit
open Wd
set_option linter.unusedVariables false
namespace Wd
/-- the code for a grammar and weights -/
def wCode (a b : Bool) : Int := if (a && b) = true then 0 else if a then 2 else 1
def wFit (z : Int) : Bool := decide (-9 ≤ z) && decide (z ≤ 9)
theorem wFit_not (z : Int) : wFit z = !wrongW z := by unfold wFit wrongW; rw [Bool.eq_iff_iff]; simp
/-- so far they are weights -/
def wSo (zs : List Int) (k : Nat) : Bool := decide (zs.length = 4) && (zs.take k).all wFit
theorem wSo_all (zs : List Int) : wSo zs zs.length = wOkB zs := by
  unfold wSo wOkB
  rw [List.take_length]
  congr 1
  congr 1
  funext z
  exact wFit_not z
theorem wSo_next {zs : List Int} {k : Nat} (h : k < zs.length) (ht : wSo zs k = true) : wSo zs (k + 1) = wFit zs[k] := by
  unfold wSo at ht ⊢
  rw [Bool.and_eq_true] at ht
  rw [ht.1, List.take_succ_eq_append_getElem h, List.all_append, ht.2]
  simp
theorem wSo_false {zs : List Int} {k : Nat} (h : wSo zs k = false) : wOkB zs = false := by
  rw [← wSo_all]
  cases hc : wSo zs zs.length
  · rfl
  · exfalso
    unfold wSo at hc h
    rw [Bool.and_eq_true] at hc
    rw [hc.1, Bool.true_and] at h
    rw [List.take_length] at hc
    have : (zs.take k).all wFit = true := by
      rw [List.all_eq_true] at hc ⊢
      exact fun z hz => hc.2 z (List.mem_of_mem_take hz)
    rw [this] at h
    cases h
end Wd
set_option maxRecDepth 100000 in
set_option maxHeartbeats 3200000 in
theorem l05Weights_any (pg : Nat) (wv : Value) (zs : List Int) (gs : List Rl) (w : World) (hf : FewR gs) (hg : GP w pg gs) (hn : zs.length ≤ 1048576) (hz : IW w wv zs) :
    Calls Try.prog 43 #[.pointer (some ⟨pg, 0, none⟩), wv] w fun e w' => e = .returned (.int .i64 (wCode (gOk gs) (wOkB zs))) ∧ Below w.heap.size w w' := by
  have h1 := l02Ok_any pg gs w hf hg
  have HZ := Lib.hid (fun W (hb : Below w.heap.size w W) => hz.kept hb)
  obtain ⟨A, c, rfl, _⟩ := hz
  cases hok : gOk gs
  · rw [hok] at h1
    have H1 := Lib.hid h1
    rw [show wCode false (wOkB zs) = 1 from rfl]
    clear h1 hok
    go_enter Try.func43, Try.ntmps43
    go_wp2_with fail
    refine H1.out.mono ?_
    rintro e w1 ⟨rfl, hB1⟩
    go_wp2_with fail
    go_ret
    exact ⟨rfl, hB1⟩
  · rw [hok] at h1
    have H1 := Lib.hid h1
    obtain ⟨n, hne⟩ : ∃ n, n = zs.length := ⟨_, rfl⟩
    have HN := Lib.hid hne
    rw [← hne] at hn ⊢
    have hfo : ((n : Int) == 4) = wSo zs 0 := by unfold wSo; rw [hne]; simp; rw [Bool.eq_iff_iff]; simp; omega
    have HFO := Lib.hid hfo
    clear h1 hok hne hfo
    go_enter Try.func43, Try.ntmps43
    go_wp2_with fail
    refine H1.out.mono ?_
    rintro e w1 ⟨rfl, hB1⟩
    have HZ1 := Lib.hid (HZ.out _ hB1)
    have HB1 := Lib.hid hB1
    clear hB1
    go_wp2_with fail
    rw [HFO.out]
    go_loop [5, 6] (fun o i => ∃ k : Nat, k ≤ n ∧ i = .int .i64 k ∧ o = .bool (wSo zs k)) (fun o i => n - (intOf i).toNat)
    case atStart => exact ⟨0, Nat.zero_le _, rfl, rfl⟩
    case round =>
      obtain ⟨k, hk, rfl, rfl⟩ := hrel
      by_cases hkn : k < n
      · cases hb : wSo zs k
        · have hbad := wSo_false hb
          have HBAD : Hid ((2 : Int) = wCode true (wOkB zs)) := Lib.hid (by rw [hbad]; rfl)
          clear hb hbad
          go_wp2_with fail
          go_ret
          exact ⟨ret_int HBAD.out, HB1.out⟩
        · have hkz : k < zs.length := by rw [← HN.out]; exact hkn
          obtain ⟨A', c', he, h0 | ⟨g, hA, hc⟩⟩ := HZ1.out
          · rw [h0] at hkz; simp at hkz
          injection he with he1 _ he2
          subst he1 he2 hA
          have c0 := hc k hkz
          have hnx := wSo_next hkz hb
          unfold wFit at hnx
          have HW := Lib.hid (fun W => in_any zs[k] (-9) 9 W)
          rw [← hnx] at HW
          generalize zs[k] = z at *
          have k0 : (0 : Int) ≤ (k : Int) := by omega
          have k1 : (k : Int) < (n : Int) := by omega
          clear hb hc hnx
          go_wp2_with fail
          refine (HW.out _).mono ?_
          rintro e w' ⟨rfl, rfl⟩
          go_wp2_with fail
          go_round
          case rel => exact ⟨k + 1, by omega, by go_num, rfl⟩
          case measure => simp [intOf]; omega
      · obtain rfl : k = n := by omega
        have hall : wSo zs k = wOkB zs := by rw [HN.out]; exact wSo_all zs
        rw [hall]
        clear hall
        cases hb : wOkB zs
        · have HC : Hid ((2 : Int) = wCode true (wOkB zs)) := Lib.hid (by rw [hb]; rfl)
          clear hb
          go_wp2_with fail
          go_ret
          exact ⟨ret_int HC.out, HB1.out⟩
        · have HC : Hid ((0 : Int) = wCode true (wOkB zs)) := Lib.hid (by rw [hb]; rfl)
          clear hb
          go_wp2_with fail
          go_ret
          exact ⟨ret_int HC.out, HB1.out⟩
set_option maxRecDepth 100000 in
set_option maxHeartbeats 3200000 in
theorem specClimbOf (v wv : Value) (gs : List Rl) (zs : List Int) (w : World) (hf : FewR gs) (hr : Rules w v gs) (hn : zs.length ≤ 1048576) (hz : IW w wv zs) :
    Calls Try.prog 14 #[.agg #[v], wv] w fun e w' => e = .returned (.tuple #[.agg (clCs (climbG gs zs).1), .int .i64 (climbG gs zs).2]) ∧ Below w.heap.size w w' := by
  have hg := rules_gpT hr 33
  have hb1 := (Below.refl _ w).alloc (Nat.le_refl _) (.cells #[v] 33)
  have hb2 := (Below.refl _ (w.alloc (.cells #[v] 33))).alloc (Nat.le_refl _) (.cells #[.int .i64 0, .int .i64 0, .int .i64 0] 28)
  have hb := hb1.trans (hb2.mono (by simp))
  have hR0 := heap_alloc_new (w.alloc (.cells #[v] 33)) (.cells #[.int .i64 0, .int .i64 0, .int .i64 0] 28)
  rw [show (w.alloc (.cells #[v] 33)).heap.size = w.heap.size + 1 from by simp] at hR0
  have hg2 := hg.kept hb2
  have h1 := l05Weights_any w.heap.size wv zs gs _ hf hg2 hn (hz.kept hb)
  have H1 := Lib.hid h1
  have HB := Lib.hid hb
  have HR0 := Lib.hid hR0
  have HGZ := Lib.hid (fun W (hb : Below ((w.alloc (.cells #[v] 33)).alloc (.cells #[.int .i64 0, .int .i64 0, .int .i64 0] 28)).heap.size ((w.alloc (.cells #[v] 33)).alloc (.cells #[.int .i64 0, .int .i64 0, .int .i64 0] 28)) W) => And.intro (hg2.kept hb) ((hz.kept HB.out).kept hb))
  obtain ⟨dm, hum, hdm⟩ := und_clm
  have HUM := Lib.hid (And.intro hum hdm)
  obtain ⟨A, c, rfl, _⟩ := hr
  have HS2 : Hid (((w.alloc (.cells #[.slice A gs.length c] 33)).alloc (.cells #[.int .i64 0, .int .i64 0, .int .i64 0] 28)).heap.size = w.heap.size + 2) := Lib.hid (by simp)
  unfold climbG
  cases hk : gOk gs && wOkB zs
  · rw [if_neg (by simp)]
    obtain ⟨cd, hcd⟩ : ∃ cd : Int, cd = wCode (gOk gs) (wOkB zs) := ⟨_, rfl⟩
    have hne : (cd != 0) = true := by rw [hcd]; unfold wCode; rw [hk]; cases gOk gs <;> rfl
    rw [show (if gOk gs = true then (2 : Int) else 1) = cd from by rw [hcd]; unfold wCode; rw [hk]; rfl]
    rw [← hcd] at H1
    have HZ0 := Lib.hid (show (Try.prog.info? 28).map (·.size) = some (#[.int .i64 0, .int .i64 0, .int .i64 0] : Array Value).size from size_cl)
    have HZ1 := Lib.hid (all_oneCell_toArray (one3c 0 0 0))
    clear hb1 hb2 hg hg2 hb hR0 h1 hz hum hdm hk hcd
    go_enter Try.func14, Try.ntmps14
    go_wp2_with fail
    refine H1.out.mono ?_
    rintro e w1 ⟨rfl, hB1⟩
    have HB1 := Lib.hid (HB.out.trans (hB1.mono HB.out.size))
    have HR1 := Lib.hid ((hB1.block (w.heap.size + 1) (by rw [HS2.out]; omega)).trans HR0.out)
    have HE : Hid (∀ cs, Below w.heap.size w (w1.setRow (w.heap.size + 1) cs)) := Lib.hid (fun cs => bSetRow HB1.out (by omega) cs)
    clear hB1
    go_wp2_with (with_reducible refine wpList_store_row rfl 28 _ _ rfl (w.heap.size + 1) _ rfl rfl 28 _ HR1.out HZ0.out rfl HZ1.out ?_)
    exact bodyPost_ret (v := .tuple #[ag3c 0 0 0, .int .i64 cd]) (results_row_slot rfl _ _ (w.heap.size + 1) 28 _ (0, 0) _ rfl (setRow_heap _ _ _ _ _ _ HR1.out) HUM.out.1 HUM.out.2 HZ0.out _ rfl) rfl ⟨rfl, HE.out _⟩
  · rw [if_pos rfl]
    have hcd : wCode (gOk gs) (wOkB zs) = 0 := by unfold wCode; rw [hk]; rfl
    rw [hcd] at H1
    obtain ⟨hok, hwb⟩ : gOk gs = true ∧ wOkB zs = true := by simpa using hk
    have hwo := wOkB_ok hwb
    have HCL := Lib.hid (fun W (hg : GP W w.heap.size gs) (hw : IW W wv zs) => l05Climb_any w.heap.size wv zs gs W hok hwo hg hw)
    generalize clWh zs gs = u at *
    have HZ0 := Lib.hid (show (Try.prog.info? 28).map (·.size) = some (clCs u).size from size_cl)
    have HZ1 : Hid ((clCs u).all (·.oneCell') = true) := Lib.hid (all_oneCell_toArray (one3c (u.getD 0 0) (u.getD 1 0) (u.getD 2 0)))
    clear hb1 hb2 hg hg2 hb hR0 h1 hz hum hdm hk hok hwb hwo hcd
    go_enter Try.func14, Try.ntmps14
    go_wp2_with fail
    refine H1.out.mono ?_
    rintro e w1 ⟨rfl, hB1⟩
    have HB1 := Lib.hid (HB.out.trans (hB1.mono HB.out.size))
    have HR1 := Lib.hid ((hB1.block (w.heap.size + 1) (by rw [HS2.out]; omega)).trans HR0.out)
    have HGW := Lib.hid (HGZ.out _ hB1)
    have hl1 : w.heap.size + 1 < w1.heap.size := (Array.getElem?_eq_some_iff.1 HR1.out).1
    clear hB1
    go_wp2_with fail
    refine (HCL.out _ HGW.out.1 HGW.out.2).mono ?_
    rintro e w3 ⟨rfl, hB4⟩
    have HR4 := Lib.hid ((hB4.block (w.heap.size + 1) hl1).trans HR1.out)
    have HB4 := Lib.hid (HB1.out.trans (hB4.mono HB1.out.size))
    have HE : Hid (∀ cs, Below w.heap.size w (w3.setRow (w.heap.size + 1) cs)) := Lib.hid (fun cs => bSetRow HB4.out (by omega) cs)
    clear hB4
    go_wp2_with (with_reducible refine wpList_store_row rfl 28 _ _ rfl (w.heap.size + 1) _ rfl rfl 28 _ HR4.out HZ0.out rfl HZ1.out ?_)
    exact bodyPost_ret (v := .tuple #[.agg (clCs u), .int .i64 0]) (results_row_slot rfl _ _ (w.heap.size + 1) 28 _ (0, 0) _ rfl (setRow_heap _ _ _ _ _ _ HR4.out) HUM.out.1 HUM.out.2 HZ0.out _ rfl) rfl ⟨rfl, HE.out _⟩
end Go.Proofs.Ytkkbanbhiojllaa
