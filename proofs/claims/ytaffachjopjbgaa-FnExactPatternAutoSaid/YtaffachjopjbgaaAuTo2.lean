/-
  Automata as lists; slices of numbers that can be read.
  Walks: laws.szInt64S, szInt64SS, szAuto: what is left of a purse.
  Walks: laws.toInt64S, toInt64SS, toAuto: copies in new memory.
  Walk: laws.toAuto: a copy in new memory.
-/
import Derived.Test.YtaffachjopjbgaaToI
import Derived.Test.YtaffachjopjbgaaBlk
import Derived.Test.YtaffachjopjbgaaMat
import Derived.Test.YtaffachjopjbgaaGramTo
import Derived.Test.YtaffachjopjbgaaIntsM
import Derived.StillTailTactics
import Derived.Test.YtaffachjopjbgaaOwnK
import Derived.Deep.Cut
namespace Go.Proofs.Ytaffachjopjbgaa
open Go.RowKit
open Wd
set_option linter.unusedVariables false

/-- a slice of such slices -/
def IsLL (w : World) (v : Value) (xss : List (List Int)) : Prop :=
  ∃ (A : Option Addr) (c : Nat), v = .slice A xss.length c ∧ (xss = [] ∨ ∃ a, A = some a ∧ ∀ j (hj : j < xss.length), ∃ u, w.cell? (a.add j) = some u ∧ IsL w u xss[j])
theorem IsLL.kept {w w' : World} {v : Value} {xss : List (List Int)} (h : IsLL w v xss) (hb : Below w.heap.size w w') : IsLL w' v xss := by
  obtain ⟨A, c, hv, h | ⟨a, hA, hc⟩⟩ := h
  · exact ⟨A, c, hv, .inl h⟩
  · refine ⟨A, c, hv, .inr ⟨a, hA, fun j hj => ?_⟩⟩
    obtain ⟨u, h1, h2⟩ := hc j hj
    exact ⟨u, (hb.cell (lt_of_cell h1)).trans h1, h2.kept hb⟩
/-- an automaton -/
structure Au where
  st : Int
  go : Int
  fin : List Int
  nx : List (List Int)
def IsAu (w : World) (v : Value) (x : Au) : Prop := ∃ f n, v = .agg #[.int .i64 x.st, .int .i64 x.go, f, n] ∧ IsL w f x.fin ∧ IsLL w n x.nx
theorem IsAu.kept {w w' : World} {v : Value} {x : Au} (h : IsAu w v x) (hb : Below w.heap.size w w') : IsAu w' v x := by
  obtain ⟨f, n, hv, h1, h2⟩ := h
  exact ⟨f, n, hv, h1.kept hb, h2.kept hb⟩
/-- short enough for the machine -/
structure MaxA (x : Au) : Prop where
  fin : x.fin.length ≤ maxLen
  nx : x.nx.length ≤ maxLen
  row : ∀ r ∈ x.nx, r.length ≤ maxLen
/-- few -/
structure FewA (x : Au) : Prop where
  fin : x.fin.length ≤ 1048576
  nx : x.nx.length ≤ 1048576
  row : ∀ r ∈ x.nx, r.length ≤ 1048576
namespace Wd
/-- a valid automaton's row -/
def rowOk (n : Int) (r : List Int) : Bool := decide (r.length = 4) && r.all fun x => decide (0 ≤ x ∧ x < n)
def goodAt (lo hi : Int) (l : List Int) (k : Nat) : Prop := (lo ≤ l.getD k 0 ∧ l.getD k 0 ≤ hi) ∧ (0 < k → l.getD (k - 1) 0 < l.getD k 0)
instance (lo hi : Int) (l : List Int) (k : Nat) : Decidable (goodAt lo hi l k) := by unfold goodAt; exact inferInstance
/-- numbers that rise, between bounds -/
def risesL (lo hi : Int) (l : List Int) : Bool := decide (∀ k, k < l.length → goodAt lo hi l k)
/-- a valid automaton -/
def aOk (x : Au) : Bool := decide (1 ≤ x.st ∧ x.st ≤ 24) && decide (0 ≤ x.go ∧ x.go ≤ x.st - 1) && risesL 0 (x.st - 1) x.fin && (x.nx.all (rowOk x.st) && decide ((x.nx.length : Int) = x.st))
end Wd

theorem szI_any (A : Option Addr) (n c : Nat) (left : Int) (w : World) (hn : n ≤ maxLen) (h0 : 0 ≤ left) (h1 : left ≤ 1048576) :
    Calls Try.prog 75 #[.slice A n c, .int .i64 left] w fun e w' => e = .returned (.int .i64 (if left - n < 0 then -1 else left - n)) ∧ w = w' := by
  unfold maxLen at hn
  by_cases h : left - (n : Int) < 0
  all_goals
    go_enter Try.func75, Try.ntmps75
    go_wp2
    go_ret
    refine ⟨ret_int ?_, rfl⟩
    first | (rw [if_pos h]; done) | (rw [if_neg h]; done) | simp
/-- a purse that is not spent, over lists that are short -/
def Paid (left y : Int) (P : Prop) : Prop := (y = -1 ∨ (0 ≤ y ∧ y ≤ left ∧ P))

set_option maxRecDepth 100000 in
set_option maxHeartbeats 1600000 in
theorem szLL_any (v : Value) (xss : List (List Int)) (left : Int) (w : World) (hn : xss.length ≤ maxLen) (hr : ∀ r ∈ xss, r.length ≤ maxLen) (h : IsLL w v xss) (h0 : 0 ≤ left) (h1 : left ≤ 1048576) :
    Calls Try.prog 76 #[v, .int .i64 left] w fun e w' => ∃ y, e = .returned (.int .i64 y) ∧ w = w' ∧ Paid left y (xss.length ≤ 1048576 ∧ ∀ r ∈ xss, r.length ≤ 1048576) := by
  unfold maxLen at hn
  obtain ⟨A, c, rfl, hin⟩ := h
  by_cases hbig : left - (xss.length : Int) < 0
  · clear hin
    go_enter Try.func76, Try.ntmps76
    go_wp2_with fail
    go_ret
    exact ⟨_, rfl, rfl, .inl rfl⟩
  · have HI := Lib.hid hin
    have HR := Lib.hid hr
    clear hin hr
    go_enter Try.func76, Try.ntmps76
    go_wp2_with fail
    go_loopw [1, 5] (fun p i wr => ∃ k : Nat, k ≤ xss.length ∧ i = .int .i64 k ∧ (∃ q : Int, p = .int .i64 q ∧ 0 ≤ q ∧ q ≤ left) ∧ (∀ j (hj : j < xss.length), j < k → xss[j].length ≤ 1048576) ∧ w = wr) (fun _ i _ => xss.length - (intOf i).toNat)
    case atStart => exact ⟨0, Nat.zero_le _, rfl, ⟨_, rfl, by omega, by omega⟩, fun j hj h => by omega, rfl⟩
    case round =>
      obtain ⟨k, hk, rfl, ⟨q, rfl, hq0, hq1⟩, hle, rfl⟩ := hrel
      by_cases hlt : k < xss.length
      · rcases HI.out with hn' | ⟨a, rfl, hc⟩
        · rw [hn'] at hlt; simp at hlt
        obtain ⟨u, c0, hu⟩ := hc k hlt
        obtain ⟨A2, c2, rfl⟩ := hu.shape
        have hm := HR.out xss[k] (List.getElem_mem hlt)
        have HZ := Lib.hid (fun W => szI_any A2 xss[k].length c2 q W hm hq0 (by omega))
        have HLE := Lib.hid (fun (hh : xss[k].length ≤ 1048576) => (fun j (hj : j < xss.length) (h : j < k + 1) => by
          by_cases e : j = k
          · subst e; exact hh
          · exact hle j hj (by omega) : ∀ j (hj : j < xss.length), j < k + 1 → xss[j].length ≤ 1048576))
        generalize xss[k].length = m at *
        clear hu hc hle
        by_cases hneg : q - (m : Int) < 0
        · rw [if_pos hneg] at HZ
          go_wp2_with fail
          refine (HZ.out _).mono ?_
          rintro e w2 ⟨rfl, rfl⟩
          go_wp2_with fail
          go_ret
          exact ⟨_, rfl, rfl, .inl rfl⟩
        · rw [if_neg hneg] at HZ
          go_wp2_with fail
          refine (HZ.out _).mono ?_
          rintro e w2 ⟨rfl, rfl⟩
          go_wp2_with fail
          go_roundw
          case rel => exact ⟨k + 1, by omega, by go_num, ⟨_, rfl, by omega, by omega⟩, HLE.out (by omega), by trivial⟩
          case measure => simp [intOf]; omega
      · obtain rfl : k = xss.length := by omega
        go_wp2_with fail
        go_ret
        exact ⟨_, rfl, rfl, .inr ⟨hq0, hq1, by omega, fun r hr => by obtain ⟨j, hj, e⟩ := List.getElem_of_mem hr; rw [← e]; exact hle j hj hj⟩⟩

set_option maxRecDepth 100000 in
set_option maxHeartbeats 1600000 in
theorem szAuto_any (v : Value) (x : Au) (left : Int) (w : World) (hm : MaxA x) (h : IsAu w v x) (h0 : 0 ≤ left) (h1 : left ≤ 1048576) :
    Calls Try.prog 17 #[v, .int .i64 left] w fun e w' => ∃ y, e = .returned (.int .i64 y) ∧ Below w.heap.size w w' ∧ Paid left y (FewA x) := by
  obtain ⟨f, n, rfl, hf, hn⟩ := h
  obtain ⟨A, c, rfl⟩ := hf.shape
  have hfm := hm.fin
  have HZ := Lib.hid (fun W => szI_any A x.fin.length c left W hfm h0 h1)
  have HN := Lib.hid (hn.kept ((Below.refl _ w).alloc (Nat.le_refl _) (.cells #[.int .i64 x.st, .int .i64 x.go, .slice A x.fin.length c, n] 25)))
  have HM := Lib.hid hm
  have hB := (Below.refl _ w).alloc (Nat.le_refl _) (.cells #[.int .i64 x.st, .int .i64 x.go, .slice A x.fin.length c, n] 25)
  have HB := Lib.hid hB
  clear hf hn hm hB
  by_cases hneg : left - (x.fin.length : Int) < 0
  · rw [if_pos hneg] at HZ
    go_enter Try.func17, Try.ntmps17
    go_wp2_with fail
    refine (HZ.out _).mono ?_
    rintro e w2 ⟨rfl, rfl⟩
    go_wp2_with fail
    go_ret
    exact ⟨_, rfl, HB.out, .inl rfl⟩
  · rw [if_neg hneg] at HZ
    go_enter Try.func17, Try.ntmps17
    go_wp2_with fail
    refine (HZ.out _).mono ?_
    rintro e w2 ⟨rfl, rfl⟩
    go_wp2_with fail
    refine (szLL_any n x.nx _ _ HM.out.nx HM.out.row HN.out (by omega) (by omega)).mono ?_
    rintro e w2 ⟨y, rfl, rfl, hp⟩
    rcases hp with rfl | ⟨hy0, hy1, hl, hr⟩
    · go_wp2_with fail
      go_ret
      exact ⟨_, rfl, HB.out, .inl rfl⟩
    · go_wp2_with fail
      go_ret
      exact ⟨_, rfl, HB.out, .inr ⟨hy0, by omega, by omega, hl, hr⟩⟩
/-- rows of the call's own, at most so many yet -/
def LLK (xss : List (List Int)) (w : World) (B k : Nat) (wr : World) : Prop :=
  ∃ vs : List Value, vs.length = xss.length ∧ wr.ownsRow B 22 1 (.slice (some ⟨B, 0, none⟩) xss.length xss.length) xss.length vs ∧ ∀ j (hj : j < xss.length), j < k → ∃ u, vs[j]? = some u ∧ OwnsI wr (B + 1) u xss[j]
theorem LLK.kept {xss : List (List Int)} {w wr w1 : World} {B k : Nat} (h : LLK xss w B k wr) (hb : Below wr.heap.size wr w1) : LLK xss w B k w1 := by
  obtain ⟨vs, h1, h2, h3⟩ := h
  refine ⟨vs, h1, own_below h2 hb (Nat.le_refl _), fun j hj hk => ?_⟩
  obtain ⟨u, h4, h5⟩ := h3 j hj hk
  exact ⟨u, h4, own_below h5 hb (Nat.le_refl _)⟩
theorem LLK.store {xss : List (List Int)} {w wr : World} {B k : Nat} {u : Value} (h : LLK xss w B k wr) (hk : k < xss.length) (hu : OwnsI wr (B + 1) u xss[k]) : LLK xss w B (k + 1) (wr.setCell ⟨B, k, none⟩ u) := by
  obtain ⟨vs, h1, h2, h3⟩ := h
  refine ⟨vs.set k u, by simpa using h1, (h2.stored k u).1, fun j hj hjk => ?_⟩
  by_cases e : j = k
  · subst e
    exact ⟨u, by rw [List.getElem?_set_self (by omega)], own_setLow hu _ _ (by simp)⟩
  · obtain ⟨y, h4, h5⟩ := h3 j hj (by omega)
    exact ⟨y, by rw [List.getElem?_set_ne (by omega)]; exact h4, own_setLow h5 _ _ (by simp)⟩
theorem LLK.cell {xss : List (List Int)} {w wr : World} {B k : Nat} (h : LLK xss w B k wr) (j : Nat) (hj : j < xss.length) : ∃ u, wr.cell? ⟨B, j, none⟩ = some u ∧ wr.frozen? ⟨B, j, none⟩ = false := by
  obtain ⟨vs, h1, h2, h3⟩ := h
  exact ⟨_, (h2.cellAt j (by omega)).trans (List.getElem?_eq_getElem (by omega)), h2.frozenAt j⟩
/-- a slice of slices, all of them from a block on -/
def OwnLL (w : World) (lo : Nat) (v : Value) (xss : List (List Int)) : Prop :=
  ∃ (A : Option Addr) (c : Nat), v = .slice A xss.length c ∧ (xss = [] ∨ ∃ B, A = some ⟨B, 0, none⟩ ∧ lo ≤ B ∧ ∀ j (hj : j < xss.length), ∃ u, w.cell? ⟨B, j, none⟩ = some u ∧ OwnsI w lo u xss[j])
theorem OwnLL.isLL {w : World} {lo : Nat} {v : Value} {xss : List (List Int)} (h : OwnLL w lo v xss) : IsLL w v xss := by
  obtain ⟨A, c, hv, h | ⟨B, hA, _, hc⟩⟩ := h
  · exact ⟨A, c, hv, .inl h⟩
  · refine ⟨A, c, hv, .inr ⟨_, hA, fun j hj => ?_⟩⟩
    obtain ⟨u, h1, h2⟩ := hc j hj
    exact ⟨u, by rw [add_zero']; exact h1, IsL.of_own h2⟩
theorem OwnLL.far {w : World} {lo : Nat} {v : Value} {xss : List (List Int)} (h : OwnLL w lo v xss) (p : Addr) (u : Value) (hp : p.block < lo) : OwnLL (w.setCell p u) lo v xss := by
  obtain ⟨A, c, hv, h | ⟨B, hA, hB, hc⟩⟩ := h
  · exact ⟨A, c, hv, .inl h⟩
  · refine ⟨A, c, hv, .inr ⟨B, hA, hB, fun j hj => ?_⟩⟩
    obtain ⟨y, h1, h2⟩ := hc j hj
    exact ⟨y, (World.cell?_of_block (a := ⟨B, j, none⟩) (Below.heap_setCell w p u B (by omega))).trans h1, own_setLow h2 _ _ hp⟩
theorem LLK.all {xss : List (List Int)} {w wr : World} {B : Nat} (h : LLK xss w B xss.length wr) : OwnLL wr B (.slice (some ⟨B, 0, none⟩) xss.length xss.length) xss := by
  obtain ⟨vs, h1, h2, h3⟩ := h
  refine ⟨_, _, rfl, .inr ⟨B, rfl, Nat.le_refl _, fun j hj => ?_⟩⟩
  obtain ⟨u, h4, h5⟩ := h3 j hj hj
  exact ⟨u, by rw [h2.cellAt j (by omega)]; exact h4, own_lower h5 (by omega)⟩
theorem made_nil (n : Nat) : (madeCells #[.slice none 0 0] n).toList = List.replicate n (.slice none 0 0) := by
  apply List.ext_getElem
  · simp [madeCells]
  · intro i h1 h2
    simp [madeCells, Nat.mod_one]
set_option maxRecDepth 100000 in
set_option maxHeartbeats 1600000 in
theorem toLL_any (v : Value) (xss : List (List Int)) (w : World) (hn : xss.length ≤ 1048576) (hr : ∀ r ∈ xss, r.length ≤ 1048576) (h : IsLL w v xss) :
    Calls Try.prog 84 #[v] w fun e w' => ∃ y, e = .returned y ∧ OwnLL w' w.heap.size y xss ∧ Below w.heap.size w w' := by
  obtain ⟨i0, hi, hz0, hz1, hz2⟩ := info_parts Try.info_ints
  obtain ⟨A, c, rfl, hin⟩ := h
  have HI := Lib.hid hin
  obtain ⟨n, hn'⟩ : ∃ n, n = xss.length := ⟨_, rfl⟩
  rw [← hn'] at hn ⊢
  have HN := Lib.hid hn'
  have HR := Lib.hid hr
  clear hin hn' hr
  go_enter Try.func84, Try.ntmps84
  go_wp2_with (refine wpList_make_full _ rfl _ _ 23 rfl w.heap.size 22 i0 (.slice none 0 0) 1 Try.underlying23 hi hz0 hz1 .i64 .i64 _ _ n rfl rfl rfl rfl (by rw [hz2]; omega) (by unfold maxLen; omega) (Nat.le_refl _) ?_)
  intro w1 hown hg
  have hB1 := below_of_grown hg
  obtain ⟨B, hBe⟩ : ∃ B, B = w.heap.size := ⟨_, rfl⟩
  rw [← hBe] at hown ⊢
  have HST : Hid (LLK xss w B 0 w1) := Lib.hid ⟨List.replicate n (.slice none 0 0), by simp [HN.out], by
    have h := hown
    rw [made_nil] at h
    rw [← HN.out]; exact h, fun j hj hk => by omega⟩
  have HBE := Lib.hid hBe
  clear hg hBe hown
  go_wp2_with fail
  go_loopw [4] (fun i wr => ∃ k : Nat, k ≤ n ∧ i = .int .i64 k ∧ LLK xss w B k wr ∧ Below w.heap.size w wr) (fun i _ => n - (intOf i).toNat)
  case atStart => exact ⟨0, Nat.zero_le _, rfl, HST.out, hB1⟩
  case round =>
    obtain ⟨k, hk, rfl, hown, hB⟩ := hrel
    obtain ⟨wo, rfl⟩ : ∃ wo : World, wo = wr := ⟨_, rfl⟩
    have HW := Lib.hid hown
    have HB := Lib.hid hB
    by_cases hlt : k < n
    · have hkg : k < xss.length := by rw [← HN.out]; exact hlt
      rcases HI.out with hn | ⟨x, rfl, hc⟩
      · rw [hn] at hkg; simp at hkg
      obtain ⟨u, c0, hu⟩ := hc k hkg
      have d0 := (hB.cell (lt_of_cell c0)).trans c0
      have HT := Lib.hid (toI_any u xss[k] wo (HR.out _ (List.getElem_mem hkg)) (by
        obtain ⟨A', c', hv', h'⟩ := hu
        refine ⟨A', c', hv', h'.imp id ?_⟩
        rintro ⟨a, ha, hcc⟩
        exact ⟨a, ha, fun j hj => (hB.cell (lt_of_cell (hcc j hj))).trans (hcc j hj)⟩))
      have HLT : Hid (B + 1 ≤ wo.heap.size) := Lib.hid (by obtain ⟨vs, h1, h2, _⟩ := hown; exact (h2.lt B rfl).2)
      have HST := Lib.hid (fun (w' : World) (y : Value) (hb : Below wo.heap.size wo w') (hy : OwnsI w' wo.heap.size y xss[k]) => (hown.kept hb).store hkg (own_lower hy HLT.out))
      clear c0 hc hown hB hu
      go_wp2_with fail
      refine HT.out.mono ?_
      rintro e w5 ⟨y, rfl, hy, hB5⟩
      obtain ⟨Ay, cy, rfl⟩ := own_slice hy
      obtain ⟨u0, e0, f0⟩ := (HW.out.kept hB5).cell k hkg
      have HS := Lib.hid (HST.out w5 _ hB5 hy)
      have HB5 := Lib.hid ((HB.out.trans (hB5.mono HB.out.size)).setCell (p := ⟨B, k, none⟩) (by rw [← HBE.out]; exact Nat.le_refl _) (.slice Ay xss[k].length cy))
      clear hy hB5 d0
      go_wp2_with fail
      go_roundw
      case rel => exact ⟨k + 1, by omega, by go_num, HS.out, HB5.out⟩
      case measure => simp [intOf]; omega
    · obtain rfl : k = n := by omega
      clear hown hB
      go_wp2_with fail
      go_ret
      refine ⟨_, rfl, ?_, HB.out⟩
      have := HW.out
      rw [HN.out] at this ⊢
      rw [← HBE.out]
      exact this.all
set_option maxRecDepth 100000 in
set_option maxHeartbeats 1600000 in
theorem toAuto_any (v : Value) (x : Au) (w : World) (hf : FewA x) (h : IsAu w v x) :
    Calls Try.prog 20 #[v] w fun e w' => ∃ y, e = .returned y ∧ IsAu w' y x ∧ Below w.heap.size w w' := by
  obtain ⟨f, n, rfl, hF, hN⟩ := h
  obtain ⟨st, go, fin, nx⟩ := x
  simp only at hF hN
  have hf1 := hf.fin
  have hf2 := hf.nx
  have hf3 := hf.row
  simp only at hf1 hf2 hf3
  obtain ⟨Af, cf, rfl⟩ := hF.shape
  obtain ⟨An, cn, rfl, hNn⟩ := hN
  have hN : IsLL w (.slice An nx.length cn) nx := ⟨An, cn, rfl, hNn⟩
  have HF := Lib.hid hF
  have HNL := Lib.hid hN
  clear hF hN hNn hf
  show Calls Try.prog _ #[.agg #[.int .i64 st, .int .i64 go, .slice Af fin.length cf, .slice An nx.length cn]] _ _
  go_enter Try.func20, Try.ntmps20
  go_upto_region 4 with fail
  obtain ⟨hP, hZ, hR, hB3, hs3⟩ := al3 w (.cells #[.int .i64 st, .int .i64 go, .slice Af fin.length cf, .slice An nx.length cn] 25) (.cells #[.int .i64 0, .int .i64 0, .slice none 0 0, .slice none 0 0] 33) (.cells #[.int .i64 st, .int .i64 go, .slice none 0 0, .slice none 0 0] 33)
  generalize ((w.alloc (.cells #[.int .i64 st, .int .i64 go, .slice Af fin.length cf, .slice An nx.length cn] 25)).alloc (.cells #[.int .i64 0, .int .i64 0, .slice none 0 0, .slice none 0 0] 33)).alloc (.cells #[.int .i64 st, .int .i64 go, .slice none 0 0, .slice none 0 0] 33) = w3 at *
  obtain ⟨⟨_, _, p2, p3⟩, _⟩ := blk4_cells hP
  have HS3 := Lib.hid hs3
  have HP := Lib.hid hP
  have HZ := Lib.hid hZ
  have HR := Lib.hid hR
  have HB3 := Lib.hid hB3
  have HF3 := Lib.hid (HF.out.kept hB3)
  clear hs3 hP hZ hR hB3
  go_wp2_with fail
  refine (toI_any _ fin _ hf1 HF3.out).mono ?_
  rintro e w4 ⟨y1, rfl, hy1, hB4⟩
  have hP := (hB4.block w.heap.size (by rw [HS3.out]; omega)).trans HP.out
  have hZ := (hB4.block (w.heap.size + 1) (by rw [HS3.out]; omega)).trans HZ.out
  have hR := (hB4.block (w.heap.size + 2) (by rw [HS3.out]; omega)).trans HR.out
  have HB4 := Lib.hid (HB3.out.trans (hB4.mono (by rw [HS3.out]; omega)))
  obtain ⟨A1, c1, rfl⟩ := own_slice hy1
  have HS4 : Hid (w.heap.size + 3 ≤ w4.heap.size) := Lib.hid (by have := hB4.size; rw [HS3.out] at this; exact this)
  obtain ⟨⟨_, _, r2, _⟩, _, _, f2, _⟩ := blk4_cells hR
  have HR5 := Lib.hid (blk4_2 (c' := .slice A1 fin.length c1) hR)
  have HP5 := Lib.hid ((Below.heap_setCell w4 ⟨w.heap.size + 2, 2, none⟩ (.slice A1 fin.length c1) w.heap.size (by simp)).trans hP)
  have HZ5 := Lib.hid ((Below.heap_setCell w4 ⟨w.heap.size + 2, 2, none⟩ (.slice A1 fin.length c1) (w.heap.size + 1) (by simp)).trans hZ)
  have HO5 := Lib.hid (own_setLow hy1 ⟨w.heap.size + 2, 2, none⟩ (.slice A1 fin.length c1) (by rw [HS3.out]; simp))
  have HB5 := Lib.hid (HB4.out.setCell (p := ⟨w.heap.size + 2, 2, none⟩) (by simp) (.slice A1 fin.length c1))
  have HS5 : Hid (w.heap.size + 3 ≤ (w4.setCell ⟨w.heap.size + 2, 2, none⟩ (.slice A1 fin.length c1)).heap.size) := Lib.hid (by have := HS4.out; simpa [World.setCell] using this)
  clear hy1 hB4 hP hZ hR p2
  go_upto_region 5 with fail
  generalize w4.setCell ⟨w.heap.size + 2, 2, none⟩ (.slice A1 fin.length c1) = w5 at *
  obtain ⟨⟨_, _, p2, p3⟩, _⟩ := blk4_cells HP5.out
  have HN5 := Lib.hid (HNL.out.kept HB5.out)
  clear r2 f2
  go_wp2_with fail
  refine (toLL_any _ nx _ hf2 hf3 HN5.out).mono ?_
  rintro e w6 ⟨y2, rfl, hy2, hB6⟩
  have hZ := (hB6.block (w.heap.size + 1) (by have := HS5.out; omega)).trans HZ5.out
  have hR := (hB6.block (w.heap.size + 2) (by have := HS5.out; omega)).trans HR5.out
  obtain ⟨A2, c2, rfl, _⟩ := hy2.isLL
  obtain ⟨⟨_, _, _, r3⟩, _, _, _, f3⟩ := blk4_cells hR
  have HR7 := Lib.hid (blk4_3 (d' := .slice A2 nx.length c2) hR)
  have HZ7 := Lib.hid ((Below.heap_setCell w6 ⟨w.heap.size + 2, 3, none⟩ (.slice A2 nx.length c2) (w.heap.size + 1) (by simp)).trans hZ)
  have HO7 := Lib.hid (own_setLow (own_below HO5.out hB6 (Nat.le_refl _)) ⟨w.heap.size + 2, 3, none⟩ (.slice A2 nx.length c2) (by rw [HS3.out]; simp))
  have HL7 := Lib.hid (hy2.far ⟨w.heap.size + 2, 3, none⟩ (.slice A2 nx.length c2) (by have := HS5.out; simp only; omega))
  have HB7 := Lib.hid ((HB5.out.trans (hB6.mono (by have := HS5.out; omega))).setCell (p := ⟨w.heap.size + 2, 3, none⟩) (by simp) (.slice A2 nx.length c2))
  clear hy2 hB6 hZ hR p2 p3
  go_upto_region 6 with fail
  generalize w6.setCell ⟨w.heap.size + 2, 3, none⟩ (.slice A2 nx.length c2) = w7 at *
  obtain ⟨⟨q0, q1, q2, q3⟩, _⟩ := blk4_cells HR7.out
  obtain ⟨⟨z0, z1, z2, z3⟩, g0, g1, g2, g3⟩ := blk4_cells HZ7.out
  have HE := Lib.hid (blk4_cells (blk4_all (a' := .int .i64 st) (b' := .int .i64 go) (c' := .slice A1 fin.length c1) (d' := .slice A2 nx.length c2) HZ7.out)).1
  clear r3 f3
  go_wp2_with fail
  obtain ⟨y0, y1, y2, y3⟩ := HE.out
  refine bodyPost_ret (v := .agg #[.int .i64 st, .int .i64 go, .slice A1 fin.length c1, .slice A2 nx.length c2]) (by simp [results, Try.results20, go_sem, y0, y1, y2, y3]) rfl ⟨_, rfl, ⟨_, _, rfl, ?_, ?_⟩, ?_⟩
  · refine IsL.of_own (own_setLow (own_setLow (own_setLow (own_setLow HO7.out _ _ ?_) _ _ ?_) _ _ ?_) _ _ ?_) <;> (rw [HS3.out]; simp)
  · refine OwnLL.isLL ((((HL7.out.far _ _ ?_).far _ _ ?_).far _ _ ?_).far _ _ ?_) <;> (have := HS5.out; simp only; omega)
  · exact (((HB7.out.setCell (by simp) _).setCell (by simp) _).setCell (by simp) _).setCell (by simp) _
end Go.Proofs.Ytaffachjopjbgaa
