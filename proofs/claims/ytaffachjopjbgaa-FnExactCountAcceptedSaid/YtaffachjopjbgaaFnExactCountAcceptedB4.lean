/-
  Part 4 of the texts on which FnExactCountAccepted rests, one behind the other: contracts and numbers of what the law's two functions call. No condition beyond those that each theorem names.
-/
import Derived.Test.YtaffachjopjbgaaFnExactCountAcceptedB3
namespace Go.Proofs.Ytaffachjopjbgaa
open Go.RowKit
open Wd
set_option linter.unusedVariables false
theorem Rws.setLow {w : World} {lo : Nat} {U : List Value} {Z : List (List Int)} (h : Rws w lo U Z) (p : Addr) (u : Value) (hp : p.block < lo) : Rws (w.setCell p u) lo U Z :=
  ⟨h.len, fun j y zs a b => own_setLow (h.row j y zs a b) p u hp, h.ne⟩
theorem take_set_snoc (vs : List Value) (k : Nat) (u : Value) (h : k < vs.length) : (vs.set k u).take (k + 1) = vs.take k ++ [u] := by
  rw [List.take_succ_eq_append_getElem (by simpa using h), List.take_set_of_le (Nat.le_refl _)]
  simp
/-- rows of the call's own, at most so many yet, in a row that was made as long as it will be -/
def LLW (xss : List (List Int)) (B k : Nat) (wr : World) : Prop :=
  ∃ vs : List Value, vs.length = xss.length ∧ wr.ownsRow B 22 1 (.slice (some ⟨B, 0, none⟩) xss.length xss.length) xss.length vs ∧ Rws wr (B + 1) (vs.take k) (xss.take k)
theorem LLW.cell {xss : List (List Int)} {wr : World} {B k : Nat} (h : LLW xss B k wr) (j : Nat) (hj : j < xss.length) : ∃ u, wr.cell? ⟨B, j, none⟩ = some u ∧ wr.frozen? ⟨B, j, none⟩ = false := by
  obtain ⟨vs, h1, h2, h3⟩ := h
  exact ⟨_, (h2.cellAt j (by omega)).trans (List.getElem?_eq_getElem (by omega)), h2.frozenAt j⟩
theorem LLW.kept {xss : List (List Int)} {wr w1 : World} {B k : Nat} (h : LLW xss B k wr) (hb : Below wr.heap.size wr w1) : LLW xss B k w1 := by
  obtain ⟨vs, h1, h2, h3⟩ := h
  exact ⟨vs, h1, own_below h2 hb (Nat.le_refl _), h3.kept hb⟩
theorem LLW.store {xss : List (List Int)} {wr w1 : World} {B k : Nat} {u : Value} (h : LLW xss B k wr) (hk : k < xss.length) (hb : Below wr.heap.size wr w1) (hu : OwnsI w1 wr.heap.size u xss[k]) : LLW xss B (k + 1) (w1.setCell ⟨B, k, none⟩ u) := by
  obtain ⟨vs, h1, h2, h3⟩ := h
  have h2' := own_below h2 hb (Nat.le_refl _)
  have hlt := (h2.lt B rfl).2
  refine ⟨vs.set k u, by simpa using h1, (h2'.stored k u).1, ?_⟩
  rw [take_set_snoc vs k u (by omega), List.take_succ_eq_append_getElem hk]
  refine Rws.snoc ((h3.kept hb).setLow ⟨B, k, none⟩ u (by simp)) (own_setLow (own_lower hu (by omega)) _ _ (by simp)) (fun y hy => ?_)
  cases e : y.ownBlock with
  | none => exact .inl rfl
  | some q => exact .inr fun e' => by have a := (h3.ge y hy q e).2; have b := (hu.lt q e'.symm).1; omega
theorem LLW.all {xss : List (List Int)} {wr : World} {B : Nat} (h : LLW xss B xss.length wr) : ∃ U, OwnM wr B (.slice (some ⟨B, 0, none⟩) xss.length xss.length) U xss := by
  obtain ⟨vs, h1, h2, h3⟩ := h
  rw [List.take_of_length_le (by omega), List.take_of_length_le (Nat.le_refl _)] at h3
  exact ⟨vs, by rw [h1]; exact h2, h3.lower (by omega)⟩
set_option maxRecDepth 100000 in
set_option maxHeartbeats 1600000 in
theorem toLLW_any (v : Value) (xss : List (List Int)) (w : World) (hn : xss.length ≤ 1048576) (hr : ∀ r ∈ xss, r.length ≤ 1048576) (h : IsLL w v xss) :
    Calls Try.prog 84 #[v] w fun e w' => ∃ y, e = .returned y ∧ (∃ U, OwnM w' w.heap.size y U xss) ∧ Below w.heap.size w w' := by
  obtain ⟨i0, hi, hz0, hz1, hz2⟩ := info_parts Try.info_ints
  obtain ⟨A, c, rfl, hin⟩ := h
  have HI := Lib.hid hin
  obtain ⟨n, hn'⟩ : ∃ n, n = xss.length := ⟨_, rfl⟩
  rw [← hn'] at hn ⊢
  have HN := Lib.hid hn'
  have HR := Lib.hid hr
  clear hin hn' hr
  go_enter Try.func84, Try.ntmps84
  go_wp2_with (refine wpList_make_full _ rfl _ _ 23 rfl w.heap.size 22 i0 (.slice none 0 0) 1 Try.underlying23 hi hz0 hz1 .i64 .i64 _ _ n rfl rfl rfl rfl (by rw [hz2]; omega) (by unfold maxLen; omega) (Nat.le_refl _) ?_)
  intro w1 hown hg
  have hB1 := below_of_grown hg
  obtain ⟨B, hBe⟩ : ∃ B, B = w.heap.size := ⟨_, rfl⟩
  rw [← hBe] at hown ⊢
  have HST : Hid (LLW xss B 0 w1) := Lib.hid ⟨List.replicate n (.slice none 0 0), by simp [HN.out], by
    have h := hown
    rw [made_nil] at h
    rw [← HN.out]; exact h, by rw [List.take_zero, List.take_zero]; exact Rws.nil _ _⟩
  have HBE := Lib.hid hBe
  clear hg hBe hown
  go_wp2_with fail
  go_loopw [4] (fun i wr => ∃ k : Nat, k ≤ n ∧ i = .int .i64 k ∧ LLW xss B k wr ∧ Below w.heap.size w wr) (fun i _ => n - (intOf i).toNat)
  case atStart => exact ⟨0, Nat.zero_le _, rfl, HST.out, hB1⟩
  case round =>
    obtain ⟨k, hk, rfl, hown, hB⟩ := hrel
    obtain ⟨wo, rfl⟩ : ∃ wo : World, wo = wr := ⟨_, rfl⟩
    have HW := Lib.hid hown
    have HB := Lib.hid hB
    by_cases hlt : k < n
    · have hkg : k < xss.length := by rw [← HN.out]; exact hlt
      rcases HI.out with hn | ⟨x, rfl, hc⟩
      · rw [hn] at hkg; simp at hkg
      obtain ⟨u, c0, hu⟩ := hc k hkg
      have d0 := (hB.cell (lt_of_cell c0)).trans c0
      have HT := Lib.hid (toI_any u xss[k] wo (HR.out _ (List.getElem_mem hkg)) (by
        obtain ⟨A', c', hv', h'⟩ := hu
        refine ⟨A', c', hv', h'.imp id ?_⟩
        rintro ⟨a, ha, hcc⟩
        exact ⟨a, ha, fun j hj => (hB.cell (lt_of_cell (hcc j hj))).trans (hcc j hj)⟩))
      have HST := Lib.hid (fun (w' : World) (y : Value) (hb : Below wo.heap.size wo w') (hy : OwnsI w' wo.heap.size y xss[k]) => hown.store hkg hb hy)
      clear c0 hc hown hB hu
      go_wp2_with fail
      refine HT.out.mono ?_
      rintro e w5 ⟨y, rfl, hy, hB5⟩
      obtain ⟨Ay, cy, rfl⟩ := own_slice hy
      obtain ⟨u0, e0, f0⟩ := (HW.out.kept hB5).cell k hkg
      have HS := Lib.hid (HST.out w5 _ hB5 hy)
      have HB5 := Lib.hid ((HB.out.trans (hB5.mono HB.out.size)).setCell (p := ⟨B, k, none⟩) (by rw [← HBE.out]; exact Nat.le_refl _) (.slice Ay xss[k].length cy))
      clear hy hB5 d0
      go_wp2_with fail
      go_roundw
      case rel => exact ⟨k + 1, by omega, by go_num, HS.out, HB5.out⟩
      case measure => simp [intOf]; omega
    · obtain rfl : k = n := by omega
      clear hown hB
      go_wp2_with fail
      go_ret
      refine ⟨_, rfl, ?_, HB.out⟩
      have := HW.out
      rw [HN.out] at this ⊢
      rw [← HBE.out]
      exact this.all
set_option maxRecDepth 100000 in
set_option maxHeartbeats 1600000 in
theorem toAutoO_any (v : Value) (x : Au) (w : World) (hf : FewA x) (h : IsAu w v x) :
    Calls Try.prog 20 #[v] w fun e w' => ∃ f n U, e = .returned (.agg #[.int .i64 x.st, .int .i64 x.go, f, n]) ∧ OwnA w' w.heap.size f n U x.fin x.nx ∧ Below w.heap.size w w' := by
  obtain ⟨f, n, rfl, hF, hN⟩ := h
  obtain ⟨st, go, fin, nx⟩ := x
  simp only at hF hN
  have hf1 := hf.fin
  have hf2 := hf.nx
  have hf3 := hf.row
  simp only at hf1 hf2 hf3
  obtain ⟨Af, cf, rfl⟩ := hF.shape
  obtain ⟨An, cn, rfl, hNn⟩ := hN
  have hN : IsLL w (.slice An nx.length cn) nx := ⟨An, cn, rfl, hNn⟩
  have HF := Lib.hid hF
  have HNL := Lib.hid hN
  clear hF hN hNn hf
  show Calls Try.prog _ #[.agg #[.int .i64 st, .int .i64 go, .slice Af fin.length cf, .slice An nx.length cn]] _ _
  go_enter Try.func20, Try.ntmps20
  go_upto_region 4 with fail
  obtain ⟨hP, hZ, hR, hB3, hs3⟩ := al3 w (.cells #[.int .i64 st, .int .i64 go, .slice Af fin.length cf, .slice An nx.length cn] 25) (.cells #[.int .i64 0, .int .i64 0, .slice none 0 0, .slice none 0 0] 33) (.cells #[.int .i64 st, .int .i64 go, .slice none 0 0, .slice none 0 0] 33)
  generalize ((w.alloc (.cells #[.int .i64 st, .int .i64 go, .slice Af fin.length cf, .slice An nx.length cn] 25)).alloc (.cells #[.int .i64 0, .int .i64 0, .slice none 0 0, .slice none 0 0] 33)).alloc (.cells #[.int .i64 st, .int .i64 go, .slice none 0 0, .slice none 0 0] 33) = w3 at *
  obtain ⟨⟨_, _, p2, p3⟩, _⟩ := blk4_cells hP
  have HS3 := Lib.hid hs3
  have HP := Lib.hid hP
  have HZ := Lib.hid hZ
  have HR := Lib.hid hR
  have HB3 := Lib.hid hB3
  have HF3 := Lib.hid (HF.out.kept hB3)
  clear hs3 hP hZ hR hB3
  go_wp2_with fail
  refine (toI_any _ fin _ hf1 HF3.out).mono ?_
  rintro e w4 ⟨y1, rfl, hy1, hB4⟩
  have hP := (hB4.block w.heap.size (by rw [HS3.out]; omega)).trans HP.out
  have hZ := (hB4.block (w.heap.size + 1) (by rw [HS3.out]; omega)).trans HZ.out
  have hR := (hB4.block (w.heap.size + 2) (by rw [HS3.out]; omega)).trans HR.out
  have HB4 := Lib.hid (HB3.out.trans (hB4.mono (by rw [HS3.out]; omega)))
  obtain ⟨A1, c1, rfl⟩ := own_slice hy1
  have HS4 : Hid (w.heap.size + 3 ≤ w4.heap.size) := Lib.hid (by have := hB4.size; rw [HS3.out] at this; exact this)
  obtain ⟨⟨_, _, r2, _⟩, _, _, f2, _⟩ := blk4_cells hR
  have HR5 := Lib.hid (blk4_2 (c' := .slice A1 fin.length c1) hR)
  have HP5 := Lib.hid ((Below.heap_setCell w4 ⟨w.heap.size + 2, 2, none⟩ (.slice A1 fin.length c1) w.heap.size (by simp)).trans hP)
  have HZ5 := Lib.hid ((Below.heap_setCell w4 ⟨w.heap.size + 2, 2, none⟩ (.slice A1 fin.length c1) (w.heap.size + 1) (by simp)).trans hZ)
  have HO5 := Lib.hid (own_setLow hy1 ⟨w.heap.size + 2, 2, none⟩ (.slice A1 fin.length c1) (by rw [HS3.out]; simp))
  have HB5 := Lib.hid (HB4.out.setCell (p := ⟨w.heap.size + 2, 2, none⟩) (by simp) (.slice A1 fin.length c1))
  have HS5 : Hid (w.heap.size + 3 ≤ (w4.setCell ⟨w.heap.size + 2, 2, none⟩ (.slice A1 fin.length c1)).heap.size) := Lib.hid (by have := HS4.out; simpa [World.setCell] using this)
  clear hy1 hB4 hP hZ hR p2
  go_upto_region 5 with fail
  generalize w4.setCell ⟨w.heap.size + 2, 2, none⟩ (.slice A1 fin.length c1) = w5 at *
  obtain ⟨⟨_, _, p2, p3⟩, _⟩ := blk4_cells HP5.out
  have HN5 := Lib.hid (HNL.out.kept HB5.out)
  clear r2 f2
  go_wp2_with fail
  have hlo5 : Hid (∀ q, (Value.slice A1 fin.length c1).ownBlock = some q → q < w5.heap.size) := Lib.hid (fun q hq => (HO5.out.lt q hq).2)
  refine (toLLW_any _ nx _ hf2 hf3 HN5.out).mono ?_
  rintro e w6 ⟨y2, rfl, hy2, hB6⟩
  have hZ := (hB6.block (w.heap.size + 1) (by have := HS5.out; omega)).trans HZ5.out
  have hR := (hB6.block (w.heap.size + 2) (by have := HS5.out; omega)).trans HR5.out
  obtain ⟨U, hy2⟩ := hy2
  obtain ⟨A2, c2, hy2e⟩ := own_slice hy2.outer
  rw [hy2.len] at hy2e
  subst hy2e
  obtain ⟨⟨_, _, _, r3⟩, _, _, _, f3⟩ := blk4_cells hR
  have HR7 := Lib.hid (blk4_3 (d' := .slice A2 nx.length c2) hR)
  have HZ7 := Lib.hid ((Below.heap_setCell w6 ⟨w.heap.size + 2, 3, none⟩ (.slice A2 nx.length c2) (w.heap.size + 1) (by simp)).trans hZ)
  have HO7 := Lib.hid (own_setLow (own_below HO5.out hB6 (Nat.le_refl _)) ⟨w.heap.size + 2, 3, none⟩ (.slice A2 nx.length c2) (by rw [HS3.out]; simp))
  have HL7 := Lib.hid (hy2.setLow ⟨w.heap.size + 2, 3, none⟩ (.slice A2 nx.length c2) (by have := HS5.out; simp only; omega))
  have HNE := Lib.hid (fun u (hu : u ∈ U) => (by
    cases e : (Value.slice A1 fin.length c1).ownBlock with
    | none => exact .inl rfl
    | some q => exact .inr fun e' => by have a := hlo5.out q e; have b := (hy2.rows.ge u hu q e'.symm).1; omega : (Value.slice A1 fin.length c1).ownBlock = none ∨ (Value.slice A1 fin.length c1).ownBlock ≠ u.ownBlock))
  have HB7 := Lib.hid ((HB5.out.trans (hB6.mono (by have := HS5.out; omega))).setCell (p := ⟨w.heap.size + 2, 3, none⟩) (by simp) (.slice A2 nx.length c2))
  clear hy2 hB6 hZ hR p2 p3
  go_upto_region 6 with fail
  generalize w6.setCell ⟨w.heap.size + 2, 3, none⟩ (.slice A2 nx.length c2) = w7 at *
  obtain ⟨⟨q0, q1, q2, q3⟩, _⟩ := blk4_cells HR7.out
  obtain ⟨⟨z0, z1, z2, z3⟩, g0, g1, g2, g3⟩ := blk4_cells HZ7.out
  have HE := Lib.hid (blk4_cells (blk4_all (a' := .int .i64 st) (b' := .int .i64 go) (c' := .slice A1 fin.length c1) (d' := .slice A2 nx.length c2) HZ7.out)).1
  clear r3 f3
  go_wp2_with fail
  obtain ⟨y0, y1, y2, y3⟩ := HE.out
  refine bodyPost_ret (v := .agg #[.int .i64 st, .int .i64 go, .slice A1 fin.length c1, .slice A2 nx.length c2]) (by simp [results, Try.results20, go_sem, y0, y1, y2, y3]) rfl ⟨_, _, U, rfl, ⟨?_, ?_, HNE.out⟩, ?_⟩
  · refine own_lower (own_setLow (own_setLow (own_setLow (own_setLow HO7.out _ _ ?_) _ _ ?_) _ _ ?_) _ _ ?_) (by rw [HS3.out]; omega) <;> (rw [HS3.out]; simp)
  · refine OwnM.lower ((((HL7.out.setLow _ _ ?_).setLow _ _ ?_).setLow _ _ ?_).setLow _ _ ?_) (by have := HS5.out; omega) <;> (have := HS5.out; simp only; omega)
  · exact (((HB7.out.setCell (by simp) _).setCell (by simp) _).setCell (by simp) _).setCell (by simp) _
end Go.Proofs.Ytaffachjopjbgaa
