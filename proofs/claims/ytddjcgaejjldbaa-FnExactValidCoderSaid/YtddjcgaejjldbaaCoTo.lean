/-
  Walks: laws.toStringS, toStringSS: copies in new memory.
-/
import Derived.Test.YtddjcgaejjldbaaCoSz
import Derived.Deep.Cut
namespace Go.Proofs.Ytddjcgaejjldbaa
open Go.RowKit
open Wd
set_option linter.unusedVariables false
theorem Try.info_str : (Try.prog.info? 9).map (fun i => (i.zero, i.size, i.bytes)) = some (some (.string ⟨#[]⟩), 1, 16) := by kernel_rfl
theorem Try.info_strs : (Try.prog.info? 82).map (fun i => (i.zero, i.size, i.bytes)) = some (some (.slice none 0 0), 1, 24) := by kernel_rfl
theorem made_str (n : Nat) : (madeCells #[.string ⟨#[]⟩] n).toList = (List.replicate n (⟨#[]⟩ : ByteArray)).map Value.string := by
  apply List.ext_getElem
  · simp [madeCells]
  · intro i h1 h2
    simp [madeCells, Nat.mod_one]
namespace Wd
def toKS (zs : List ByteArray) (k : Nat) : List ByteArray := zs.take k ++ List.replicate (zs.length - k) ⟨#[]⟩
theorem toKS_len (zs : List ByteArray) (k : Nat) (h : k ≤ zs.length) : (toKS zs k).length = zs.length := by simp [toKS]; omega
theorem toKS_set (zs : List ByteArray) (k : Nat) (h : k < zs.length) : (toKS zs k).set k zs[k] = toKS zs (k + 1) := by
  unfold toKS
  have h1 : (zs.take k).length = k := by simp; omega
  rw [List.set_append_right _ _ (by omega), h1, Nat.sub_self, show zs.length - k = (zs.length - (k + 1)) + 1 from by omega, List.replicate_succ, List.set_cons_zero, List.take_succ_eq_append_getElem h, List.append_assoc]
  rfl
theorem toKS_zero (zs : List ByteArray) : toKS zs 0 = List.replicate zs.length ⟨#[]⟩ := by simp [toKS]
theorem toKS_all (zs : List ByteArray) : toKS zs zs.length = zs := by simp [toKS]
end Wd
set_option maxRecDepth 100000 in
set_option maxHeartbeats 1600000 in
theorem toS_any (v : Value) (zs : List ByteArray) (w : World) (hn : zs.length ≤ 1048576) (h : IsSL w v zs) :
    Calls Try.prog 116 #[v] w fun e w' => ∃ y, e = .returned y ∧ OwnsSL w' w.heap.size y zs ∧ Below w.heap.size w w' := by
  obtain ⟨i0, hi, hz0, hz1, hz2⟩ := info_parts Try.info_str
  obtain ⟨A, c, rfl, hin⟩ := h
  have HI := Lib.hid hin
  obtain ⟨n, hn'⟩ : ∃ n, n = zs.length := ⟨_, rfl⟩
  rw [← hn'] at hn ⊢
  have HN := Lib.hid hn'
  clear hin hn'
  go_enter Try.func116, Try.ntmps116
  go_wp2_with (refine wpList_make_full _ rfl _ _ 82 rfl w.heap.size 9 i0 (.string ⟨#[]⟩) 1 Try.underlying82 hi hz0 hz1 .i64 .i64 _ _ n rfl rfl rfl rfl (by rw [hz2]; omega) (by unfold maxLen; omega) (Nat.le_refl _) ?_)
  intro w1 hown hg
  have hB1 := below_of_grown hg
  rw [made_str, show List.replicate n (⟨#[]⟩ : ByteArray) = toKS zs 0 from by rw [toKS_zero, HN.out]] at hown
  obtain ⟨B, hBe⟩ : ∃ B, B = w.heap.size := ⟨_, rfl⟩
  rw [← hBe] at hown ⊢
  have HBE := Lib.hid hBe
  clear hg hBe
  go_wp2
  go_loopw [4] (fun i wr => ∃ k : Nat, k ≤ n ∧ i = .int .i64 k ∧ wr.ownsRow B 9 1 (.slice (some ⟨B, 0, none⟩) n n) n ((toKS zs k).map Value.string) ∧ Below w.heap.size w wr) (fun i _ => n - (intOf i).toNat)
  case atStart => exact ⟨0, Nat.zero_le _, rfl, hown, hB1⟩
  case round =>
    obtain ⟨k, hk, rfl, hown, hB⟩ := hrel
    by_cases hlt : k < n
    · have hkg : k < zs.length := by rw [← HN.out]; exact hlt
      rcases HI.out with hn | ⟨x, rfl, hc⟩
      · rw [hn] at hkg; simp at hkg
      have c0 := hc k hkg
      have d0 := (hB.cell (lt_of_cell c0)).trans c0
      have e0 := (hown.cellAt k (by omega)).trans (List.getElem?_eq_getElem (by simp [toKS_len zs k (by omega)]; exact hkg))
      have f0 : wr.frozen? ⟨B, k, none⟩ = false := hown.frozenAt _
      have hs := (hown.stored k (.string zs[k])).1
      rw [show ((toKS zs k).map Value.string).set k (.string zs[k]) = (toKS zs (k + 1)).map Value.string from by rw [← toKS_set zs k hkg]; simp [List.map_set]] at hs
      have HS := Lib.hid hs
      have HB := Lib.hid (hB.setCell (p := ⟨B, k, none⟩) (by rw [← HBE.out]; exact Nat.le_refl _) (.string zs[k]))
      generalize zs[k] = z at *
      clear c0 hc hown hB hs
      generalize ((toKS zs k).map Value.string)[k]'_ = u0 at *
      go_wp2
      go_roundw
      case rel => exact ⟨k + 1, by omega, by go_num, HS.out, HB.out⟩
      case measure => simp [intOf]; omega
    · obtain rfl : k = n := by omega
      go_wp2
      go_ret
      refine ⟨_, rfl, ?_, hB⟩
      unfold OwnsSL
      rw [← HN.out]
      have := hown
      rw [HN.out, toKS_all, ← HN.out] at this
      rw [HBE.out] at this ⊢
      exact this
/-- rows of the call's own, at most so many yet -/
def SLLK (xss : List (List ByteArray)) (w : World) (B k : Nat) (wr : World) : Prop :=
  ∃ vs : List Value, vs.length = xss.length ∧ wr.ownsRow B 82 1 (.slice (some ⟨B, 0, none⟩) xss.length xss.length) xss.length vs ∧ ∀ j (hj : j < xss.length), j < k → ∃ u, vs[j]? = some u ∧ OwnsSL wr (B + 1) u xss[j]
theorem SLLK.kept {xss : List (List ByteArray)} {w wr w1 : World} {B k : Nat} (h : SLLK xss w B k wr) (hb : Below wr.heap.size wr w1) : SLLK xss w B k w1 := by
  obtain ⟨vs, h1, h2, h3⟩ := h
  refine ⟨vs, h1, own_below h2 hb (Nat.le_refl _), fun j hj hk => ?_⟩
  obtain ⟨u, h4, h5⟩ := h3 j hj hk
  exact ⟨u, h4, own_below h5 hb (Nat.le_refl _)⟩
theorem SLLK.store {xss : List (List ByteArray)} {w wr : World} {B k : Nat} {u : Value} (h : SLLK xss w B k wr) (hk : k < xss.length) (hu : OwnsSL wr (B + 1) u xss[k]) : SLLK xss w B (k + 1) (wr.setCell ⟨B, k, none⟩ u) := by
  obtain ⟨vs, h1, h2, h3⟩ := h
  refine ⟨vs.set k u, by simpa using h1, (h2.stored k u).1, fun j hj hjk => ?_⟩
  by_cases e : j = k
  · subst e
    exact ⟨u, by rw [List.getElem?_set_self (by omega)], own_setLow hu _ _ (by simp)⟩
  · obtain ⟨y, h4, h5⟩ := h3 j hj (by omega)
    exact ⟨y, by rw [List.getElem?_set_ne (by omega)]; exact h4, own_setLow h5 _ _ (by simp)⟩
theorem SLLK.cell {xss : List (List ByteArray)} {w wr : World} {B k : Nat} (h : SLLK xss w B k wr) (j : Nat) (hj : j < xss.length) : ∃ u, wr.cell? ⟨B, j, none⟩ = some u ∧ wr.frozen? ⟨B, j, none⟩ = false := by
  obtain ⟨vs, h1, h2, h3⟩ := h
  exact ⟨_, (h2.cellAt j (by omega)).trans (List.getElem?_eq_getElem (by omega)), h2.frozenAt j⟩
/-- a slice of slices, all of them from a block on -/
def OwnSLL (w : World) (lo : Nat) (v : Value) (xss : List (List ByteArray)) : Prop :=
  ∃ (A : Option Addr) (c : Nat), v = .slice A xss.length c ∧ (xss = [] ∨ ∃ B, A = some ⟨B, 0, none⟩ ∧ lo ≤ B ∧ ∀ j (hj : j < xss.length), ∃ u, w.cell? ⟨B, j, none⟩ = some u ∧ OwnsSL w lo u xss[j])
theorem OwnSLL.isLL {w : World} {lo : Nat} {v : Value} {xss : List (List ByteArray)} (h : OwnSLL w lo v xss) : IsSLL w v xss := by
  obtain ⟨A, c, hv, h | ⟨B, hA, _, hc⟩⟩ := h
  · exact ⟨A, c, hv, .inl h⟩
  · refine ⟨A, c, hv, .inr ⟨_, hA, fun j hj => ?_⟩⟩
    obtain ⟨u, h1, h2⟩ := hc j hj
    exact ⟨u, by rw [add_zero']; exact h1, IsSL.of_own h2⟩
theorem OwnSLL.far {w : World} {lo : Nat} {v : Value} {xss : List (List ByteArray)} (h : OwnSLL w lo v xss) (p : Addr) (u : Value) (hp : p.block < lo) : OwnSLL (w.setCell p u) lo v xss := by
  obtain ⟨A, c, hv, h | ⟨B, hA, hB, hc⟩⟩ := h
  · exact ⟨A, c, hv, .inl h⟩
  · refine ⟨A, c, hv, .inr ⟨B, hA, hB, fun j hj => ?_⟩⟩
    obtain ⟨y, h1, h2⟩ := hc j hj
    exact ⟨y, (World.cell?_of_block (a := ⟨B, j, none⟩) (Below.heap_setCell w p u B (by omega))).trans h1, own_setLow h2 _ _ hp⟩
theorem SLLK.all {xss : List (List ByteArray)} {w wr : World} {B : Nat} (h : SLLK xss w B xss.length wr) : OwnSLL wr B (.slice (some ⟨B, 0, none⟩) xss.length xss.length) xss := by
  obtain ⟨vs, h1, h2, h3⟩ := h
  refine ⟨_, _, rfl, .inr ⟨B, rfl, Nat.le_refl _, fun j hj => ?_⟩⟩
  obtain ⟨u, h4, h5⟩ := h3 j hj hj
  exact ⟨u, by rw [h2.cellAt j (by omega)]; exact h4, own_lower h5 (by omega)⟩
theorem made_nilS (n : Nat) : (madeCells #[.slice none 0 0] n).toList = List.replicate n (.slice none 0 0) := by
  apply List.ext_getElem
  · simp [madeCells]
  · intro i h1 h2
    simp [madeCells, Nat.mod_one]
set_option maxRecDepth 100000 in
set_option maxHeartbeats 1600000 in
theorem toSS_any (v : Value) (xss : List (List ByteArray)) (w : World) (hn : xss.length ≤ 1048576) (hr : ∀ r ∈ xss, r.length ≤ 1048576) (h : IsSLL w v xss) :
    Calls Try.prog 58 #[v] w fun e w' => ∃ y, e = .returned y ∧ OwnSLL w' w.heap.size y xss ∧ Below w.heap.size w w' := by
  obtain ⟨i0, hi, hz0, hz1, hz2⟩ := info_parts Try.info_strs
  obtain ⟨A, c, rfl, hin⟩ := h
  have HI := Lib.hid hin
  obtain ⟨n, hn'⟩ : ∃ n, n = xss.length := ⟨_, rfl⟩
  rw [← hn'] at hn ⊢
  have HN := Lib.hid hn'
  have HR := Lib.hid hr
  clear hin hn' hr
  go_enter Try.func58, Try.ntmps58
  go_wp2_with (refine wpList_make_full _ rfl _ _ 23 rfl w.heap.size 82 i0 (.slice none 0 0) 1 Try.underlying23 hi hz0 hz1 .i64 .i64 _ _ n rfl rfl rfl rfl (by rw [hz2]; omega) (by unfold maxLen; omega) (Nat.le_refl _) ?_)
  intro w1 hown hg
  have hB1 := below_of_grown hg
  obtain ⟨B, hBe⟩ : ∃ B, B = w.heap.size := ⟨_, rfl⟩
  rw [← hBe] at hown ⊢
  have HST : Hid (SLLK xss w B 0 w1) := Lib.hid ⟨List.replicate n (.slice none 0 0), by simp [HN.out], by
    have h := hown
    rw [made_nilS] at h
    rw [← HN.out]; exact h, fun j hj hk => by omega⟩
  have HBE := Lib.hid hBe
  clear hg hBe hown
  go_wp2_with fail
  go_loopw [4] (fun i wr => ∃ k : Nat, k ≤ n ∧ i = .int .i64 k ∧ SLLK xss w B k wr ∧ Below w.heap.size w wr) (fun i _ => n - (intOf i).toNat)
  case atStart => exact ⟨0, Nat.zero_le _, rfl, HST.out, hB1⟩
  case round =>
    obtain ⟨k, hk, rfl, hown, hB⟩ := hrel
    obtain ⟨wo, rfl⟩ : ∃ wo : World, wo = wr := ⟨_, rfl⟩
    have HW := Lib.hid hown
    have HB := Lib.hid hB
    by_cases hlt : k < n
    · have hkg : k < xss.length := by rw [← HN.out]; exact hlt
      rcases HI.out with hn | ⟨x, rfl, hc⟩
      · rw [hn] at hkg; simp at hkg
      obtain ⟨u, c0, hu⟩ := hc k hkg
      have d0 := (hB.cell (lt_of_cell c0)).trans c0
      have HT := Lib.hid (toS_any u xss[k] wo (HR.out _ (List.getElem_mem hkg)) (by
        obtain ⟨A', c', hv', h'⟩ := hu
        refine ⟨A', c', hv', h'.imp id ?_⟩
        rintro ⟨a, ha, hcc⟩
        exact ⟨a, ha, fun j hj => (hB.cell (lt_of_cell (hcc j hj))).trans (hcc j hj)⟩))
      have HLT : Hid (B + 1 ≤ wo.heap.size) := Lib.hid (by obtain ⟨vs, h1, h2, _⟩ := hown; exact (h2.lt B rfl).2)
      have HST := Lib.hid (fun (w' : World) (y : Value) (hb : Below wo.heap.size wo w') (hy : OwnsSL w' wo.heap.size y xss[k]) => (hown.kept hb).store hkg (own_lower hy HLT.out))
      clear c0 hc hown hB hu
      go_wp2_with fail
      refine HT.out.mono ?_
      rintro e w5 ⟨y, rfl, hy, hB5⟩
      obtain ⟨Ay, cy, rfl⟩ := own_slice hy
      obtain ⟨u0, e0, f0⟩ := (HW.out.kept hB5).cell k hkg
      have HS := Lib.hid (HST.out w5 _ hB5 hy)
      have HB5 := Lib.hid ((HB.out.trans (hB5.mono HB.out.size)).setCell (p := ⟨B, k, none⟩) (by rw [← HBE.out]; exact Nat.le_refl _) (.slice Ay xss[k].length cy))
      clear hy hB5 d0
      go_wp2_with fail
      go_roundw
      case rel => exact ⟨k + 1, by omega, by go_num, HS.out, HB5.out⟩
      case measure => simp [intOf]; omega
    · obtain rfl : k = n := by omega
      clear hown hB
      go_wp2_with fail
      go_ret
      refine ⟨_, rfl, ?_, HB.out⟩
      have := HW.out
      rw [HN.out] at this ⊢
      rw [← HBE.out]
      exact this.all
end Go.Proofs.Ytddjcgaejjldbaa
