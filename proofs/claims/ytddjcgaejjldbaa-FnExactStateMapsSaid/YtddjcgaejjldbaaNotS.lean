/-
  Walks over slices of numbers that came in: copies (spec.l00Own, slices.Clone), membership (spec.l00Has, slices.Index, slices.Contains).
  Walks: spec.l04Rows; rows that are appended to rows.
-/
import Derived.Test.YtddjcgaejjldbaaMat2
import Derived.Test.YtddjcgaejjldbaaAppN
import Derived.Test.YtddjcgaejjldbaaAuOk
namespace Go.Proofs.Ytddjcgaejjldbaa
open Go.RowKit
open Wd
set_option linter.unusedVariables false
theorem Try.info_int64 : (Try.prog.info? 2).map (fun i => (i.zero, i.size, i.bytes)) = some (some (.int .i64 0), 1, 8) := by kernel_rfl
theorem isL_cases {w : World} {v : Value} {zs : List Int} (h : IsL w v zs) :
    (∃ c, v = .slice none 0 c ∧ zs = []) ∨ ∃ a c, v = .slice (some a) zs.length c ∧ ∀ j u, (iv zs)[j]? = some u → w.cell? (a.add j) = some u := by
  obtain ⟨A, c, rfl, h⟩ := h
  cases A with
  | none =>
    rcases h with h | ⟨a, ha, _⟩
    · subst h; exact .inl ⟨c, rfl, rfl⟩
    · cases ha
  | some a =>
    refine .inr ⟨a, c, rfl, fun j u hu => ?_⟩
    rcases h with h | ⟨b, hb, hc⟩
    · subst h; simp [iv] at hu
    · injection hb with hb
      subst hb
      have hj : j < zs.length := by have := (List.getElem?_eq_some_iff.1 hu).1; rwa [iv_len] at this
      rw [iv_get zs j hj] at hu
      injection hu with hu
      subst hu
      exact hc j hj
theorem iv_cell (zs : List Int) : ∀ u ∈ iv zs, u.oneCell' = true := by
  intro u hu
  obtain ⟨x, _, rfl⟩ := List.mem_map.1 hu
  rfl
set_option maxRecDepth 100000 in
set_option maxHeartbeats 1600000 in
theorem ownI_any (v : Value) (zs : List Int) (w : World) (hn : zs.length ≤ 1048576) (h : IsL w v zs) :
    Calls Try.prog 126 #[v] w fun e w' => ∃ y, e = .returned y ∧ OwnsI w' w.heap.size y zs ∧ Below w.heap.size w w' := by
  obtain ⟨i0, hi, hz0, hz1, hz2⟩ := info_parts Try.info_int64
  have hb := (Below.refl _ w).alloc (Nat.le_refl _) (.cells #[] 2)
  have HB := Lib.hid hb
  have HL := Lib.hid (World.ownsRow_lit (base := w.heap.size) (e := 2) (size := 1) w #[] 0 (Nat.le_refl _) (by decide) rfl)
  rcases isL_cases h with ⟨c, rfl, rfl⟩ | ⟨ad, c, rfl, hc⟩
  · clear h hb
    go_enter Try.func126, Try.ntmps126
    go_wp2_with (first | (at_builtin; refine wpList_append_nilc rfl _ _ 35 rfl w.heap.size 2 i0 1 Try.underlying35 hi _ 0 [] rfl HL.out _ rfl ?_))
    go_ret
    exact ⟨_, rfl, HL.out, HB.out⟩
  · have HC := Lib.hid hc
    have HN := Lib.hid hn
    clear h hc hb
    go_enter Try.func126, Try.ntmps126
    go_wp2_with (first | (at_builtin; refine wpList_append_own _ rfl _ _ 35 rfl w.heap.size 2 i0 (.int .i64 0) 1 8 Try.underlying35 hi hz0 hz1 hz2 rfl (by decide) _ _ _ rfl HL.out ad zs.length c (iv zs) rfl (by rw [iv_len]; omega) (fun j u hu => (HB.out.cell (lt_of_cell (HC.out j u hu))).trans (HC.out j u hu)) (iv_cell zs) (by unfold maxLen; omega) (by omega) (by simp) ?_))
    intro v' w1 hown hg _
    have HO : Hid (OwnsI w1 w.heap.size v' zs) := Lib.hid (by
      unfold OwnsI
      simpa using hown)
    have HBF := Lib.hid (HB.out.grown hg (by simp) (fun q hq => (HL.out.lt q hq).1))
    clear hown hg
    go_wp2
    go_ret
    exact ⟨_, rfl, HO.out, HBF.out⟩
set_option maxRecDepth 100000 in
set_option maxHeartbeats 1600000 in
theorem cloneI_any (v : Value) (zs : List Int) (w : World) (hn : zs.length ≤ 1048576) (h : IsL w v zs) :
    Calls Try.prog 79 #[v] w fun e w' => ∃ y, e = .returned y ∧ OwnsI w' w.heap.size y zs ∧ Below w.heap.size w w' := by
  obtain ⟨i0, hi, hz0, hz1, hz2⟩ := info_parts Try.info_int64
  have qT : ∀ (w : World) (a : Option Addr) (n c n' c' : Nat), (binOp .eql 35 (.slice a n c) (.slice none n' c')).run Try.prog w = .ok (.bool a.isNone) w := fun w a n c n' c' => Lib.run_eql_slice_nil w _ _ a n c n' c' Try.underlying35
  rcases isL_cases h with ⟨c, rfl, rfl⟩ | ⟨ad, c, rfl, hc⟩
  · clear h
    go_enter Try.func79, Try.ntmps79
    go_wp2
    go_ret
    exact ⟨_, rfl, World.ownsRow_nil _ _ _ _, Below.refl _ _⟩
  · have HC := Lib.hid hc
    have hb := (Below.refl _ w).alloc (Nat.le_refl _) (.cells #[] 2)
    have HB := Lib.hid hb
    have HL := Lib.hid (World.ownsRow_lit (base := w.heap.size) (e := 2) (size := 1) w #[] 0 (Nat.le_refl _) (by decide) rfl)
    clear h hc hb
    go_enter Try.func79, Try.ntmps79
    go_wp2_with (first | (at_builtin; refine wpList_append_own _ rfl _ _ 35 rfl w.heap.size 2 i0 (.int .i64 0) 1 8 Try.underlying35 hi hz0 hz1 hz2 rfl (by decide) _ _ _ rfl HL.out ad zs.length c (iv zs) rfl (by rw [iv_len]; omega) (fun j u hu => (HB.out.cell (lt_of_cell (HC.out j u hu))).trans (HC.out j u hu)) (iv_cell zs) (by unfold maxLen; omega) (by omega) (by simp) ?_))
    intro v' w1 hown hg _
    have HO : Hid (OwnsI w1 w.heap.size v' zs) := Lib.hid (by
      unfold OwnsI
      simpa using hown)
    have HBF := Lib.hid (HB.out.grown hg (by simp) (fun q hq => (HL.out.lt q hq).1))
    clear hown hg
    go_wp2
    go_ret
    exact ⟨_, rfl, HO.out, HBF.out⟩
namespace Wd
/-- whether a number is in a list -/
def hasN (zs : List Int) (n : Int) : Bool := decide (n ∈ zs)
end Wd
theorem hasN_yes {zs : List Int} {n : Int} {k : Nat} (hk : k < zs.length) (h : zs[k] = n) : hasN zs n = true := decide_eq_true (h ▸ List.getElem_mem hk)
theorem hasN_no {zs : List Int} {n : Int} (h : ∀ j (hj : j < zs.length), zs[j] ≠ n) : hasN zs n = false := decide_eq_false (fun hm => by
  obtain ⟨j, hj, e⟩ := List.getElem_of_mem hm
  exact h j hj e)
set_option maxRecDepth 100000 in
set_option maxHeartbeats 1600000 in
theorem has_any (v : Value) (zs : List Int) (n : Int) (w : World) (hl : zs.length ≤ 1048576) (h : IsL w v zs) :
    Calls Try.prog 73 #[v, .int .i64 n] w fun e w' => e = .returned (.bool (hasN zs n)) ∧ w' = w := by
  obtain ⟨A, c, rfl, hin⟩ := h
  have HI := Lib.hid hin
  obtain ⟨N, hN⟩ : ∃ N, N = zs.length := ⟨_, rfl⟩
  rw [← hN] at hl ⊢
  have HN := Lib.hid hN
  clear hin hN
  go_enter Try.func73, Try.ntmps73
  go_wp2_with fail
  go_loopw [5] (fun i wr => ∃ k : Nat, k ≤ N ∧ i = .int .i64 k ∧ (∀ j (hj : j < zs.length), j < k → zs[j] ≠ n) ∧ wr = w) (fun i _ => N - (intOf i).toNat)
  case atStart => exact ⟨0, Nat.zero_le _, rfl, fun j hj h => by omega, rfl⟩
  case round =>
    obtain ⟨k, hk, rfl, hall, rfl⟩ := hrel
    have HA := Lib.hid hall
    clear hall
    by_cases hlt : k < N
    · have hkg : k < zs.length := by rw [← HN.out]; exact hlt
      rcases HI.out with hn | ⟨x, rfl, hc⟩
      · rw [hn] at hkg; simp at hkg
      have c0 := hc k hkg
      by_cases he : zs[k] = n
      · have HT := Lib.hid (hasN_yes hkg he)
        rw [he] at c0
        clear hc hkg he
        go_wp2_with fail
        go_ret
        exact ⟨by rw [HT.out] <;> rfl, rfl⟩
      · have HNX : Hid (∀ j (hj : j < zs.length), j < k + 1 → zs[j] ≠ n) := Lib.hid (fun j hj hjk => by
          by_cases e : j = k
          · subst e; exact he
          · exact HA.out j hj (by omega))
        have hq : (zs[k] == n) = false := by simpa using he
        generalize zs[k] = z at *
        clear hc hkg he
        go_wp2_with fail
        go_roundw
        all_goals first | exact ⟨k + 1, by omega, by go_num, HNX.out, by first | rfl | trivial⟩ | ((repeat apply Exists.intro); exact ⟨⟨k + 1, by omega, by go_num, HNX.out, by first | rfl | trivial⟩, by first | rfl | trivial⟩) | (simp [intOf]; done) | (simp [intOf]; omega) | omega
    · obtain rfl : k = N := by omega
      have HT : Hid (hasN zs n = false) := Lib.hid (hasN_no fun j hj => HA.out j hj (by rw [HN.out]; exact hj))
      clear HA
      go_wp2_with fail
      go_ret
      exact ⟨by rw [HT.out] <;> rfl, rfl⟩
set_option maxRecDepth 100000 in
set_option maxHeartbeats 1600000 in
theorem indexI_any (v : Value) (zs : List Int) (n : Int) (w : World) (hl : zs.length ≤ 1048576) (h : IsL w v zs) :
    Calls Try.prog 149 #[v, .int .i64 n] w fun e w' => ∃ y, e = .returned (.int .i64 y) ∧ w' = w ∧ ((hasN zs n = false ∧ y = -1) ∨ (hasN zs n = true ∧ 0 ≤ y)) := by
  obtain ⟨A, c, rfl, hin⟩ := h
  have HI := Lib.hid hin
  obtain ⟨N, hN⟩ : ∃ N, N = zs.length := ⟨_, rfl⟩
  rw [← hN] at hl ⊢
  have HN := Lib.hid hN
  clear hin hN
  go_enter Try.func149, Try.ntmps149
  go_wp2_with fail
  go_loopw [8] (fun i wr => ∃ k : Nat, k ≤ N ∧ i = .int .i64 k ∧ (∀ j (hj : j < zs.length), j < k → zs[j] ≠ n) ∧ wr = w) (fun i _ => N - (intOf i).toNat)
  case atStart => exact ⟨0, Nat.zero_le _, rfl, fun j hj h => by omega, rfl⟩
  case round =>
    obtain ⟨k, hk, rfl, hall, rfl⟩ := hrel
    have HA := Lib.hid hall
    clear hall
    by_cases hlt : k < N
    · have hkg : k < zs.length := by rw [← HN.out]; exact hlt
      rcases HI.out with hn | ⟨x, rfl, hc⟩
      · rw [hn] at hkg; simp at hkg
      have c0 := hc k hkg
      by_cases he : zs[k] = n
      · have HT := Lib.hid (hasN_yes hkg he)
        rw [he] at c0
        clear hc hkg he
        go_wp2_with fail
        go_ret
        exact ⟨_, rfl, rfl, .inr ⟨HT.out, by omega⟩⟩
      · have HNX : Hid (∀ j (hj : j < zs.length), j < k + 1 → zs[j] ≠ n) := Lib.hid (fun j hj hjk => by
          by_cases e : j = k
          · subst e; exact he
          · exact HA.out j hj (by omega))
        have hq : (n == zs[k]) = false := by simpa using fun e => he (Eq.symm e)
        generalize zs[k] = z at *
        clear hc hkg he
        go_wp2_with fail
        go_roundw
        all_goals first | exact ⟨k + 1, by omega, by go_num, HNX.out, by first | rfl | trivial⟩ | ((repeat apply Exists.intro); exact ⟨⟨k + 1, by omega, by go_num, HNX.out, by first | rfl | trivial⟩, by first | rfl | trivial⟩) | (simp [intOf]; done) | (simp [intOf]; omega) | omega
    · obtain rfl : k = N := by omega
      have HT : Hid (hasN zs n = false) := Lib.hid (hasN_no fun j hj => HA.out j hj (by rw [HN.out]; exact hj))
      clear HA
      go_wp2_with fail
      go_ret
      exact ⟨_, rfl, rfl, .inl ⟨HT.out, rfl⟩⟩
theorem containsI_any (v : Value) (zs : List Int) (n : Int) (w : World) (hl : zs.length ≤ 1048576) (h : IsL w v zs) :
    Calls Try.prog 128 #[v, .int .i64 n] w fun e w' => e = .returned (.bool (hasN zs n)) ∧ w' = w := by
  have HX := Lib.hid (indexI_any v zs n w hl h)
  obtain ⟨A, c, rfl, _⟩ := h
  go_enter Try.func128, Try.ntmps128
  go_wp2_with fail
  refine HX.out.mono ?_
  rintro e w5 ⟨y, rfl, rfl, ⟨ha, rfl⟩ | ⟨ha, hy⟩⟩
  · have HA := Lib.hid ha
    clear ha
    go_wp2_with fail
    go_ret
    exact ⟨by rw [HA.out] <;> rfl, rfl⟩
  · have HA := Lib.hid ha
    have hd : decide (0 ≤ y) = true := decide_eq_true hy
    clear ha
    go_wp2_with fail
    go_ret
    exact ⟨by rw [HA.out] <;> first | rfl | (simp; done) | simp [hd], rfl⟩
theorem OwnM.snoc {w w5 : World} {lo : Nat} {y y' u : Value} {U : List Value} {Z : List (List Int)} {z : List Int} {o : Obj} (h : OwnM w lo y U Z) (hu : OwnsI w lo u z)
    (hne : ∀ q ∈ U, q.ownBlock = none ∨ q.ownBlock ≠ u.ownBlock) (hown : w5.ownsRow lo 35 1 y' (U.length + 1) (U ++ [u])) (hg : (w.alloc o).grownBy w5 y.ownBlock) : OwnM w5 lo y' (U ++ [u]) (Z ++ [z]) := by
  refine ⟨by simpa using hown, Rws.snoc ⟨h.rows.len, fun j q zs h1 h2 => own_other (h.rows.row j q zs h1 h2) h.outer (by decide) hg, h.rows.ne⟩ (own_other hu h.outer (by decide) hg) hne⟩
theorem OwnM.fresh {w : World} {lo B : Nat} {y u : Value} {U : List Value} {Z : List (List Int)} {w' : World} {z : List Int} (h : OwnM w lo y U Z) (hB : w.heap.size ≤ B) (hu : OwnsI w' B u z) : ∀ q ∈ U, q.ownBlock = none ∨ q.ownBlock ≠ u.ownBlock := by
  intro q hq
  cases e : q.ownBlock with
  | none => exact .inl rfl
  | some g =>
    refine .inr fun e' => ?_
    have h1 := (h.rows.ge q hq g e).2
    have h2 := (hu.lt g e'.symm).1
    omega
/-- rows of the call's own, so many yet -/
def MSt (w : World) (Z : List (List Int)) (y : Value) (wr : World) : Prop := ∃ U, OwnM wr w.heap.size y U Z ∧ Below w.heap.size w wr
theorem MSt.start (w : World) (o : Obj) (ho : o = .cells #[] 35) : MSt w [] (.slice (some ⟨w.heap.size, 0, none⟩) 0 0) (w.alloc o) := by
  subst ho
  exact ⟨[], ⟨World.ownsRow_lit (base := w.heap.size) (e := 35) (size := 1) w #[] 0 (Nat.le_refl _) (by decide) rfl, Rws.nil _ _⟩, (Below.refl _ w).alloc (Nat.le_refl _) _⟩
theorem MSt.append {w wo w5 w6 : World} {Z : List (List Int)} {y y' u : Value} {z : List Int} {o : Obj} {U : List Value} (h : OwnM wo w.heap.size y U Z ∧ Below w.heap.size w wo) (hb : Below wo.heap.size wo w5) (hu : OwnsI w5 wo.heap.size u z)
    (hown : w6.ownsRow w.heap.size 35 1 y' (U.length + 1) (U ++ [u])) (hg : (w5.alloc o).grownBy w6 y.ownBlock) : MSt w (Z ++ [z]) y' w6 := by
  obtain ⟨h1, h2⟩ := h
  have hs := h2.size
  have hs5 := hb.size
  refine ⟨U ++ [u], (h1.kept hb).snoc (own_lower hu hs) (h1.fresh (Nat.le_refl _) hu) hown hg, ?_⟩
  exact ((h2.trans (hb.mono hs)).alloc (by omega) o).grown hg (by simp; omega) (fun q hq => (h1.outer.lt q hq).1)
theorem one_slice (A : Option Addr) (n c : Nat) : ∀ u ∈ [Value.slice A n c], u.oneCell' = true := by intro u hu; simp at hu; subst hu; rfl
set_option maxRecDepth 100000 in
set_option maxHeartbeats 3200000 in
theorem l04Rows_any (v : Value) (xss : List (List Int)) (w : World) (hn : xss.length ≤ 1048576) (hr : ∀ r ∈ xss, r.length ≤ 1048576) (h : IsLL w v xss) :
    Calls Try.prog 72 #[v] w fun e w' => ∃ y, e = .returned y ∧ MSt w xss y w' := by
  obtain ⟨i0, hi, hz0, hz1, hz2⟩ := info_parts Try.info_ints
  obtain ⟨A, c, rfl, hin⟩ := h
  have HI := Lib.hid hin
  obtain ⟨n, hn'⟩ : ∃ n, n = xss.length := ⟨_, rfl⟩
  rw [← hn'] at hn ⊢
  have HN := Lib.hid hn'
  have HR := Lib.hid hr
  have HS := Lib.hid (MSt.start w _ rfl)
  clear hin hn' hr
  go_enter Try.func72, Try.ntmps72
  go_wp2_with fail
  go_loopw [3, 4] (fun y i wr => ∃ k : Nat, k ≤ n ∧ i = .int .i64 k ∧ MSt w (xss.take k) y wr) (fun _ i _ => n - (intOf i).toNat)
  case atStart => exact ⟨0, Nat.zero_le _, rfl, by rw [List.take_zero]; exact HS.out⟩
  case round =>
    obtain ⟨k, hk, rfl, hst⟩ := hrel
    obtain ⟨wo, rfl⟩ : ∃ wo : World, wo = wr := ⟨_, rfl⟩
    obtain ⟨U, hm, hB⟩ := hst
    have HM := Lib.hid (And.intro hm hB)
    have hlenU := hm.len
    rw [List.length_take, Nat.min_eq_left (by rw [← HN.out]; exact hk)] at hlenU
    obtain ⟨Ay, cy, rfl⟩ := own_slice hm.outer
    have HLU := Lib.hid hlenU
    clear hlenU
    by_cases hlt : k < n
    · have hkg : k < xss.length := by rw [← HN.out]; exact hlt
      rcases HI.out with hn | ⟨x, rfl, hc⟩
      · rw [hn] at hkg; simp at hkg
      obtain ⟨u, c0, hu⟩ := hc k hkg
      have d0 := (hB.cell (lt_of_cell c0)).trans c0
      have HT := Lib.hid (ownI_any u xss[k] wo (HR.out _ (List.getElem_mem hkg)) (by
        obtain ⟨A', c', hv', h'⟩ := hu
        refine ⟨A', c', hv', h'.imp id ?_⟩
        rintro ⟨a, ha, hcc⟩
        exact ⟨a, ha, fun j hj => (hB.cell (lt_of_cell (hcc j hj))).trans (hcc j hj)⟩))
      have HTK : Hid (xss.take (k + 1) = xss.take k ++ [xss[k]]) := Lib.hid (List.take_succ_eq_append_getElem hkg)
      generalize xss[k] = r at *
      clear c0 hc hu hm hB
      go_wp2_with fail
      refine HT.out.mono ?_
      rintro e w5 ⟨y5, rfl, ho5, hB5⟩
      have HO5 := Lib.hid ho5
      have HB5 := Lib.hid hB5
      have HM5 := Lib.hid (HM.out.1.kept hB5)
      have hs5 : w.heap.size ≤ w5.heap.size := by have := HM.out.2.size; have := hB5.size; omega
      obtain ⟨A5, c5, rfl⟩ := own_slice ho5
      clear ho5 hB5
      go_wp2_with (first | (at_builtin; refine wpList_append_own _ rfl _ _ 22 rfl w.heap.size 35 i0 (.slice none 0 0) 1 24 Try.underlying22 hi hz0 hz1 hz2 rfl (by decide) _ _ _ rfl (HM5.out.outer.alloc _) ⟨w5.heap.size, 0, none⟩ 1 1 [.slice A5 r.length c5] rfl rfl (one_new _ _ _) (one_slice _ _ _) (by have := HLU.out; unfold maxLen; omega) (by have := HLU.out; omega) (by simp; omega) ?_))
      intro v' w6 hown hg _
      have HST := Lib.hid (MSt.append HM.out HB5.out HO5.out hown hg)
      clear hown hg
      go_wp2_with fail
      go_roundw
      case rel => exact ⟨k + 1, by omega, by go_num, by rw [HTK.out]; exact HST.out⟩
      case measure => simp [intOf]; omega
    · obtain rfl : k = n := by omega
      clear hm hB
      go_wp2_with fail
      go_ret
      refine ⟨_, rfl, U, ?_⟩
      have := HM.out
      rwa [HN.out, List.take_of_length_le (Nat.le_refl _)] at this
end Go.Proofs.Ytddjcgaejjldbaa
