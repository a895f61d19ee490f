/-
  Walks: spec.l04Rows; rows that are appended to rows.
-/
import Derived.Test.YtddjcgaejjldbaaOwnL
namespace Go.Proofs.Ytddjcgaejjldbaa
open Go.RowKit
open Wd
set_option linter.unusedVariables false
theorem OwnM.snoc {w w5 : World} {lo : Nat} {y y' u : Value} {U : List Value} {Z : List (List Int)} {z : List Int} {o : Obj} (h : OwnM w lo y U Z) (hu : OwnsI w lo u z)
    (hne : ∀ q ∈ U, q.ownBlock = none ∨ q.ownBlock ≠ u.ownBlock) (hown : w5.ownsRow lo 35 1 y' (U.length + 1) (U ++ [u])) (hg : (w.alloc o).grownBy w5 y.ownBlock) : OwnM w5 lo y' (U ++ [u]) (Z ++ [z]) := by
  refine ⟨by simpa using hown, Rws.snoc ⟨h.rows.len, fun j q zs h1 h2 => own_other (h.rows.row j q zs h1 h2) h.outer (by decide) hg, h.rows.ne⟩ (own_other hu h.outer (by decide) hg) hne⟩
theorem OwnM.fresh {w : World} {lo B : Nat} {y u : Value} {U : List Value} {Z : List (List Int)} {w' : World} {z : List Int} (h : OwnM w lo y U Z) (hB : w.heap.size ≤ B) (hu : OwnsI w' B u z) : ∀ q ∈ U, q.ownBlock = none ∨ q.ownBlock ≠ u.ownBlock := by
  intro q hq
  cases e : q.ownBlock with
  | none => exact .inl rfl
  | some g =>
    refine .inr fun e' => ?_
    have h1 := (h.rows.ge q hq g e).2
    have h2 := (hu.lt g e'.symm).1
    omega
/-- rows of the call's own, so many yet -/
def MSt (w : World) (Z : List (List Int)) (y : Value) (wr : World) : Prop := ∃ U, OwnM wr w.heap.size y U Z ∧ Below w.heap.size w wr
theorem MSt.start (w : World) (o : Obj) (ho : o = .cells #[] 35) : MSt w [] (.slice (some ⟨w.heap.size, 0, none⟩) 0 0) (w.alloc o) := by
  subst ho
  exact ⟨[], ⟨World.ownsRow_lit (base := w.heap.size) (e := 35) (size := 1) w #[] 0 (Nat.le_refl _) (by decide) rfl, Rws.nil _ _⟩, (Below.refl _ w).alloc (Nat.le_refl _) _⟩
theorem MSt.append {w wo w5 w6 : World} {Z : List (List Int)} {y y' u : Value} {z : List Int} {o : Obj} {U : List Value} (h : OwnM wo w.heap.size y U Z ∧ Below w.heap.size w wo) (hb : Below wo.heap.size wo w5) (hu : OwnsI w5 wo.heap.size u z)
    (hown : w6.ownsRow w.heap.size 35 1 y' (U.length + 1) (U ++ [u])) (hg : (w5.alloc o).grownBy w6 y.ownBlock) : MSt w (Z ++ [z]) y' w6 := by
  obtain ⟨h1, h2⟩ := h
  have hs := h2.size
  have hs5 := hb.size
  refine ⟨U ++ [u], (h1.kept hb).snoc (own_lower hu hs) (h1.fresh (Nat.le_refl _) hu) hown hg, ?_⟩
  exact ((h2.trans (hb.mono hs)).alloc (by omega) o).grown hg (by simp; omega) (fun q hq => (h1.outer.lt q hq).1)
theorem one_slice (A : Option Addr) (n c : Nat) : ∀ u ∈ [Value.slice A n c], u.oneCell' = true := by intro u hu; simp at hu; subst hu; rfl
set_option maxRecDepth 100000 in
set_option maxHeartbeats 3200000 in
theorem l04Rows_any (v : Value) (xss : List (List Int)) (w : World) (hn : xss.length ≤ 1048576) (hr : ∀ r ∈ xss, r.length ≤ 1048576) (h : IsLL w v xss) :
    Calls Try.prog 72 #[v] w fun e w' => ∃ y, e = .returned y ∧ MSt w xss y w' := by
  obtain ⟨i0, hi, hz0, hz1, hz2⟩ := info_parts Try.info_ints
  obtain ⟨A, c, rfl, hin⟩ := h
  have HI := Lib.hid hin
  obtain ⟨n, hn'⟩ : ∃ n, n = xss.length := ⟨_, rfl⟩
  rw [← hn'] at hn ⊢
  have HN := Lib.hid hn'
  have HR := Lib.hid hr
  have HS := Lib.hid (MSt.start w _ rfl)
  clear hin hn' hr
  go_enter Try.func72, Try.ntmps72
  go_wp2_with fail
  go_loopw [3, 4] (fun y i wr => ∃ k : Nat, k ≤ n ∧ i = .int .i64 k ∧ MSt w (xss.take k) y wr) (fun _ i _ => n - (intOf i).toNat)
  case atStart => exact ⟨0, Nat.zero_le _, rfl, by rw [List.take_zero]; exact HS.out⟩
  case round =>
    obtain ⟨k, hk, rfl, hst⟩ := hrel
    obtain ⟨wo, rfl⟩ : ∃ wo : World, wo = wr := ⟨_, rfl⟩
    obtain ⟨U, hm, hB⟩ := hst
    have HM := Lib.hid (And.intro hm hB)
    have hlenU := hm.len
    rw [List.length_take, Nat.min_eq_left (by rw [← HN.out]; exact hk)] at hlenU
    obtain ⟨Ay, cy, rfl⟩ := own_slice hm.outer
    have HLU := Lib.hid hlenU
    clear hlenU
    by_cases hlt : k < n
    · have hkg : k < xss.length := by rw [← HN.out]; exact hlt
      rcases HI.out with hn | ⟨x, rfl, hc⟩
      · rw [hn] at hkg; simp at hkg
      obtain ⟨u, c0, hu⟩ := hc k hkg
      have d0 := (hB.cell (lt_of_cell c0)).trans c0
      have HT := Lib.hid (ownI_any u xss[k] wo (HR.out _ (List.getElem_mem hkg)) (by
        obtain ⟨A', c', hv', h'⟩ := hu
        refine ⟨A', c', hv', h'.imp id ?_⟩
        rintro ⟨a, ha, hcc⟩
        exact ⟨a, ha, fun j hj => (hB.cell (lt_of_cell (hcc j hj))).trans (hcc j hj)⟩))
      have HTK : Hid (xss.take (k + 1) = xss.take k ++ [xss[k]]) := Lib.hid (List.take_succ_eq_append_getElem hkg)
      generalize xss[k] = r at *
      clear c0 hc hu hm hB
      go_wp2_with fail
      refine HT.out.mono ?_
      rintro e w5 ⟨y5, rfl, ho5, hB5⟩
      have HO5 := Lib.hid ho5
      have HB5 := Lib.hid hB5
      have HM5 := Lib.hid (HM.out.1.kept hB5)
      have hs5 : w.heap.size ≤ w5.heap.size := by have := HM.out.2.size; have := hB5.size; omega
      obtain ⟨A5, c5, rfl⟩ := own_slice ho5
      clear ho5 hB5
      go_wp2_with (first | (at_builtin; refine wpList_append_own _ rfl _ _ 22 rfl w.heap.size 35 i0 (.slice none 0 0) 1 24 Try.underlying22 hi hz0 hz1 hz2 rfl (by decide) _ _ _ rfl (HM5.out.outer.alloc _) ⟨w5.heap.size, 0, none⟩ 1 1 [.slice A5 r.length c5] rfl rfl (one_new _ _ _) (one_slice _ _ _) (by have := HLU.out; unfold maxLen; omega) (by have := HLU.out; omega) (by simp; omega) ?_))
      intro v' w6 hown hg _
      have HST := Lib.hid (MSt.append HM.out HB5.out HO5.out hown hg)
      clear hown hg
      go_wp2_with fail
      go_roundw
      case rel => exact ⟨k + 1, by omega, by go_num, by rw [HTK.out]; exact HST.out⟩
      case measure => simp [intOf]; omega
    · obtain rfl : k = n := by omega
      clear hm hB
      go_wp2_with fail
      go_ret
      refine ⟨_, rfl, U, ?_⟩
      have := HM.out
      rwa [HN.out, List.take_of_length_le (Nat.le_refl _)] at this
end Go.Proofs.Ytddjcgaejjldbaa
