/-
  Walks: impl.wordLength, impl.LengthOf, spec.LengthOf.
-/
import Derived.Test.YtjkijboljffmcabVLen
import Derived.Test.YtjkijboljffmcabGramLen
namespace Go.Proofs.Ytjkijboljffmcab
open Go.RowKit
open Wd
set_option linter.unusedVariables false

/-- impl.wordLength of the lengths of all words -/
theorem wordLength_any (x : Value) (gs : List Rl) (B : Nat) (w : World) (hn : gs.length ≤ 1048576) (h : OwnsI w B x (lens gs)) :
    Calls Try.prog 55 #[x] w fun e w' => e = .returned (.int .i64 (wordLen gs)) ∧ w = w' := by
  by_cases h0 : gs.length = 0
  · have hz := wordLen_zero h0
    have hl : (lens gs).length = 0 := by rw [lens_len]; exact h0
    obtain ⟨A, c, rfl⟩ := own_slice h
    rw [hl]
    have HZ := Lib.hid hz
    clear h h0 hz hl
    go_enter Try.func55, Try.ntmps55
    go_wp2
    go_ret
    exact ⟨ret_int HZ.out.symm, rfl⟩
  · obtain ⟨m, hm⟩ : ∃ m, gs.length = m + 1 := ⟨gs.length - 1, by omega⟩
    have hl : (lens gs).length = m + 1 := by rw [lens_len]; exact hm
    rcases h.shape with ⟨_, h'⟩ | ⟨g, cap, rfl, _⟩
    · rw [h'] at hl; simp at hl
    have hc := h.cell m (by omega)
    have hw : wordLen gs = (lens gs)[m] := by
      unfold wordLen
      rw [hm, Nat.add_sub_cancel, List.getD_eq_getElem?_getD, List.getElem?_eq_getElem (by omega), Option.getD_some]
    rw [← hw] at hc
    rw [hl]
    have hm' : m ≤ 1048576 := by omega
    clear h h0 hw hl hm hn
    go_enter Try.func55, Try.ntmps55
    go_wp2
    go_ret
    exact ⟨rfl, rfl⟩

/-- behind a parameter's box -/
theorem rules_gp {w : World} {v : Value} {gs : List Rl} (h : Rules w v gs) (t : TypeId) : GP (w.alloc (.cells #[v] t)) w.heap.size gs :=
  ⟨v, cell_new w v t, h.kept ((Below.refl _ w).alloc (Nat.le_refl _) _)⟩

/-- the answer of LengthOf -/
def lenAns (gs : List Rl) : Int × Int := if gOk gs then (wordLen gs, 0) else (0, 1)

theorem specLengthOf (v : Value) (gs : List Rl) (w : World) (hf : FewR gs) (hr : Rules w v gs) :
    Calls Try.prog 19 #[.agg #[v]] w fun e w' => e = .returned (.tuple #[.int .i64 (lenAns gs).1, .int .i64 (lenAns gs).2]) ∧ Below w.heap.size w w' := by
  have hg := rules_gp hr 29
  have h1 := l02Ok_any w.heap.size gs _ hf hg
  have H1 := Lib.hid h1
  have H2 := Lib.hid (fun W (hW : GP W w.heap.size gs) hok => l02Length_any w.heap.size gs W hf hW hok)
  have HG := Lib.hid hg
  obtain ⟨A, c, rfl, _⟩ := hr
  unfold lenAns
  have hfs := gOk_fs (gs := gs)
  cases hok : gOk gs
  all_goals
    rw [hok] at H1
    have HK := Lib.hid hok
    have HFS := Lib.hid hfs
    clear hok hfs h1 hg
    go_enter Try.func19, Try.ntmps19
    go_wp2_with fail
    refine H1.out.mono ?_
    rintro e w1 ⟨rfl, hB1⟩
    have HB1 := Lib.hid hB1
    clear hB1
    go_wp2_with fail
  · go_ret2
    exact ⟨rfl, ((Below.refl _ w).alloc (Nat.le_refl _) _).trans (HB1.out.mono (by simp))⟩
  · refine (H2.out _ (HG.out.kept HB1.out) (HFS.out HK.out)).mono ?_
    rintro e w2 ⟨rfl, hB2⟩
    have HB2 := Lib.hid hB2
    clear hB2
    go_wp2_with fail
    go_ret2
    exact ⟨rfl, (((Below.refl _ w).alloc (Nat.le_refl _) _).trans (HB1.out.mono (by simp))).trans (HB2.out.mono (Nat.le_trans (by simp) HB1.out.size))⟩

theorem implLengthOf (v : Value) (gs : List Rl) (w : World) (hf : FewR gs) (hr : Rules w v gs) :
    Calls Try.prog 20 #[.agg #[v]] w fun e w' => e = .returned (.tuple #[.int .i64 (lenAns gs).1, .int .i64 (lenAns gs).2]) ∧ Below w.heap.size w w' := by
  have hb := (Below.refl _ w).alloc (Nat.le_refl _) (.cells #[v] 29)
  have h1 := len.vlen_any v gs _ hf (hr.kept hb)
  have H1 := Lib.hid h1
  have HB := Lib.hid hb
  have hn := hf.len
  obtain ⟨A, c, rfl, _⟩ := hr
  clear h1 hb
  unfold lenAns
  cases hok : gOk gs
  all_goals
    have HK := Lib.hid hok
    unfold LensPost at H1
    rw [hok] at H1
    clear hok
    go_enter Try.func20, Try.ntmps20
    go_wp2_with fail
    refine H1.out.mono ?_
    rintro e w1 ⟨x, rfl, ho, hB1⟩
    have HO := Lib.hid ho
    have HB1 := Lib.hid hB1
    clear hB1 ho
    go_wp2_with fail
  · go_ret2
    exact ⟨rfl, HB.out.trans (HB1.out.mono (by simp))⟩
  · refine (wordLength_any x gs _ w1 hn (HO.out trivial)).mono ?_
    rintro e w2 ⟨rfl, rfl⟩
    go_wp2_with fail
    go_ret2
    exact ⟨rfl, HB.out.trans (HB1.out.mono (by simp))⟩
end Go.Proofs.Ytjkijboljffmcab
