/-
  GValid, GLim, GPr, GPair, GJoinS, PcJ, RulC, GRenum, GRaise, AppN, GClone, GConc, GJoinD, GJoinI, in one text.
-/
import Derived.Test.YtlgpleeanmeenaaFnExactRunsGrammarK2
import Derived.Test.YtlgpleeanmeenaaFnExactRunsGrammarK1
import Derived.Deep.AppendLies
import Derived.Deep.RegionHeld3
import Derived.Lib.SliceRun
import Derived.WalkSpells
import Derived.Test.YtlgpleeanmeenaaShelf
namespace Go.Proofs.Ytlgpleeanmeenaa
open Go.RowKit
open Wd
set_option linter.unusedVariables false

theorem implValidGrammar (v : Value) (gs : List Rl) (w : World) (hf : FewR gs) (hr : Rules w v gs) :
    Calls Try.prog 102 #[.agg #[v]] w fun e w' => e = .returned (.bool (gOk gs)) ∧ Below w.heap.size w w' := by
  have hb := (Below.refl _ w).alloc (Nat.le_refl _) (.cells #[v] 26)
  have h1 := len.vlen_any v gs _ hf (hr.kept hb)
  have H1 := Lib.hid h1
  have HB := Lib.hid hb
  obtain ⟨A, c, rfl, _⟩ := hr
  clear h1 hb
  go_enter Try.func102, Try.ntmps102
  go_wp2_with fail
  refine H1.out.mono ?_
  rintro e w1 ⟨x, rfl, _, hB1⟩
  have HB1 := Lib.hid hB1
  clear hB1
  go_wp2_with fail
  go_ret
  exact ⟨rfl, HB.out.trans (HB1.out.mono (by simp))⟩
end Go.Proofs.Ytlgpleeanmeenaa
namespace Go.Proofs.Ytlgpleeanmeenaa
open Go.RowKit
open Wd
set_option linter.unusedVariables false

namespace Wd
def limV (gs : List Rl) (v : Value) : Value := if gOk gs then v else .slice none 0 0
def limC (gs : List Rl) : Int := if gOk gs then 0 else 3
def limG (gs : List Rl) : List Rl := if gOk gs then gs else []
end Wd
theorem lim_own {w : World} {B : Nat} {v : Value} {gs : List Rl} (h : OwnsR w B v gs) : OwnsR w B (limV gs v) (limG gs) := by
  unfold limV limG
  split
  · exact h
  · exact World.ownsRow_nil _ _ _ _

set_option maxHeartbeats 1600000 in
theorem limited_any (v : Value) (gs : List Rl) (w : World) (hf : FewR gs) (hr : Rules w v gs) :
    Calls Try.prog 81 #[v] w fun e w' => e = .returned (.tuple #[.agg #[limV gs v], .int .i64 (limC gs)]) ∧ Below w.heap.size w w' := by
  have hb : Below w.heap.size w ((w.alloc (.cells #[.slice none 0 0] 26)).alloc (.cells #[v] 26)) := ((Below.refl _ w).alloc (Nat.le_refl _) _).alloc (by simp) _
  have hv : Var ((w.alloc (.cells #[.slice none 0 0] 26)).alloc (.cells #[v] 26)) (w.heap.size + 1) v 26 := by
    have := Var.new (w.alloc (.cells #[.slice none 0 0] 26)) v 26
    rwa [show (w.alloc (.cells #[.slice none 0 0] 26)).heap.size = w.heap.size + 1 from by simp] at this
  have hv0 : Var ((w.alloc (.cells #[.slice none 0 0] 26)).alloc (.cells #[v] 26)) w.heap.size (.slice none 0 0) 26 := (Var.new w (.slice none 0 0) 26).kept ((Below.refl _ _).alloc (Nat.le_refl _) _)
  have h1 := implValidGrammar v gs _ hf (hr.kept hb)
  obtain ⟨A, c, rfl, _⟩ := hr
  have HB := Lib.hid hb
  have HV := Lib.hid hv
  have HV0 := Lib.hid hv0
  unfold limV limC
  cases hok : gOk gs
  all_goals
    rw [hok] at h1
    have H1 := Lib.hid h1
    clear h1 hok hb hv hv0
    go_enter Try.func81, Try.ntmps81
    go_wp2_with fail
    refine H1.out.mono ?_
    rintro e w1 ⟨rfl, hB1⟩
    obtain ⟨x0, x1⟩ := (HV.out.kept hB1).cell
    obtain ⟨y0, y1⟩ := (HV0.out.kept hB1).cell
    have HB1 := Lib.hid (HB.out.trans (hB1.mono (by simp; omega)))
    clear hB1
    go_wp2_with fail
  · refine bodyPost_ret (v := .tuple #[.agg #[.slice none 0 0], .int .i64 3]) (by simp [results, Try.results81, go_sem, y0]) rfl ⟨rfl, HB1.out.setCell (by simp) _⟩
  · refine bodyPost_ret (v := .tuple #[.agg #[.slice A gs.length c], .int .i64 0]) (by simp [results, Try.results81, go_sem, y0]) rfl ⟨rfl, HB1.out.setCell (by simp) _⟩

set_option maxHeartbeats 1600000 in
theorem told_any (v : Value) (gs : List Rl) (w : World) (hf : FewR gs) (hr : Rules w v gs) :
    Calls Try.prog 79 #[.agg #[v]] w fun e w' => e = .returned (.tuple #[.agg #[limV gs v], .int .i64 (limC gs)]) ∧ Below w.heap.size w w' := by
  have hb : Below w.heap.size w ((w.alloc (.cells #[v] 26)).alloc (.cells #[.slice none 0 0] 26)) := ((Below.refl _ w).alloc (Nat.le_refl _) _).alloc (by simp) _
  have hv : Var ((w.alloc (.cells #[v] 26)).alloc (.cells #[.slice none 0 0] 26)) (w.heap.size + 1) (.slice none 0 0) 26 := by
    have := Var.new (w.alloc (.cells #[v] 26)) (.slice none 0 0) 26
    rwa [show (w.alloc (.cells #[v] 26)).heap.size = w.heap.size + 1 from by simp] at this
  have hv0 : Var ((w.alloc (.cells #[v] 26)).alloc (.cells #[.slice none 0 0] 26)) w.heap.size v 26 := (Var.new w v 26).kept ((Below.refl _ _).alloc (Nat.le_refl _) _)
  have hg : GP ((w.alloc (.cells #[v] 26)).alloc (.cells #[.slice none 0 0] 26)) w.heap.size gs := (rules_gpT hr 26).kept ((Below.refl _ _).alloc (Nat.le_refl _) _)
  have h1 := l02Ok_any w.heap.size gs _ hf hg
  obtain ⟨A, c, rfl, _⟩ := hr
  have HB := Lib.hid hb
  have HV := Lib.hid hv
  have HV0 := Lib.hid hv0
  unfold limV limC
  cases hok : gOk gs
  all_goals
    rw [hok] at h1
    have H1 := Lib.hid h1
    clear h1 hok hb hv hv0 hg
    go_enter Try.func79, Try.ntmps79
    go_wp2_with fail
    refine H1.out.mono ?_
    rintro e w1 ⟨rfl, hB1⟩
    obtain ⟨x0, x1⟩ := (HV.out.kept hB1).cell
    obtain ⟨y0, y1⟩ := (HV0.out.kept hB1).cell
    have HB1 := Lib.hid (HB.out.trans (hB1.mono (by simp; omega)))
    clear hB1
    go_wp2_with fail
  · refine bodyPost_ret (v := .tuple #[.agg #[.slice none 0 0], .int .i64 3]) (by simp [results, Try.results79, go_sem, x0]) rfl ⟨rfl, HB1.out.setCell (by simp) _⟩
  · refine bodyPost_ret (v := .tuple #[.agg #[.slice A gs.length c], .int .i64 0]) (by simp [results, Try.results79, go_sem, x0]) rfl ⟨rfl, HB1.out.setCell (by simp) _⟩
end Go.Proofs.Ytlgpleeanmeenaa
namespace Go.Proofs.Ytlgpleeanmeenaa
open Go.RowKit
open Wd
set_option linter.unusedVariables false
namespace Wd
/-- a pair of two rules -/
def pairR (a b : Nat) : Rl := ⟨⟨#[]⟩, (a : Int), (b : Int)⟩
theorem sumL_app (a b : List Rl) : sumL (a ++ b) = sumL a + sumL b := by simp [sumL]
end Wd
theorem blk3 {w : World} {R : Nat} {t : TypeId} {a b c a' b' c' : Value} (h : w.heap[R]? = some (.cells #[a, b, c] t (0, 0))) :
    (((w.setCell ⟨R, 0, none⟩ a').setCell ⟨R, 1, none⟩ b').setCell ⟨R, 2, none⟩ c').heap[R]? = some (.cells #[a', b', c'] t (0, 0)) := by
  simp [World.setCell, Array.getElem?_modify, h]
theorem blk3_cells {w : World} {R : Nat} {t : TypeId} {a b c : Value} (h : w.heap[R]? = some (.cells #[a, b, c] t (0, 0))) :
    (w.cell? ⟨R, 0, none⟩ = some a ∧ w.cell? ⟨R, 1, none⟩ = some b ∧ w.cell? ⟨R, 2, none⟩ = some c) ∧ w.frozen? ⟨R, 0, none⟩ = false ∧ w.frozen? ⟨R, 1, none⟩ = false ∧ w.frozen? ⟨R, 2, none⟩ = false := by
  refine ⟨⟨?_, ?_, ?_⟩, ?_, ?_, ?_⟩
  · rw [cell_of_row _ _ _ _ _ _ h]; rfl
  · rw [cell_of_row _ _ _ _ _ _ h]; rfl
  · rw [cell_of_row _ _ _ _ _ _ h]; rfl
  · simp [World.frozen?, h]
  · simp [World.frozen?, h]
  · simp [World.frozen?, h]
theorem lastA (A : Option Addr) (n c : Nat) (hn : n ≤ 1048576) (w : World) :
    Calls Try.prog 119 #[.slice A n c] w fun e w' => e = .returned (.int .i64 ((n : Int) - 1)) ∧ w' = w := by
  go_enter Try.func119, Try.ntmps119
  go_wp2
  go_ret
  exact ⟨rfl, rfl⟩

theorem own_var_ne {w : World} {B e n s : Nat} {yv : Value} {xs : List Value} {V : Nat} {u : Value} {t : TypeId} (h : w.ownsRow B e s yv n xs) (hv : Var w V u t) (hne : e ≠ t) : yv.ownBlock ≠ some V := by
  rcases h.2 with ⟨rfl, _⟩ | ⟨g', cap, cur, rfl, _, hh, _⟩
  · simp [Value.ownBlock]
  · intro he
    have : g' = V := by simpa [Value.ownBlock] using he
    subst this
    unfold Var at hv
    rw [hh] at hv
    injection hv with hv
    injection hv with _ ht
    exact hne ht
theorem news3 (w : World) (x : Rl) (t : TypeId) : ∀ j u, (rc x)[j]? = some u → (w.alloc (.cells #[.string x.L, .int .i64 x.l, .int .i64 x.r] t)).cell? ((⟨w.heap.size, 0, none⟩ : Addr).add j) = some u :=
  World.news_of_block (cs := #[.string x.L, .int .i64 x.l, .int .i64 x.r]) (t := t) (fr := (0, 0)) (heap_alloc_new w _)
theorem rc_cell (x : Rl) : ∀ u ∈ rc x, u.oneCell' = true := by
  intro u hu
  simp only [rc, List.mem_cons, List.not_mem_nil, or_false] at hu
  rcases hu with rfl | rfl | rfl <;> rfl
theorem sum_ok {gs : List Rl} (h : gOk gs = true) : sumL gs ≤ gs.length := by
  have hf := (gOk_iff.1 h).2.1
  have : ∀ k, k ≤ gs.length → sumL (gs.take k) ≤ k := by
    intro k
    induction k with
    | zero => intro _; simp [sumL]
    | succ k ih =>
      intro hk
      rw [sumL_take gs k hk]
      have h1 := ih (by omega)
      have h2 := fits_at hf k hk
      have : gs[k].L.size ≤ 1 := by
        by_cases h0 : gs[k].L.size = 0
        · omega
        · have := (ok_letter h0).1 h2; omega
      omega
  have h3 := this gs.length (Nat.le_refl _)
  rwa [List.take_of_length_le (Nat.le_refl _)] at h3
theorem cell_far1 {w : World} {p q : Addr} {u v : Value} (h : w.cell? q = some v) (hne : q.block ≠ p.block) : (w.setCell p u).cell? q = some v :=
  (World.cell?_of_block (a := q) (Below.heap_setCell w p u q.block hne)).trans h

end Go.Proofs.Ytlgpleeanmeenaa
namespace Go.Proofs.Ytlgpleeanmeenaa
open Go.RowKit
open Wd
set_option linter.unusedVariables false
theorem pairA (a b : Int) (w : World) :
    Calls Try.prog 150 #[.int .i64 a, .int .i64 b] w fun e w' => e = .returned (.agg #[.string ⟨#[]⟩, .int .i64 a, .int .i64 b]) ∧ Below w.heap.size w w' := by
  have hb : Below w.heap.size w (w.alloc (.cells #[.string ⟨#[]⟩, .int .i64 0, .int .i64 0] 146)) := (Below.refl _ w).alloc (Nat.le_refl _) _
  have HB := Lib.hid ((Below.refl _ w).alloc (Nat.le_refl _) (.cells #[.string ⟨#[]⟩, .int .i64 a, .int .i64 b] 146))
  clear hb
  go_enter Try.func150, Try.ntmps150
  go_wp2
  refine bodyPost_ret (v := .agg #[.string ⟨#[]⟩, .int .i64 a, .int .i64 b]) (by simp [results, Try.results150, go_sem]) rfl ⟨rfl, HB.out⟩
end Go.Proofs.Ytlgpleeanmeenaa
namespace Go.Proofs.Ytlgpleeanmeenaa
open Go.RowKit
open Wd
set_option linter.unusedVariables false
namespace Wd
/-- a rule, raised -/
def raiseR (b : Int) (x : Rl) : Rl := if x.L.size = 0 then ⟨x.L, x.l + b, x.r + b⟩ else x
end Wd
set_option maxRecDepth 100000 in
set_option maxHeartbeats 1600000 in
theorem specRaised (x : Rl) (b : Int) (w : World) (h1 : 0 ≤ x.l ∧ x.l ≤ 1048576) (h2 : 0 ≤ x.r ∧ x.r ≤ 1048576) (hb : 0 ≤ b ∧ b ≤ 1048576) (hs : x.L.size ≤ maxLen) :
    Calls Try.prog 113 #[agg3 x, .int .i64 b] w fun e w' => e = .returned (agg3 (raiseR b x)) ∧ Below w.heap.size w w' := by
  obtain ⟨L, l, r⟩ := x
  simp only at h1 h2 hs
  have hB : ∀ o o', Below w.heap.size w ((w.alloc o).alloc o') := fun o o' => ((Below.refl _ w).alloc (Nat.le_refl _) o).alloc (by simp) o'
  have HB := Lib.hid hB
  clear hB
  by_cases h0 : L.size = 0
  · obtain rfl := empty_arr h0
    have hr : agg3 (raiseR b ⟨⟨#[]⟩, l, r⟩) = .agg #[.string ⟨#[]⟩, .int .i64 (l + b), .int .i64 (r + b)] := rfl
    rw [hr]
    show Calls Try.prog _ #[.agg #[.string ⟨#[]⟩, .int .i64 l, .int .i64 r], .int .i64 b] _ _
    clear hr
    go_enter Try.func113, Try.ntmps113
    go_wp2
    refine bodyPost_ret (v := .agg #[.string ⟨#[]⟩, .int .i64 (l + b), .int .i64 (r + b)]) (by simp [results, Try.results113, go_sem]) rfl ⟨rfl, HB.out _ _⟩
  · have hr : agg3 (raiseR b ⟨L, l, r⟩) = .agg #[.string L, .int .i64 l, .int .i64 r] := by unfold raiseR; rw [if_neg h0]
    rw [hr]
    show Calls Try.prog _ #[.agg #[.string L, .int .i64 l, .int .i64 r], .int .i64 b] _ _
    have h3 := full_list h0
    clear hr
    go_enter Try.func113, Try.ntmps113
    go_wp2
    refine bodyPost_ret (v := .agg #[.string L, .int .i64 l, .int .i64 r]) (by simp [results, Try.results113, go_sem]) rfl ⟨rfl, HB.out _ _⟩
end Go.Proofs.Ytlgpleeanmeenaa
namespace Go.Proofs.Ytlgpleeanmeenaa
open Go.RowKit
set_option linter.unusedVariables false
namespace Wd
/-- one behind the other, both not empty -/
def jnG (gs hs : List Rl) : List Rl := gs ++ hs.map (raiseR gs.length) ++ [pairR (gs.length - 1) (gs.length + hs.length - 1)]
theorem jn_len (gs hs : List Rl) : (jnG gs hs).length = gs.length + hs.length + 1 := by simp [jnG]; omega
theorem jn_low (gs hs : List Rl) (k : Nat) (hk : k < gs.length) : (jnG gs hs)[k]? = some gs[k] := by
  unfold jnG
  rw [List.append_assoc, List.getElem?_append_left hk, List.getElem?_eq_getElem hk]
theorem jn_mid (gs hs : List Rl) (k : Nat) (hk : k < hs.length) : (jnG gs hs)[gs.length + k]? = some (raiseR gs.length hs[k]) := by
  unfold jnG
  rw [List.append_assoc, List.getElem?_append_right (by omega), Nat.add_sub_cancel_left, List.getElem?_append_left (by simpa using hk), List.getElem?_map, List.getElem?_eq_getElem hk]
  rfl
theorem jn_top (gs hs : List Rl) : (jnG gs hs)[gs.length + hs.length]? = some (pairR (gs.length - 1) (gs.length + hs.length - 1)) := by
  unfold jnG
  rw [List.getElem?_append_right (by simp)]
  simp
theorem raise_size (b : Int) (x : Rl) : (raiseR b x).L = x.L := by unfold raiseR; split <;> rfl
theorem jn_fits {gs hs : List Rl} (h1 : fits gs = true) (h2 : fits hs = true) (hg : 0 < gs.length) (hh : 0 < hs.length) : fits (jnG gs hs) = true := by
  refine decide_eq_true fun k hk => ?_
  rw [jn_len] at hk
  by_cases a : k < gs.length
  · have e : (jnG gs hs)[k]'(by rw [jn_len]; omega) = gs[k] := Option.some.inj ((List.getElem?_eq_getElem _).symm.trans (jn_low gs hs k a))
    rw [e]
    exact fits_at h1 k a
  · by_cases b : k < gs.length + hs.length
    · obtain ⟨j, rfl⟩ : ∃ j, k = gs.length + j := ⟨k - gs.length, by omega⟩
      have hj : j < hs.length := by omega
      have e : (jnG gs hs)[gs.length + j]'(by rw [jn_len]; omega) = raiseR gs.length hs[j] := Option.some.inj ((List.getElem?_eq_getElem _).symm.trans (jn_mid gs hs j hj))
      rw [e]
      have hf := fits_at h2 j hj
      by_cases h0 : hs[j].L.size = 0
      · have h3 := (ok_pair h0).1 hf
        unfold raiseR
        rw [if_pos h0, ok_pair (by exact h0)]
        simp only
        omega
      · have h3 := (ok_letter h0).1 hf
        unfold raiseR
        rw [if_neg h0, ok_letter h0]
        exact h3
    · obtain rfl : k = gs.length + hs.length := by omega
      have e : (jnG gs hs)[gs.length + hs.length]'(by rw [jn_len]; omega) = pairR (gs.length - 1) (gs.length + hs.length - 1) := Option.some.inj ((List.getElem?_eq_getElem _).symm.trans (jn_top gs hs))
      rw [e, ok_pair (by rfl)]
      simp only [pairR]
      omega
theorem jn_lens_low (gs hs : List Rl) (k : Nat) (hk : k < gs.length) : (lens (jnG gs hs)).getD k 0 = (lens gs).getD k 0 := by
  unfold jnG
  rw [List.append_assoc]
  exact lens_pre _ _ k hk
theorem jn_lens_mid {gs hs : List Rl} (h1 : fits gs = true) (h2 : fits hs = true) (hg : 0 < gs.length) (hh : 0 < hs.length) : ∀ n k, k < n → k < hs.length → (lens (jnG gs hs)).getD (gs.length + k) 0 = (lens hs).getD k 0
  | 0, _, h, _ => by omega
  | n + 1, k, h, hk => by
    have hkl : gs.length + k < (jnG gs hs).length := by rw [jn_len]; omega
    have e : (jnG gs hs)[gs.length + k] = raiseR gs.length hs[k] := Option.some.inj ((List.getElem?_eq_getElem _).symm.trans (jn_mid gs hs k hk))
    have hfit := fits_at (jn_fits h1 h2 hg hh) _ hkl
    have hf := fits_at h2 k hk
    by_cases h0 : hs[k].L.size = 0
    · have h3 := (ok_pair h0).1 hf
      have hp1 := vals_pair (fun a b => a + b) _ _ hkl (by rw [e, raise_size]; exact h0) hfit
      have hp2 := vals_pair (fun a b => a + b) hs k hk h0 hf
      rw [e] at hp1
      unfold raiseR at hp1
      rw [if_pos h0] at hp1
      have i1 := jn_lens_mid h1 h2 hg hh n hs[k].l.toNat (by omega) (by omega)
      have i2 := jn_lens_mid h1 h2 hg hh n hs[k].r.toNat (by omega) (by omega)
      unfold lens at i1 i2 ⊢
      rw [hp1, hp2]
      simp only
      rw [show (hs[k].l + (gs.length : Int)).toNat = gs.length + hs[k].l.toNat from by omega, show (hs[k].r + (gs.length : Int)).toNat = gs.length + hs[k].r.toNat from by omega, i1, i2]
    · have hl1 := vals_letter (fun a b => a + b) _ _ hkl (by rw [e, raise_size]; exact h0)
      have hl2 := vals_letter (fun a b => a + b) hs k hk h0
      exact hl1.trans hl2.symm
theorem jn_wordLen {gs hs : List Rl} (h1 : fits gs = true) (h2 : fits hs = true) (hg : 0 < gs.length) (hh : 0 < hs.length) : wordLen (jnG gs hs) = wordLen gs + wordLen hs := by
  have hkl : gs.length + hs.length < (jnG gs hs).length := by rw [jn_len]; omega
  have e : (jnG gs hs)[gs.length + hs.length] = pairR (gs.length - 1) (gs.length + hs.length - 1) := Option.some.inj ((List.getElem?_eq_getElem _).symm.trans (jn_top gs hs))
  have hfit := fits_at (jn_fits h1 h2 hg hh) _ hkl
  have hp := vals_pair (fun a b => a + b) _ _ hkl (by rw [e]; rfl) hfit
  rw [e] at hp
  simp only [pairR, Int.toNat_natCast] at hp
  have i1 := jn_lens_low gs hs (gs.length - 1) (by omega)
  have i2 := jn_lens_mid h1 h2 hg hh hs.length (hs.length - 1) (by omega) (by omega)
  unfold wordLen
  rw [jn_len, show gs.length + hs.length + 1 - 1 = gs.length + hs.length from by omega]
  rw [show gs.length + hs.length - 1 = gs.length + (hs.length - 1) from by omega] at hp
  unfold lens at i1 i2 ⊢
  rw [hp, i1, i2]
/-- a join of valid grammars is valid where it has few rules and a short word -/
theorem jn_ok {gs hs : List Rl} (h1 : gOk gs = true) (h2 : gOk hs = true) (hg : 0 < gs.length) (hh : 0 < hs.length) (hw : wordLen gs + wordLen hs ≤ 1000000000000000) (hl : gs.length + hs.length + 1 ≤ 400) : gOk (jnG gs hs) = true := by
  obtain ⟨_, f1, s1⟩ := gOk_iff.1 h1
  obtain ⟨_, f2, s2⟩ := gOk_iff.1 h2
  refine gOk_iff.2 ⟨by rw [jn_len]; exact hl, jn_fits f1 f2 hg hh, decide_eq_true fun k hk => ?_⟩
  rw [jn_len] at hk
  by_cases a : k < gs.length
  · rw [jn_lens_low _ _ _ a]; exact small_at s1 k a
  · by_cases b : k < gs.length + hs.length
    · obtain ⟨j, rfl⟩ : ∃ j, k = gs.length + j := ⟨k - gs.length, by omega⟩
      rw [jn_lens_mid f1 f2 hg hh (j + 1) j (by omega) (by omega)]
      exact small_at s2 j (by omega)
    · obtain rfl : k = gs.length + hs.length := by omega
      have := jn_wordLen f1 f2 hg hh
      unfold wordLen at this
      rw [jn_len, show gs.length + hs.length + 1 - 1 = gs.length + hs.length from by omega] at this
      rw [this]
      exact hw
end Wd
end Go.Proofs.Ytlgpleeanmeenaa
namespace Go.Proofs.Ytlgpleeanmeenaa
open Go.RowKit
open Wd
set_option linter.unusedVariables false
/-- rules, and no fewer places than rules -/
def RulesC (w : World) (v : Value) (gs : List Rl) : Prop := Rules w v gs ∧ ∀ A n c, v = .slice A n c → n ≤ c
theorem RulesC.kept {w w' : World} {v : Value} {gs : List Rl} (h : RulesC w v gs) (hb : Below w.heap.size w w') : RulesC w' v gs := ⟨h.1.kept hb, h.2⟩
theorem RulesC.of_own {w : World} {B e : Nat} {v : Value} {gs : List Rl} (h : w.ownsRow B e 3 v gs.length (rv gs)) : RulesC w v gs := by
  refine ⟨Rules.of_own h, fun A n c e => ?_⟩
  rcases h.2 with ⟨rfl, h0⟩ | ⟨g, cap, cur, rfl, hb, hg, hc, _⟩
  · injection e with e1 e2 e3
    omega
  · injection e with e1 e2 e3
    omega
theorem rules_addr {w : World} {A : Option Addr} {n c : Nat} {gs : List Rl} (h : Rules w (.slice A n c) gs) (h0 : 0 < gs.length) : ∃ g, A = some ⟨g, 0, none⟩ := by
  obtain ⟨A', c', e, h⟩ := h
  injection e with e1 e2 e3
  subst e1
  rcases h with h | ⟨g, hA, _⟩
  · rw [h] at h0; simp at h0
  · exact ⟨g, hA⟩
theorem rules_take {w : World} {A : Option Addr} {c n q : Nat} {gs : List Rl} (h : Rules w (.slice A n c) gs) (hq : q < gs.length) (c' : Nat) : Rules w (.slice A (q + 1) c') (gs.take (q + 1)) := by
  obtain ⟨A', c1, e, h⟩ := h
  injection e with e1 e2 e3
  subst e1
  refine ⟨A, c', by rw [List.length_take, Nat.min_eq_left (by omega)], ?_⟩
  rcases h with h | ⟨g, hA, hg, hc⟩
  · rw [h] at hq; simp at hq
  · refine .inr ⟨g, hA, hg, fun j u hu => hc j u ?_⟩
    have : rv gs = rv (gs.take (q + 1)) ++ rv (gs.drop (q + 1)) := by rw [← rv_app, List.take_append_drop]
    rw [this, List.getElem?_append_left (List.getElem?_eq_some_iff.1 hu).1]
    exact hu
end Go.Proofs.Ytlgpleeanmeenaa
namespace Go.Proofs.Ytlgpleeanmeenaa
open Go.RowKit
open Wd
set_option linter.unusedVariables false

theorem adds_any (n b : Int) (pb : Nat) (w : World) (hn : 0 ≤ n ∧ n ≤ 1048576) (hb : 0 ≤ b ∧ b ≤ 1048576) (hp : w.cell? ⟨pb, 0, none⟩ = some (.int .i64 b)) :
    Calls Try.prog 196 #[.int .i64 n, .pointer (some ⟨pb, 0, none⟩)] w fun e w' => e = .returned (.int .i64 (n + b)) ∧ w = w' := by
  go_enter Try.func196, Try.ntmps196
  go_wp2
  go_ret
  exact ⟨rfl, rfl⟩

theorem ta_lp (v : Value) (w : World) : (Instr.typeAssert (.iface 222 v) 220 223 true).run Try.prog w = .ok (.tuple #[.agg #[.string ⟨#[]⟩, .int .i64 0, .int .i64 0], .bool false]) w := by kernel_rfl

set_option maxRecDepth 100000 in
set_option maxHeartbeats 3200000 in
theorem renum_letter (x : Rl) (b : Int) (f : Value) (w : World) (h : x.L.size ≠ 0) :
    Calls Try.prog 174 #[agg3 x, f] w fun e w' => e = .returned (agg3 (raiseR b x)) ∧ Below w.heap.size w w' := by
  have hx : raiseR b x = x := by unfold raiseR; rw [if_neg h]
  rw [hx]
  have HK := Lib.hid (fun W => kind_letter x h W)
  obtain ⟨L, l, r⟩ := x
  have HB := Lib.hid (fun (o o' : Obj) => ((Below.refl _ w).alloc (Nat.le_refl _) o).alloc (by simp) o')
  have HTL := ta_lp
  have k0 : ((w.alloc (.cells #[.string L, .int .i64 l, .int .i64 r] 146)).alloc (.cells #[.string ⟨#[]⟩, .int .i64 0, .int .i64 0] 146)).heap[w.heap.size]? = some (.cells #[.string L, .int .i64 l, .int .i64 r] 146 (0, 0)) := (((Below.refl _ (w.alloc (.cells #[.string L, .int .i64 l, .int .i64 r] 146))).alloc (Nat.le_refl _) _).block w.heap.size (by simp)).trans (heap_alloc_new w _)
  have k1 : ((w.alloc (.cells #[.string L, .int .i64 l, .int .i64 r] 146)).alloc (.cells #[.string ⟨#[]⟩, .int .i64 0, .int .i64 0] 146)).heap[w.heap.size + 1]? = some (.cells #[.string ⟨#[]⟩, .int .i64 0, .int .i64 0] 146 (0, 0)) := by
    have := heap_alloc_new (w.alloc (.cells #[.string L, .int .i64 l, .int .i64 r] 146)) (.cells #[.string ⟨#[]⟩, .int .i64 0, .int .i64 0] 146)
    rwa [show (w.alloc (.cells #[.string L, .int .i64 l, .int .i64 r] 146)).heap.size = w.heap.size + 1 from by simp] at this
  have HK0 := Lib.hid k0
  have HK1 := Lib.hid k1
  clear h hx k0 k1
  show Calls Try.prog _ #[.agg #[.string L, .int .i64 l, .int .i64 r], f] _ _
  have hk : ∀ W, Calls Try.prog 171 #[.agg #[.string L, .int .i64 l, .int .i64 r]] W fun e w' => e = .returned (.iface 222 (.agg #[.string L, .int .i64 l, .int .i64 r])) ∧ Below W.heap.size W w' := HK.out
  have HK2 := Lib.hid hk
  clear hk
  go_enter Try.func174, Try.ntmps174
  go_wp2_with fail
  refine (HK2.out _).mono ?_
  rintro e w1 ⟨rfl, hB1⟩
  have HB1 := Lib.hid ((HB.out _ _).trans (hB1.mono (by simp; omega)))
  have e0 := (hB1.block w.heap.size (by simp; omega)).trans HK0.out
  have e1 := (hB1.block (w.heap.size + 1) (by simp)).trans HK1.out
  have E2 := Lib.hid (blk3_cells (blk3 (a' := .string L) (b' := .int .i64 l) (c' := .int .i64 r) e1)).1
  obtain ⟨⟨a0, a1, a2⟩, _⟩ := blk3_cells e0
  obtain ⟨⟨b0, b1, b2⟩, d0, d1, d2⟩ := blk3_cells e1
  clear e0 e1 hB1
  go_wp2_with fail
  obtain ⟨y0, y1, y2⟩ := E2.out
  refine bodyPost_ret (v := .agg #[.string L, .int .i64 l, .int .i64 r]) (by simp [results, Try.results174, go_sem, y0, y1, y2]) rfl ⟨rfl, ?_⟩
  exact ((HB1.out.setCell (by simp) _).setCell (by simp) _).setCell (by simp) _

set_option maxRecDepth 100000 in
set_option maxHeartbeats 6400000 in
theorem renum_pair (x : Rl) (b : Int) (pb : Nat) (w : World) (h : x.L.size = 0) (h1 : 0 ≤ x.l ∧ x.l ≤ 1048576) (h2 : 0 ≤ x.r ∧ x.r ≤ 1048576) (hb : 0 ≤ b ∧ b ≤ 1048576) (hp : w.cell? ⟨pb, 0, none⟩ = some (.int .i64 b)) :
    Calls Try.prog 174 #[agg3 x, .func (.func 196) #[] #[.pointer (some ⟨pb, 0, none⟩)]] w fun e w' => e = .returned (agg3 (raiseR b x)) ∧ Below w.heap.size w w' := by
  have hk := fun W => kind_pair x h W
  obtain ⟨L, l, r⟩ := x
  simp only at h h1 h2
  obtain rfl := empty_arr h
  have hx : agg3 (raiseR b ⟨⟨#[]⟩, l, r⟩) = .agg #[.string ⟨#[]⟩, .int .i64 (l + b), .int .i64 (r + b)] := rfl
  rw [hx]
  have HB := Lib.hid (fun (o o' : Obj) => ((Below.refl _ w).alloc (Nat.le_refl _) o).alloc (by simp) o')
  have HTP := ta_pp
  have k1 : ((w.alloc (.cells #[.string ⟨#[]⟩, .int .i64 l, .int .i64 r] 146)).alloc (.cells #[.string ⟨#[]⟩, .int .i64 0, .int .i64 0] 146)).heap[w.heap.size + 1]? = some (.cells #[.string ⟨#[]⟩, .int .i64 0, .int .i64 0] 146 (0, 0)) := by
    have := heap_alloc_new (w.alloc (.cells #[.string ⟨#[]⟩, .int .i64 l, .int .i64 r] 146)) (.cells #[.string ⟨#[]⟩, .int .i64 0, .int .i64 0] 146)
    rwa [show (w.alloc (.cells #[.string ⟨#[]⟩, .int .i64 l, .int .i64 r] 146)).heap.size = w.heap.size + 1 from by simp] at this
  have HK1 := Lib.hid k1
  have HP := Lib.hid hp
  have HL := Lib.hid (lt_of_cell hp)
  clear h hx k1 hp
  show Calls Try.prog _ #[.agg #[.string ⟨#[]⟩, .int .i64 l, .int .i64 r], _] _ _
  have hk' : ∀ W, Calls Try.prog 171 #[.agg #[.string ⟨#[]⟩, .int .i64 l, .int .i64 r]] W fun e w' => e = .returned (.iface 223 (.agg #[.string ⟨#[]⟩, .int .i64 l, .int .i64 r])) ∧ Below W.heap.size W w' := hk
  have HK2 := Lib.hid hk'
  clear hk hk'
  go_enter Try.func174, Try.ntmps174
  go_wp2_with fail
  refine (HK2.out _).mono ?_
  rintro e w1 ⟨rfl, hB1⟩
  have HB1 := Lib.hid ((HB.out _ _).trans (hB1.mono (by simp; omega)))
  have HE1 := Lib.hid ((hB1.block (w.heap.size + 1) (by simp)).trans HK1.out)
  have hs1 : w.heap.size + 2 ≤ w1.heap.size := by have := hB1.size; simp at this; omega
  clear hB1
  go_wp2_with fail
  have hb2 := (Below.refl _ w1).alloc (Nat.le_refl _) (.cells #[.string ⟨#[]⟩, .int .i64 l, .int .i64 r] 223)
  have hK := heap_alloc_new w1 (.cells #[.string ⟨#[]⟩, .int .i64 l, .int .i64 r] 223)
  obtain ⟨⟨c0, c1, c2⟩, _⟩ := blk3_cells hK
  have HE2 := Lib.hid ((hb2.block (w.heap.size + 1) (by omega)).trans HE1.out)
  have HB2 := Lib.hid (HB1.out.trans (hb2.mono HB1.out.size))
  obtain ⟨K, hKe⟩ : ∃ K, K = w1.heap.size := ⟨_, rfl⟩
  have hK1 : w.heap.size + 1 < K := by omega
  have hK2 : K < (w1.alloc (.cells #[.string ⟨#[]⟩, .int .i64 l, .int .i64 r] 223)).heap.size := by simp; omega
  rw [← hKe] at c0 c1 c2 ⊢
  generalize w1.alloc (.cells #[.string ⟨#[]⟩, .int .i64 l, .int .i64 r] 223) = w2 at *
  have HC := Lib.hid (And.intro c1 c2)
  have pc2 := (HB2.out.cell (p := ⟨pb, 0, none⟩) HL.out).trans HP.out
  have pcd : w2.drew.cell? ⟨pb, 0, none⟩ = some (.int .i64 b) := pc2
  have HPC := Lib.hid pcd
  have hKn : K ≠ w.heap.size + 1 := by omega
  have hlt1 : w.heap.size + 1 < w2.drew.heap.size := Nat.lt_trans hK1 hK2
  clear hK hb2 hKe c0
  go_region_held3 (fun w' => w'.cell? ⟨K, 1, none⟩ = some (.int .i64 l) ∧ w'.cell? ⟨K, 2, none⟩ = some (.int .i64 r)) (first | exact HC.out | exact HC7.out | exact HC8.out | go_keep) ((first
    | (go_at_call_of 196 (Value.int .i64 l); refine (adds_any _ _ _ _ (by omega) (by omega) HPC.out).mono ?_; rintro e wA ⟨rfl, rfl⟩)
    | (go_at_call_of 196 (Value.int .i64 r); refine (adds_any _ _ _ _ (by omega) (by omega) HPC.out).mono ?_; rintro e wA ⟨rfl, rfl⟩)
    | (go_at_call 150
       refine (pairA _ _ _).mono ?_
       rintro e w7 ⟨rfl, hB7⟩
       have HC7 := Lib.hid (And.intro ((hB7.cell (p := ⟨K, 1, none⟩) hK2).trans HC.out.1) ((hB7.cell (p := ⟨K, 2, none⟩) hK2).trans HC.out.2))
       have HC8 := Lib.hid (And.intro (cell_far1 (p := ⟨w.heap.size + 1, 2, none⟩) (u := .int .i64 (r + b)) (cell_far1 (p := ⟨w.heap.size + 1, 1, none⟩) (u := .int .i64 (l + b)) (cell_far1 (p := ⟨w.heap.size + 1, 0, none⟩) (u := .string ⟨#[]⟩) HC7.out.1 hKn) hKn) hKn) (cell_far1 (p := ⟨w.heap.size + 1, 2, none⟩) (u := .int .i64 (r + b)) (cell_far1 (p := ⟨w.heap.size + 1, 1, none⟩) (u := .int .i64 (l + b)) (cell_far1 (p := ⟨w.heap.size + 1, 0, none⟩) (u := .string ⟨#[]⟩) HC7.out.2 hKn) hKn) hKn))
       have e7 := (hB7.block (w.heap.size + 1) hlt1).trans HE2.out
       obtain ⟨⟨b0, b1, b2⟩, d0, d1, d2⟩ := blk3_cells e7
       have HE7 := Lib.hid (blk3_cells (blk3 (a' := .string ⟨#[]⟩) (b' := .int .i64 (l + b)) (c' := .int .i64 (r + b)) e7)).1
       have HB7 := Lib.hid (HB2.out.drew.trans (hB7.mono HB2.out.drew.size))
       clear e7 hB7)))
  obtain ⟨y0, y1, y2⟩ := HE7.out
  go_wp2_with fail
  refine bodyPost_ret (v := .agg #[.string ⟨#[]⟩, .int .i64 (l + b), .int .i64 (r + b)]) (by simp [results, Try.results174, go_sem, y0, y1, y2]) rfl ⟨rfl, ?_⟩
  exact ((HB7.out.setCell (by simp) _).setCell (by simp) _).setCell (by simp) _
end Go.Proofs.Ytlgpleeanmeenaa
namespace Go.Proofs.Ytlgpleeanmeenaa
open Go.RowKit
open Wd
set_option linter.unusedVariables false

theorem renum_any (x : Rl) (b : Int) (pb : Nat) (w : World) (h1 : 0 ≤ x.l ∧ x.l ≤ 1048576) (h2 : 0 ≤ x.r ∧ x.r ≤ 1048576) (hb : 0 ≤ b ∧ b ≤ 1048576) (hp : w.cell? ⟨pb, 0, none⟩ = some (.int .i64 b)) :
    Calls Try.prog 174 #[.agg #[.string x.L, .int .i64 x.l, .int .i64 x.r], .func (.func 196) #[] #[.pointer (some ⟨pb, 0, none⟩)]] w fun e w' => e = .returned (.agg #[.string (raiseR b x).L, .int .i64 (raiseR b x).l, .int .i64 (raiseR b x).r]) ∧ Below w.heap.size w w' := by
  by_cases h : x.L.size = 0
  · exact renum_pair x b pb w h h1 h2 hb hp
  · exact renum_letter x b _ w h
/-- the rules so far -/
def RSt (w : World) (b : Int) (rs : List Rl) (yv : Value) (wr : World) : Prop :=
  wr.ownsRow (w.heap.size + 1) 146 3 yv rs.length (rv rs) ∧ Var wr w.heap.size (.int .i64 b) 2 ∧ Below w.heap.size w wr ∧ w.heap.size + 1 ≤ wr.heap.size
theorem rst_kept {w wr w1 : World} {b : Int} {yv : Value} {rs : List Rl} (h : RSt w b rs yv wr) (hb : Below wr.heap.size wr w1) : RSt w b rs yv w1 := by
  obtain ⟨h1, h2, h4, h5⟩ := h
  exact ⟨own_below h1 hb (Nat.le_refl _), h2.kept hb, h4.trans (hb.mono h4.size), by have := hb.size; omega⟩
theorem rst_grown {w wr w5 : World} {b : Int} {yv v' : Value} {rs : List Rl} {x : Rl} {o : Obj} (h : RSt w b rs yv wr)
    (hown : w5.ownsRow (w.heap.size + 1) 146 3 v' (rs.length + 1) (rv rs ++ rc x)) (hg : (wr.alloc o).grownBy w5 yv.ownBlock) : RSt w b (rs ++ [x]) v' w5 := by
  obtain ⟨h1, h2, h4, h5⟩ := h
  have n1 := own_var_ne h1 h2 (by decide)
  have k2 : Var w5 w.heap.size (.int .i64 b) 2 := (hg.block w.heap.size (by have := h2.lt; simp; omega) (fun e => n1 e.symm)).trans (h2.kept ((Below.refl _ wr).alloc (Nat.le_refl _) o))
  have hB5 : Below w.heap.size w w5 := (h4.alloc h4.size o).grown hg (by have := h4.size; simp; omega) (fun q hq => by have := (h1.lt q hq).1; omega)
  refine ⟨?_, k2, hB5, ?_⟩
  · rw [List.length_append, rv_app, rv_one]; exact hown
  · have h6 := hg.size
    simp at h6
    omega
/-- what holds between two rules -/
def RRel (hs : List Rl) (b : Int) (w : World) (yv i : Value) (wr : World) : Prop :=
  ∃ k : Nat, k ≤ hs.length ∧ i = .int .i64 k ∧ RSt w b ((hs.take k).map (raiseR b)) yv wr

set_option maxRecDepth 100000 in
set_option maxHeartbeats 6400000 in
theorem raised_any (v : Value) (hs : List Rl) (b : Int) (w : World) (hl : hs.length ≤ 400) (hok : fits hs = true) (hb : 0 ≤ b ∧ b ≤ 1048576) (hr : Rules w v hs) :
    Calls Try.prog 170 #[v, .int .i64 b] w fun e w' => ∃ y, e = .returned y ∧ OwnsR w' w.heap.size y (hs.map (raiseR b)) ∧ Below w.heap.size w w' := by
  obtain ⟨i0, hi, hz0, hz1, hz2⟩ := info_parts Try.info_rule
  have hb0 : Below w.heap.size w (w.alloc (.cells #[.int .i64 b] 2)) := (Below.refl _ w).alloc (Nat.le_refl _) _
  have hv0 : Var (w.alloc (.cells #[.int .i64 b] 2)) w.heap.size (.int .i64 b) 2 := Var.new w _ _
  obtain ⟨A, c, rfl, hr⟩ := hr
  have HRH := Lib.hid hr
  have HB0 := Lib.hid hb0
  have HV0 := Lib.hid hv0
  have HOK := Lib.hid hok
  clear hr hb0 hv0 hok
  go_enter Try.func170, Try.ntmps170
  go_wp2_with (first | (at_make; refine wpList_make_own _ rfl _ _ 24 rfl (w.heap.size + 1) 146 i0 (.agg #[.string ⟨#[]⟩, .int .i64 0, .int .i64 0]) 3 Try.underlying24 hi hz0 hz1 .i64 .i64 _ hs.length rfl rfl rfl (by rw [hz2]; omega) (by unfold maxLen; omega) (by simp) ?_))
  intro w1 hown hg
  have hB1 := below_of_grown hg
  have HST : Hid (RRel hs b w (.slice (some ⟨w.heap.size + 1, 0, none⟩) 0 hs.length) (.int .i64 0) w1) := Lib.hid
    ⟨0, Nat.zero_le _, rfl, by rw [List.take_zero]; exact ⟨hown, HV0.out.kept hB1, HB0.out.trans (hB1.mono HB0.out.size), by have := hB1.size; simp at this; omega⟩⟩
  clear hown hg hB1
  go_wp2_with fail
  go_loopw [5, 13] (fun yv i wr => RRel hs b w yv i wr) (fun _ i _ => hs.length - (intOf i).toNat)
  case atStart => exact HST.out
  case round =>
    obtain ⟨k, hk, rfl, hps⟩ := hrel
    obtain ⟨wo, rfl⟩ : ∃ wo : World, wo = wr := ⟨_, rfl⟩
    have HPS := Lib.hid hps
    obtain ⟨A2, c2, hyv⟩ := own_slice hps.1
    have hlk : ((hs.take k).map (raiseR b)).length = k := by rw [List.length_map, List.length_take]; omega
    rw [hlk] at hyv
    subst hyv
    by_cases hlt : k < hs.length
    · rcases HRH.out with hn | ⟨g, rfl, hg, hc⟩
      · rw [hn] at hlt; simp at hlt
      obtain ⟨a0, a1, a2⟩ := rules_cells hc hlt
      have d0 := (hps.2.2.1.cell (p := ⟨g, k * 3, none⟩) hg).trans a0
      have d1 := (hps.2.2.1.cell (p := ⟨g, k * 3 + 1, none⟩) hg).trans a1
      have d2 := (hps.2.2.1.cell (p := ⟨g, k * 3 + 2, none⟩) hg).trans a2
      have hft := fits_at HOK.out k hlt
      have hbd : (0 ≤ hs[k].l ∧ hs[k].l ≤ 1048576) ∧ (0 ≤ hs[k].r ∧ hs[k].r ≤ 1048576) := by
        by_cases hz : hs[k].L.size = 0
        · have := (ok_pair hz).1 hft; omega
        · have := (ok_letter hz).1 hft; omega
      have HRN := Lib.hid (fun W h => renum_any hs[k] b w.heap.size W hbd.1 hbd.2 hb h)
      have HTK := Lib.hid (show (hs.take (k + 1)).map (raiseR b) = (hs.take k).map (raiseR b) ++ [raiseR b hs[k]] from by
        rw [List.take_succ_eq_append_getElem hlt, List.map_append]; rfl)
      generalize hs[k] = R at *
      obtain ⟨X, hX⟩ : ∃ X, X = raiseR b R := ⟨_, rfl⟩
      rw [← hX] at HRN HTK
      have HP5 := Lib.hid (fun o => rst_kept hps ((Below.refl _ wo).alloc (Nat.le_refl _) o))
      obtain ⟨T, hT⟩ : ∃ T, T = (hs.take k).map (raiseR b) := ⟨_, rfl⟩
      rw [← hT] at hlk HPS HTK HP5
      have HLK := Lib.hid hlk
      clear hps a0 a1 a2 hc hft hbd hX hlk hT
      go_wp2_with fail
      refine (HRN.out _ (HP5.out _).2.1.cell.1).mono ?_
      rintro e w7 ⟨rfl, hB7⟩
      have HP7 := Lib.hid (rst_kept (HP5.out _) hB7)
      have hO7 := HP7.out.1
      rw [HLK.out] at hO7
      have HO7 := Lib.hid hO7
      have HNW := Lib.hid (news3 w7 X 146)
      have hbs7 : w.heap.size + 1 ≤ w7.heap.size := HP7.out.2.2.2
      clear hO7 hB7 d0 d1 d2
      go_wp2_with (first | (at_builtin; refine wpList_append_own _ rfl _ _ 24 rfl (w.heap.size + 1) 146 i0 (.agg #[.string ⟨#[]⟩, .int .i64 0, .int .i64 0]) 3 32 Try.underlying24 hi hz0 hz1 hz2 rfl (by decide) _ _ _ rfl (World.ownsRow.alloc HO7.out _) ⟨w7.heap.size, 0, none⟩ 1 1 (rc X) rfl rfl HNW.out (rc_cell _) (by unfold maxLen; omega) (by omega) (by simp; omega) ?_))
      intro v' w8 hown' hgrow _
      have HP8 := Lib.hid (rst_grown (x := X) HP7.out (by rw [HLK.out]; exact hown') hgrow)
      clear hown' hgrow
      go_wp2_with fail
      go_roundw
      case rel => exact ⟨k + 1, by omega, by go_num, by rw [HTK.out]; exact HP8.out⟩
      case measure => (first | (simp [intOf]; done) | (simp [intOf]; omega))
    · obtain rfl : k = hs.length := by omega
      rw [List.take_of_length_le (Nat.le_refl _)] at HPS
      clear hps
      go_wp2_with fail
      go_ret
      exact ⟨_, rfl, own_lower HPS.out.1 (by omega), HPS.out.2.2.1⟩
end Go.Proofs.Ytlgpleeanmeenaa
namespace Go.Proofs.Ytlgpleeanmeenaa
open Go.RowKit
open Wd
set_option linter.unusedVariables false

theorem run_append_of_nil {P : Program} (w : World) (base : Nat) (t ty e : TypeId) (i : TypeInfo) (size : Nat) (ht : P.underlying t = some (.slice e)) (hi : P.info? e = some i)
    (v : Value) (n : Nat) (xs : List Value) (hown : w.ownsRow base e size v n xs) (c : Nat) : (Builtin.append_ #[t, t] ty #[v, .slice none 0 c]).run P w = .ok v w := by
  rcases hown.2 with ⟨rfl, rfl⟩ | ⟨g, cap, cur, rfl, _, _, hnc, _⟩
  · simp [Builtin.append_, run_underlying ht, sizeOf, typeInfo, hi, Builtin.lenOf, Builtin.firstCells]
  · simp [Builtin.append_, run_underlying ht, sizeOf, typeInfo, hi, Builtin.lenOf, Builtin.firstCells, hnc, storeCells]
theorem wpList_append_nilc {P : Program} {w : World} {ops : Array Oper} {rest : List Oper} {o : Oper} {a : Act} {Q : Exit → Act → World → Prop} (hgd : o.guard = none) (s x : Operand) (t : TypeId)
    (ho : o.op = .call { callee := .builtin .append, args := #[s, x], argTypes := #[t, t] })
    (base : Nat) (e : TypeId) (i : TypeInfo) (size : Nat) (ht : P.underlying t = some (.slice e)) (hi : P.info? e = some i)
    (v : Value) (n : Nat) (xs : List Value) (hs : a.eval s = v) (hown : w.ownsRow base e size v n xs) (c : Nat) (hx : a.eval x = .slice none 0 c)
    (h : wpList P ops Q rest (a.put o.dst v) w) : wpList P ops Q (o :: rest) a w := by
  refine wpList_plain hgd fun K hK => ?_
  have hrun := run_append_of_nil (P := P) w base t o.type e i size ht hi v n xs hown c
  unfold Oper.wp
  simp [execOp, ho, resolve, invoke, builtin, hs, hx, hrun, Result.andThen]
  exact hK _ _ h

end Go.Proofs.Ytlgpleeanmeenaa
namespace Go.Proofs.Ytlgpleeanmeenaa
open Go.RowKit
open Wd
set_option linter.unusedVariables false

set_option maxRecDepth 100000 in
set_option maxHeartbeats 1600000 in
theorem clone_any (v : Value) (gs : List Rl) (w : World) (hn : gs.length ≤ 1048576) (h : Rules w v gs) :
    Calls Try.prog 137 #[v] w fun e w' => ∃ y, e = .returned y ∧ OwnsR w' w.heap.size y gs ∧ Below w.heap.size w w' := by
  obtain ⟨i0, hi, hz0, hz1, hz2⟩ := info_parts Try.info_rule
  have qT : ∀ (w : World) (a : Option Addr) (n c n' c' : Nat), (binOp .eql 24 (.slice a n c) (.slice none n' c')).run Try.prog w = .ok (.bool a.isNone) w := fun w a n c n' c' => Lib.run_eql_slice_nil w _ _ a n c n' c' Try.underlying24
  rcases rules_cases h with ⟨c, rfl, rfl⟩ | ⟨ad, c, rfl, hc⟩
  · clear h
    go_enter Try.func137, Try.ntmps137
    go_wp2
    go_ret
    exact ⟨_, rfl, World.ownsRow_nil _ _ _ _, Below.refl _ _⟩
  · have HC := Lib.hid hc
    have hb := (Below.refl _ w).alloc (Nat.le_refl _) (.cells #[] 146)
    have HB := Lib.hid hb
    have HL := Lib.hid (World.ownsRow_lit (base := w.heap.size) (e := 146) (size := 3) w #[] 0 (Nat.le_refl _) (by decide) rfl)
    clear h hc hb
    go_enter Try.func137, Try.ntmps137
    go_wp2_with (first | (at_builtin; refine wpList_append_own _ rfl _ _ 24 rfl w.heap.size 146 i0 (.agg #[.string ⟨#[]⟩, .int .i64 0, .int .i64 0]) 3 32 Try.underlying24 hi hz0 hz1 hz2 rfl (by decide) _ _ _ rfl HL.out ad gs.length c (rv gs) rfl (rv_len gs) (fun j u hu => (HB.out.cell (lt_of_cell (HC.out j u hu))).trans (HC.out j u hu)) (rv_cell gs) (by unfold maxLen; omega) (by omega) (by simp) ?_))
    intro v' w1 hown hg _
    have HO : Hid (OwnsR w1 w.heap.size v' gs) := Lib.hid (by
      unfold OwnsR
      simpa using hown)
    have HBF := Lib.hid (HB.out.grown hg (by simp) (fun q hq => (HL.out.lt q hq).1))
    clear hown hg
    go_wp2
    go_ret
    exact ⟨_, rfl, HO.out, HBF.out⟩

set_option maxRecDepth 100000 in
set_option maxHeartbeats 1600000 in
theorem own_any (p : Nat) (gs : List Rl) (w : World) (hn : gs.length ≤ 1048576) (h : GP w p gs) :
    Calls Try.prog 130 #[.pointer (some ⟨p, 0, none⟩)] w fun e w' => ∃ y, e = .returned (.agg #[y]) ∧ OwnsR w' w.heap.size y gs ∧ Below w.heap.size w w' := by
  obtain ⟨i0, hi, hz0, hz1, hz2⟩ := info_parts Try.info_rule
  obtain ⟨v, hv, hr⟩ := h
  have hlp := lt_of_cell hv
  have hb : Below w.heap.size w ((w.alloc (.cells #[.slice none 0 0] 26)).alloc (.cells #[] 146)) := ((Below.refl _ w).alloc (Nat.le_refl _) _).alloc (by simp) _
  have HB := Lib.hid hb
  have hl0 := World.ownsRow_lit (base := w.heap.size + 1) (e := 146) (size := 3) (w.alloc (.cells #[.slice none 0 0] 26)) #[] 0 (by simp) (by decide) rfl
  rw [show (w.alloc (.cells #[.slice none 0 0] 26)).heap.size = w.heap.size + 1 from by simp] at hl0
  have HL := Lib.hid hl0
  clear hl0
  rcases rules_cases hr with ⟨c, rfl, rfl⟩ | ⟨ad, c, rfl, hc⟩
  · clear hr hb
    go_enter Try.func130, Try.ntmps130
    go_wp2
    refine bodyPost_ret (v := .agg #[.slice (some ⟨w.heap.size + 1, 0, none⟩) 0 0]) (by simp [results, Try.results130, go_sem]) rfl ⟨_, rfl, ?_, ((Below.refl _ w).alloc (Nat.le_refl _) _).alloc (by simp) _⟩
    have := World.ownsRow_lit (base := w.heap.size) (e := 146) (size := 3) (w.alloc (.cells #[.slice (some ⟨w.heap.size + 1, 0, none⟩) 0 0] 26)) #[] 0 (by simp) (by decide) rfl
    rw [show (w.alloc (.cells #[.slice (some ⟨w.heap.size + 1, 0, none⟩) 0 0] 26)).heap.size = w.heap.size + 1 from by simp] at this
    exact this
  · have HC := Lib.hid hc
    clear hr hc hb
    go_enter Try.func130, Try.ntmps130
    go_wp2_with (first | (at_builtin; refine wpList_append_own _ rfl _ _ 24 rfl (w.heap.size + 1) 146 i0 (.agg #[.string ⟨#[]⟩, .int .i64 0, .int .i64 0]) 3 32 Try.underlying24 hi hz0 hz1 hz2 rfl (by decide) _ _ _ rfl HL.out ad gs.length c (rv gs) rfl (rv_len gs) (fun j u hu => (HB.out.cell (lt_of_cell (HC.out j u hu))).trans (HC.out j u hu)) (rv_cell gs) (by unfold maxLen; omega) (by omega) (by simp) ?_))
    intro v' w1 hown hg _
    obtain ⟨Ay, cy, rfl⟩ := own_slice hown
    have HO := Lib.hid hown
    have hlt : ∀ q, (Value.slice (some ⟨w.heap.size + 1, 0, none⟩) 0 0).ownBlock = some q → w.heap.size + 1 ≤ q := fun q hq => (HL.out.lt q hq).1
    have hne : some w.heap.size ≠ (Value.slice (some ⟨w.heap.size + 1, 0, none⟩) 0 0).ownBlock := fun e => by have := hlt _ e.symm; omega
    have hblk := hg.block w.heap.size (by simp; omega) hne
    have hc1 : w1.cell? ⟨w.heap.size, 0, none⟩ = some (.slice none 0 0) := by
      rw [World.cell?_of_block (a := ⟨w.heap.size, 0, none⟩) hblk, ((Below.refl _ (w.alloc _)).alloc (Nat.le_refl _) _).cell (p := ⟨w.heap.size, 0, none⟩) (by simp)]; exact cell_new _ _ _
    have hf1 : w1.frozen? ⟨w.heap.size, 0, none⟩ = false := by
      have h1 : w1.frozen? ⟨w.heap.size, 0, none⟩ = ((w.alloc (.cells #[.slice none 0 0] 26)).alloc (.cells #[] 146)).frozen? ⟨w.heap.size, 0, none⟩ := by
        simp only [World.frozen?, hblk]
      rw [h1]
      have hb2 := (Below.heap_alloc (w.alloc (.cells #[.slice none 0 0] 26)) (.cells #[] 146) w.heap.size (by simp)).trans (heap_alloc_new w (.cells #[.slice none 0 0] 26))
      simp [World.frozen?, hb2]
    have HBF := Lib.hid (HB.out.grown hg (by simp; omega) (fun q hq => by have := hlt q hq; omega))
    clear hown hg hblk hlt hne
    go_wp2
    refine bodyPost_ret (v := .agg #[.slice Ay (0 + gs.length) cy]) (by simp [results, Try.results130, go_sem, hc1]) rfl ⟨_, rfl, ?_, HBF.out.setCell (by simp) _⟩
    have h2 := own_setLow HO.out ⟨w.heap.size, 0, none⟩ (.slice Ay (0 + gs.length) cy) (by simp)
    have h3 := own_lower h2 (show w.heap.size ≤ w.heap.size + 1 by omega)
    unfold OwnsR
    simpa using h3
end Go.Proofs.Ytlgpleeanmeenaa
namespace Go.Proofs.Ytlgpleeanmeenaa
open Go.RowKit
open Wd
set_option linter.unusedVariables false

/-- rules behind rules -/
theorem app_rules {w wr : World} {yv : Value} {rs : List Rl} (ho : wr.ownsRow w.heap.size 146 3 yv rs.length (rv rs)) {w5 : World} {v' : Value} {hs : List Rl} (hb : Below w.heap.size w wr)
    (hown : w5.ownsRow w.heap.size 146 3 v' (rs.length + hs.length) (rv rs ++ rv hs)) (hg : wr.grownBy w5 yv.ownBlock) : w5.ownsRow w.heap.size 146 3 v' (rs ++ hs).length (rv (rs ++ hs)) ∧ Below w.heap.size w w5 := by
  refine ⟨?_, hb.grown hg hb.size (fun q hq => (ho.lt q hq).1)⟩
  rw [List.length_append, rv_app]; exact hown
def CsRel (gs hs : List Rl) (w : World) (s i : Value) (wr : World) : Prop :=
  w = wr ∧ ((i = .int .i64 0 ∧ s = .int .i64 0) ∨ (i = .int .i64 1 ∧ s = .int .i64 (gs.length : Int)) ∨ (i = .int .i64 2 ∧ s = .int .i64 ((gs.length : Int) + (hs.length : Int))))
def CcRel (gs hs : List Rl) (w : World) (yv i : Value) (wr : World) : Prop :=
  (i = .int .i64 0 ∧ OwnsR wr w.heap.size yv [] ∧ Below w.heap.size w wr) ∨ (i = .int .i64 1 ∧ OwnsR wr w.heap.size yv gs ∧ Below w.heap.size w wr) ∨ (i = .int .i64 2 ∧ OwnsR wr w.heap.size yv (gs ++ hs) ∧ Below w.heap.size w wr)

set_option maxRecDepth 100000 in
set_option maxHeartbeats 6400000 in
theorem concat_any (u v : Value) (gs hs : List Rl) (p : Nat) (w : World) (hn : gs.length ≤ 1000) (hm : hs.length ≤ 1000) (h0 : w.cell? ⟨p, 0, none⟩ = some u) (h1 : w.cell? ⟨p, 1, none⟩ = some v) (hu : Rules w u gs) (hv : Rules w v hs) :
    Calls Try.prog 183 #[.slice (some ⟨p, 0, none⟩) 2 2] w fun e w' => ∃ y, e = .returned y ∧ OwnsR w' w.heap.size y (gs ++ hs) ∧ Below w.heap.size w w' := by
  obtain ⟨i0, hi, hz0, hz1, hz2⟩ := info_parts Try.info_rule
  have HU := Lib.hid hu
  have HV := Lib.hid hv
  have HP0 := Lib.hid h0
  have HP1 := Lib.hid h1
  have hGR : ∀ W : World, W = w → Calls Try.prog 201 #[.slice none 0 0, .int .i64 ((gs.length : Int) + (hs.length : Int))] W fun e w' => ∃ y, e = .returned y ∧ OwnsR w' w.heap.size y [] ∧ Below w.heap.size w w' := by
    rintro W rfl
    rcases Nat.eq_zero_or_pos (gs.length + hs.length) with hz | hz
    · have h9 := Any8.slices_Grow_room Try.growRule none 0 0 0 W (Nat.le_refl _) (by omega) (by omega) (Nat.le_refl _)
      have e0 : ((gs.length : Int) + (hs.length : Int)) = ((0 : Nat) : Int) := by omega
      rw [e0]
      refine h9.mono ?_
      rintro e w' ⟨rfl, rfl⟩
      exact ⟨_, rfl, World.ownsRow_nil _ _ _ _, Below.refl _ _⟩
    · have e0 : ((gs.length : Int) + (hs.length : Int)) = ((gs.length + hs.length : Nat) : Int) := by omega
      rw [e0]
      have h9 := Any8.slices_Grow_grow Try.growRule i0 (.agg #[.string ⟨#[]⟩, .int .i64 0, .int .i64 0]) hi hz0 (by rw [hz1]; decide) none 0 0 (gs.length + hs.length) [] W (Nat.le_refl _) (by omega) (by rw [hz2]; omega) (by omega) (by simp) (fun _ => rfl) (fun a h => by cases h)
      refine h9.mono ?_
      rintro e w' ⟨rfl, rfl⟩
      refine ⟨_, rfl, ?_, ?_⟩
      · exact World.ownsRow_made (base := W.heap.size) (e := 146) (size := 3) W.drew _ _ (Nat.le_refl _) (grownCap_le_maxLen _ _ _ _ (by unfold maxLen; omega)) (by
          simp only [Array.size_append, size_zeroCells]
          have h3 := grownCap_ge W (0 + (gs.length + hs.length)) 0 (Try.growRule_ren.t 25)
          simp [Value.cells] at h3 ⊢
          omega)
      · exact (Below.refl _ W).drew.alloc (Nat.le_refl _) _
  have HGR := Lib.hid hGR
  obtain ⟨Au, cu, rfl, _⟩ := hu
  obtain ⟨Av, cv, rfl, _⟩ := hv
  clear hGR
  go_enter Try.func183, Try.ntmps183
  go_wp2_with fail
  go_loopw [3, 5, 11] (fun s _ i wr => CsRel gs hs w s i wr) (fun _ _ i _ => 2 - (intOf i).toNat)
  case atStart => exact ⟨rfl, .inl ⟨rfl, rfl⟩⟩
  case round =>
    obtain ⟨rfl, hcs⟩ := hrel
    rcases hcs with ⟨rfl, rfl⟩ | ⟨rfl, rfl⟩ | ⟨rfl, rfl⟩
    · go_wp2_with fail
      go_roundw
      case rel => first | exact ⟨rfl, .inr (.inl ⟨rfl, rfl⟩)⟩ | ((repeat apply Exists.intro); exact ⟨⟨rfl, .inr (.inl ⟨rfl, rfl⟩)⟩, rfl⟩)
      case measure => (first | (simp [intOf]; done) | (simp [intOf]; omega))
    · go_wp2_with fail
      go_roundw
      case rel => first | exact ⟨rfl, .inr (.inr ⟨rfl, rfl⟩)⟩ | ((repeat apply Exists.intro); exact ⟨⟨rfl, .inr (.inr ⟨rfl, rfl⟩)⟩, rfl⟩)
      case measure => (first | (simp [intOf]; done) | (simp [intOf]; omega))
    · go_wp2_with fail
      refine (HGR.out _ rfl).mono ?_
      rintro e w1 ⟨y, rfl, hy, hB1⟩
      have HST : Hid (CcRel gs hs w y (.int .i64 0) w1) := Lib.hid (.inl ⟨rfl, hy, hB1⟩)
      clear hy hB1
      go_wp2_with fail
      go_loopw [6, 8, 27] (fun yv _ i wr => CcRel gs hs w yv i wr) (fun _ _ i _ => 2 - (intOf i).toNat)
      case atStart => exact HST.out
      case round =>
        rcases hrel with ⟨rfl, hown, hB⟩ | ⟨rfl, hown, hB⟩ | ⟨rfl, hown, hB⟩
        · obtain ⟨wo, rfl⟩ : ∃ wo : World, wo = wr := ⟨_, rfl⟩
          obtain ⟨A2, c2, rfl⟩ := own_slice hown
          have HO := Lib.hid hown
          have HB := Lib.hid hB
          have cp := (hB.cell (p := ⟨p, 0, none⟩) (lt_of_cell HP0.out)).trans HP0.out
          have hbs := hB.size
          rcases rules_cases (HU.out.kept hB) with ⟨c9, e9, e8⟩ | ⟨ad, c9, e9, hc9⟩
          · injection e9 with e91 e92 e93
            subst e91 e93
            rw [e92] at cp
            have HST2 : Hid (CcRel gs hs w (.slice A2 ([] : List Rl).length c2) (.int .i64 1) wo) := Lib.hid (.inr <| .inl <| ⟨rfl, by rw [e8] at *; simpa using HO.out, HB.out⟩)
            clear hown hB e92 e8
            go_wp2_with (first | (at_builtin; refine wpList_append_nilc rfl _ _ 24 rfl w.heap.size 146 i0 3 Try.underlying24 hi _ _ _ rfl HO.out _ rfl ?_))
            go_wp2_with fail
            go_roundw
            case rel => first | exact HST2.out | ((repeat apply Exists.intro); exact ⟨HST2.out, rfl⟩)
            case measure => (first | (simp [intOf]; done) | (simp [intOf]; omega))
          · injection e9 with e91 e92 e93
            subst e91 e93
            clear hown hB
            go_wp2_with (first | (at_builtin; refine wpList_append_own _ rfl _ _ 24 rfl w.heap.size 146 i0 (.agg #[.string ⟨#[]⟩, .int .i64 0, .int .i64 0]) 3 32 Try.underlying24 hi hz0 hz1 hz2 rfl (by decide) _ _ _ rfl HO.out ad gs.length _ (rv gs) rfl (rv_len gs) hc9 (rv_cell gs) (by unfold maxLen; first | omega | (simp; omega)) (by first | omega | (simp; omega)) hbs ?_))
            intro v' w5 hown' hgr _
            have HST2 : Hid (CcRel gs hs w v' (.int .i64 1) w5) := Lib.hid (.inr <| .inl <| ⟨rfl, (by have h9 := app_rules (hs := gs) HO.out HB.out (by rw [List.length_nil, Nat.zero_add]; exact hown') hgr; simpa using h9)⟩)
            clear hown' hgr hc9
            go_wp2_with fail
            go_roundw
            case rel => first | exact HST2.out | ((repeat apply Exists.intro); exact ⟨HST2.out, rfl⟩)
            case measure => (first | (simp [intOf]; done) | (simp [intOf]; omega))
        · obtain ⟨wo, rfl⟩ : ∃ wo : World, wo = wr := ⟨_, rfl⟩
          obtain ⟨A2, c2, rfl⟩ := own_slice hown
          have HO := Lib.hid hown
          have HB := Lib.hid hB
          have cp := (hB.cell (p := ⟨p, 1, none⟩) (lt_of_cell HP1.out)).trans HP1.out
          have hbs := hB.size
          rcases rules_cases (HV.out.kept hB) with ⟨c9, e9, e8⟩ | ⟨ad, c9, e9, hc9⟩
          · injection e9 with e91 e92 e93
            subst e91 e93
            rw [e92] at cp
            have HST2 : Hid (CcRel gs hs w (.slice A2 gs.length c2) (.int .i64 2) wo) := Lib.hid (.inr <| .inr <| ⟨rfl, by rw [e8] at *; simpa using HO.out, HB.out⟩)
            clear hown hB e92 e8
            go_wp2_with (first | (at_builtin; refine wpList_append_nilc rfl _ _ 24 rfl w.heap.size 146 i0 3 Try.underlying24 hi _ _ _ rfl HO.out _ rfl ?_))
            go_wp2_with fail
            go_roundw
            case rel => first | exact HST2.out | ((repeat apply Exists.intro); exact ⟨HST2.out, rfl⟩)
            case measure => (first | (simp [intOf]; done) | (simp [intOf]; omega))
          · injection e9 with e91 e92 e93
            subst e91 e93
            clear hown hB
            go_wp2_with (first | (at_builtin; refine wpList_append_own _ rfl _ _ 24 rfl w.heap.size 146 i0 (.agg #[.string ⟨#[]⟩, .int .i64 0, .int .i64 0]) 3 32 Try.underlying24 hi hz0 hz1 hz2 rfl (by decide) _ _ _ rfl HO.out ad hs.length _ (rv hs) rfl (rv_len hs) hc9 (rv_cell hs) (by unfold maxLen; first | omega | (simp; omega)) (by first | omega | (simp; omega)) hbs ?_))
            intro v' w5 hown' hgr _
            have HST2 : Hid (CcRel gs hs w v' (.int .i64 2) w5) := Lib.hid (.inr <| .inr <| ⟨rfl, app_rules HO.out HB.out hown' hgr⟩)
            clear hown' hgr hc9
            go_wp2_with fail
            go_roundw
            case rel => first | exact HST2.out | ((repeat apply Exists.intro); exact ⟨HST2.out, rfl⟩)
            case measure => (first | (simp [intOf]; done) | (simp [intOf]; omega))
        · have HE := Lib.hid hown
          go_wp2_with fail
          go_ret
          exact ⟨_, rfl, HE.out, hB⟩
end Go.Proofs.Ytlgpleeanmeenaa
namespace Go.Proofs.Ytlgpleeanmeenaa
open Go.RowKit
open Wd
set_option linter.unusedVariables false
namespace Wd
/-- one behind the other -/
def joinG (gs hs : List Rl) : List Rl := if gs.length = 0 then hs else if hs.length = 0 then gs else gs ++ hs.map (raiseR gs.length) ++ [pairR (gs.length - 1) (gs.length + hs.length - 1)]
/-- the answer -/
def gramJoinGrammars (gs hs : List Rl) : List Rl × Int := if gOk gs && gOk hs then (limG (joinG gs hs), limC (joinG gs hs)) else ([], 1)
theorem raise_sum (b : Int) (hs : List Rl) : sumL (hs.map (raiseR b)) = sumL hs := by
  induction hs with
  | nil => rfl
  | cons x hs ih =>
    have h1 : (raiseR b x).L = x.L := by unfold raiseR; split <;> rfl
    have h2 := ih
    simp only [sumL, List.map_cons, List.sum_cons] at h2 ⊢
    rw [h1, h2]
end Wd
theorem joinG_few {gs hs : List Rl} (h1 : gOk gs = true) (h2 : gOk hs = true) : FewR (joinG gs hs) := by
  have a1 := gOk_len h1
  have a2 := gOk_len h2
  have b1 := sum_ok h1
  have b2 := sum_ok h2
  unfold FewR joinG
  split
  · omega
  · split
    · omega
    · rw [sumL_app, sumL_app, raise_sum, show sumL [pairR (gs.length - 1) (gs.length + hs.length - 1)] = 0 from rfl]
      simp only [List.length_append, List.length_map, List.length_cons, List.length_nil]
      omega
theorem gramJoinGrammars_len (gs hs : List Rl) : (gramJoinGrammars gs hs).1.length ≤ 1048576 := by
  unfold gramJoinGrammars
  cases h1 : gOk gs
  · simp
  · cases h2 : gOk hs
    · simp
    · show (limG _).length ≤ _
      unfold limG
      split
      · exact (joinG_few h1 h2).len
      · simp

end Go.Proofs.Ytlgpleeanmeenaa
namespace Go.Proofs.Ytlgpleeanmeenaa
open Go.RowKit
open Wd
set_option linter.unusedVariables false

theorem raise_zero (hs : List Rl) : hs.map (raiseR (0 : Nat)) = hs := by
  induction hs with
  | nil => rfl
  | cons x hs ih =>
    rw [List.map_cons, ih]
    congr 1
    unfold raiseR
    split
    · simp
    · rfl
/-- the first three variables of a call of two grammars -/
theorem three_vars (w : World) (a b c : Value) (t : TypeId) :
    Below w.heap.size w (((w.alloc (.cells #[a] t)).alloc (.cells #[b] t)).alloc (.cells #[c] t)) ∧ Var (((w.alloc (.cells #[a] t)).alloc (.cells #[b] t)).alloc (.cells #[c] t)) w.heap.size a t ∧ Var (((w.alloc (.cells #[a] t)).alloc (.cells #[b] t)).alloc (.cells #[c] t)) (w.heap.size + 1) b t ∧ Var (((w.alloc (.cells #[a] t)).alloc (.cells #[b] t)).alloc (.cells #[c] t)) (w.heap.size + 2) c t := by
  refine ⟨(((Below.refl _ w).alloc (Nat.le_refl _) _).alloc (by simp) _).alloc (by simp; omega) _, ?_, ?_, ?_⟩
  · exact ((Var.new w a t).kept ((Below.refl _ _).alloc (Nat.le_refl _) _)).kept ((Below.refl _ _).alloc (Nat.le_refl _) _)
  · have := (Var.new (w.alloc (.cells #[a] t)) b t).kept ((Below.refl _ _).alloc (Nat.le_refl _) (.cells #[c] t))
    rwa [show (w.alloc (.cells #[a] t)).heap.size = w.heap.size + 1 from by simp] at this
  · have := Var.new ((w.alloc (.cells #[a] t)).alloc (.cells #[b] t)) c t
    rwa [show ((w.alloc (.cells #[a] t)).alloc (.cells #[b] t)).heap.size = w.heap.size + 2 from by simp] at this

set_option maxRecDepth 100000 in
set_option maxHeartbeats 3200000 in
theorem implJoin_bad (v u : Value) (gs hs : List Rl) (w : World) (hf : FewR gs) (hf2 : FewR hs) (hr : Rules w v gs) (hr2 : Rules w u hs) (hbad : (gOk gs && gOk hs) = false) :
    Calls Try.prog 131 #[.agg #[v], .agg #[u]] w fun e w' => e = .returned (.tuple #[.agg #[.slice none 0 0], .int .i64 1]) ∧ Below w.heap.size w w' := by
  obtain ⟨hb, v0, v1, v2⟩ := three_vars w v u (.slice none 0 0) 26
  have HV := Lib.hid (fun W (h : Rules W v gs) => implValidGrammar v gs W hf h)
  have HU := Lib.hid (fun W (h : Rules W u hs) => implValidGrammar u hs W hf2 h)
  have HR := Lib.hid hr
  have HR2 := Lib.hid hr2
  have HB := Lib.hid hb
  have HV2 := Lib.hid v2
  have HV1 := Lib.hid v1
  obtain ⟨A, c, rfl, _⟩ := hr
  obtain ⟨A', c', rfl, _⟩ := hr2
  clear hb v0 v1 v2
  cases hok : gOk gs
  · rw [hok] at HV
    clear hok hbad
    go_enter Try.func131, Try.ntmps131
    go_wp2_with fail
    refine (HV.out _ (HR.out.kept HB.out)).mono ?_
    rintro e w1 ⟨rfl, hB1⟩
    obtain ⟨x0, x1⟩ := (HV2.out.kept hB1).cell
    have HB1 := Lib.hid (HB.out.trans (hB1.mono HB.out.size))
    clear hB1
    go_wp2_with fail
    refine bodyPost_ret (v := .tuple #[.agg #[.slice none 0 0], .int .i64 1]) (by simp [results, Try.results131, go_sem, x0]) rfl ⟨rfl, HB1.out.setCell (by simp; omega) _⟩
  · have hok2 : gOk hs = false := by rw [hok] at hbad; simpa using hbad
    rw [hok] at HV
    rw [hok2] at HU
    clear hok hok2 hbad
    go_enter Try.func131, Try.ntmps131
    go_wp2_with fail
    refine (HV.out _ (HR.out.kept HB.out)).mono ?_
    rintro e w1 ⟨rfl, hB1⟩
    have HV21 := Lib.hid (HV2.out.kept hB1)
    have y0 := (HV1.out.kept hB1).cell.1
    have HB1 := Lib.hid (HB.out.trans (hB1.mono HB.out.size))
    clear hB1
    go_wp2_with fail
    refine (HU.out _ (HR2.out.kept HB1.out)).mono ?_
    rintro e w2 ⟨rfl, hB2⟩
    obtain ⟨x0, x1⟩ := (HV21.out.kept hB2).cell
    have HB2 := Lib.hid (HB1.out.trans (hB2.mono HB1.out.size))
    clear hB2
    go_wp2_with fail
    refine bodyPost_ret (v := .tuple #[.agg #[.slice none 0 0], .int .i64 1]) (by simp [results, Try.results131, go_sem, x0]) rfl ⟨rfl, HB2.out.setCell (by simp; omega) _⟩

set_option maxRecDepth 100000 in
set_option maxHeartbeats 3200000 in
theorem implJoin_ok (v u : Value) (gs hs : List Rl) (w : World) (hf : FewR gs) (hf2 : FewR hs) (hr : Rules w v gs) (hr2 : Rules w u hs) (hok : gOk gs = true) (hok2 : gOk hs = true) :
    Calls Try.prog 131 #[.agg #[v], .agg #[u]] w fun e w' => ∃ y, e = .returned (.tuple #[.agg #[y], .int .i64 (limC (joinG gs hs))]) ∧ OwnsR w' w.heap.size y (limG (joinG gs hs)) ∧ Below w.heap.size w w' := by
  obtain ⟨i0, hi, hz0, hz1, hz2⟩ := info_parts Try.info_rule
  obtain ⟨hb, v0, v1, v2⟩ := three_vars w v u (.slice none 0 0) 26
  have hn := gOk_len hok
  have hn2 := gOk_len hok2
  have HV := Lib.hid (fun W (h : Rules W v gs) => implValidGrammar v gs W hf h)
  have HU := Lib.hid (fun W (h : Rules W u hs) => implValidGrammar u hs W hf2 h)
  rw [hok] at HV
  rw [hok2] at HU
  obtain ⟨H, hH⟩ : ∃ H, H = hs.map (raiseR gs.length) := ⟨_, rfl⟩
  have hHL : H.length = hs.length := by rw [hH, List.length_map]
  have HRA : Hid (∀ W, Rules W u hs → Calls Try.prog 170 #[u, .int .i64 gs.length] W fun e w' => ∃ y, e = .returned y ∧ w'.ownsRow W.heap.size 146 3 y hs.length (rv H) ∧ Below W.heap.size W w') := Lib.hid (fun W h => by
    have h9 := raised_any u hs gs.length W hn2 (gOk_iff.1 hok2).2.1 (by omega) h
    rw [← hH] at h9
    refine h9.mono ?_
    rintro e w' ⟨y, he, ho, hB⟩
    exact ⟨y, he, by rw [← hHL]; exact ho, hB⟩)
  obtain ⟨N, hN⟩ : ∃ N, N = (gs ++ H).length := ⟨_, rfl⟩
  have hNb : N ≤ 800 := by rw [hN, List.length_append]; omega
  have HN := Lib.hid hN
  have HNS := Lib.hid (show N = gs.length + hs.length by rw [hN, List.length_append, hHL])
  have HHL := Lib.hid hHL
  have HHE := Lib.hid hH
  have HFJ := Lib.hid (joinG_few hok hok2)
  have HR := Lib.hid hr
  have HR2 := Lib.hid hr2
  have HB := Lib.hid hb
  have HV0 := Lib.hid v0
  have HV1 := Lib.hid v1
  have HV2 := Lib.hid v2
  obtain ⟨A, c, rfl, _⟩ := hr
  obtain ⟨A', c', rfl, _⟩ := hr2
  clear hb v0 v1 v2 hok hok2 hH hHL hN
  go_enter Try.func131, Try.ntmps131
  go_wp2_with fail
  refine (HV.out _ (HR.out.kept HB.out)).mono ?_
  rintro e w1 ⟨rfl, hB1⟩
  have HV01 := Lib.hid (HV0.out.kept hB1)
  have HV11 := Lib.hid (HV1.out.kept hB1)
  have HV21 := Lib.hid (HV2.out.kept hB1)
  have y0 := HV11.out.cell.1
  have HB1 := Lib.hid (HB.out.trans (hB1.mono HB.out.size))
  clear hB1
  go_wp2_with fail
  refine (HU.out _ (HR2.out.kept HB1.out)).mono ?_
  rintro e w2 ⟨rfl, hB2⟩
  have HV02 := Lib.hid (HV01.out.kept hB2)
  have HV12 := Lib.hid (HV11.out.kept hB2)
  have HV22 := Lib.hid (HV21.out.kept hB2)
  have HB2 := Lib.hid (HB1.out.trans (hB2.mono HB1.out.size))
  have z0 := HV02.out.cell.1
  have z1 := HV12.out.cell.1
  clear hB2 y0
  go_wp2_with fail
  have HRA2 := Lib.hid (fun m => HRA.out (w2.drewN m) (HR2.out.kept (below_drewN HB2.out m)))
  have HS2 := Lib.hid (And.intro z0 z1)
  clear z0 z1
  go_region_held3 (fun w' => w'.cell? ⟨w.heap.size, 0, none⟩ = some (.slice A gs.length c) ∧ w'.cell? ⟨w.heap.size + 1, 0, none⟩ = some (.slice A' hs.length c')) (first | exact HS2.out | exact HS3.out | exact HS5.out _ | exact HS6.out | go_keep)
    ((first
      | (go_at_call 170
         refine (HRA2.out _).mono ?_
         rintro e w3 ⟨y3, rfl, ho3, hB3'⟩
         have hB3 := below_undrew hB3'
         obtain ⟨A3, c3, rfl⟩ := own_slice ho3
         have HS3 := Lib.hid (And.intro ((hB3.cell (p := ⟨w.heap.size, 0, none⟩) (lt_of_cell HS2.out.1)).trans HS2.out.1) ((hB3.cell (p := ⟨w.heap.size + 1, 0, none⟩) (lt_of_cell HS2.out.2)).trans HS2.out.2))
         have HS5 := Lib.hid (fun o => And.intro (((hB3.alloc hB3.size o).cell (p := ⟨w.heap.size, 0, none⟩) (lt_of_cell HS2.out.1)).trans HS2.out.1) (((hB3.alloc hB3.size o).cell (p := ⟨w.heap.size + 1, 0, none⟩) (lt_of_cell HS2.out.2)).trans HS2.out.2))
         have HO3 : Hid (OwnsR w3 w2.heap.size (.slice A3 hs.length c3) H) := Lib.hid (by unfold OwnsR; rw [HHL.out]; exact ho3)
         have HB3 := Lib.hid (HB2.out.trans (hB3.mono HB2.out.size))
         have HV23 := Lib.hid (HV22.out.kept hB3)
         have HWS : Hid (w.heap.size + 2 < w3.heap.size) := Lib.hid HV23.out.lt
         clear hB3 hB3' ho3)
      | (go_at_call 183
         refine (concat_any (.slice A gs.length c) (.slice A3 hs.length c3) gs H w3.heap.size _ (by omega) (by rw [HHL.out]; omega) (by rw [cell_of_row _ _ _ _ _ _ (heap_alloc_new _ _)]; rfl) (by rw [cell_of_row _ _ _ _ _ _ (heap_alloc_new _ _)]; rfl) (HR.out.kept (HB3.out.alloc HB3.out.size _)) ((Rules.of_own HO3.out).kept ((Below.refl _ w3).alloc (Nat.le_refl _) _))).mono ?_
         rintro e w4 ⟨y4, rfl, ho4, hB4'⟩
         have hB4 := ((Below.refl _ w3).alloc (Nat.le_refl _) (.cells #[.slice A gs.length c, .slice A3 hs.length c3] 24)).trans (hB4'.mono (by simp))
         have ho5 : w4.ownsRow (w3.alloc (.cells #[.slice A gs.length c, .slice A3 hs.length c3] 24)).heap.size 146 3 y4 N (rv (gs ++ H)) := by rw [HN.out]; exact ho4
         obtain ⟨A4, c4, rfl⟩ := own_slice ho5
         have HS6 := Lib.hid (And.intro ((hB4.cell (p := ⟨w.heap.size, 0, none⟩) (lt_of_cell HS3.out.1)).trans HS3.out.1) ((hB4.cell (p := ⟨w.heap.size + 1, 0, none⟩) (lt_of_cell HS3.out.2)).trans HS3.out.2))
         have HO4 := Lib.hid (own_lower ho5 (show w3.heap.size ≤ (w3.alloc (.cells #[.slice A gs.length c, .slice A3 hs.length c3] 24)).heap.size by simp))
         have HB4 := Lib.hid (HB3.out.trans (hB4.mono HB3.out.size))
         have HV24 := Lib.hid (HV23.out.kept hB4)
         clear hB4 hB4' ho4 ho5)))
  obtain ⟨s0, s1⟩ := HS6.out
  by_cases hz : gs.length = 0
  · have hj : gs ++ H = joinG gs hs := by
      unfold joinG
      rw [if_pos hz, HHE.out, hz, raise_zero, List.eq_nil_of_length_eq_zero hz, List.nil_append]
    have HO5 : Hid (OwnsR w4 w3.heap.size (.slice A4 N c4) (joinG gs hs)) := Lib.hid (by unfold OwnsR; rw [← hj, ← HN.out]; exact HO4.out)
    have HB5 := Lib.hid HB4.out
    have HV5 := Lib.hid HV24.out
    have hz2 : ¬ (0 : Int) < (gs.length : Int) := by omega
    have hz2d : decide ((0 : Int) < (gs.length : Int)) = false := decide_eq_false hz2
    clear hj hz
    go_wp2_with fail
    have hT := limited_any (.slice A4 N c4) (joinG gs hs) w4 HFJ.out (Rules.of_own HO5.out)
    have hlo := lim_own HO5.out
    have hne : (limV (joinG gs hs) (.slice A4 N c4)).ownBlock ≠ some (w.heap.size + 2) := by
      intro hq
      have h7 := (hlo.lt _ hq).1
      have h8 := HWS.out
      omega
    obtain ⟨Al, cl, hl⟩ := own_slice hlo
    rw [hl] at hT hlo hne
    have HLO := Lib.hid hlo
    have HT := Lib.hid hT
    have HNE := Lib.hid hne
    clear hT hlo hl hne
    go_wp2_with fail
    refine HT.out.mono ?_
    rintro e w9 ⟨rfl, hB9⟩
    obtain ⟨f0, f1⟩ := (HV5.out.kept hB9).cell
    have HO9 := Lib.hid (own_lower (own_below HLO.out hB9 (Nat.le_refl _)) (show w.heap.size ≤ w3.heap.size by have := HWS.out; omega))
    have HB9 := Lib.hid (HB5.out.trans (hB9.mono HB5.out.size))
    clear hB9
    go_wp2_with fail
    refine bodyPost_ret (v := .tuple #[.agg #[.slice Al (limG (joinG gs hs)).length cl], .int .i64 (limC (joinG gs hs))]) (by simp [results, Try.results131, go_sem, f0]) rfl ⟨_, rfl, ?_, HB9.out.setCell (by simp; omega) _⟩
    exact World.ownsRow.kept HO9.out (only_setCell (World.grownBy.refl w9 (some (w.heap.size + 2))) (p := ⟨w.heap.size + 2, 0, none⟩) (.inl rfl) _) (.inr HNE.out)
  · have g1 : (0 : Int) < (gs.length : Int) := by omega
    by_cases hz3 : hs.length = 0
    · have hj : gs ++ H = joinG gs hs := by
        unfold joinG
        rw [if_neg hz, if_pos hz3, List.eq_nil_of_length_eq_zero (show H.length = 0 by rw [HHL.out]; exact hz3), List.append_nil]
      have HO5 : Hid (OwnsR w4 w3.heap.size (.slice A4 N c4) (joinG gs hs)) := Lib.hid (by unfold OwnsR; rw [← hj, ← HN.out]; exact HO4.out)
      have HB5 := Lib.hid HB4.out
      have HV5 := Lib.hid HV24.out
      have hz2 : ¬ (0 : Int) < (hs.length : Int) := by omega
      have hz2d : decide ((0 : Int) < (hs.length : Int)) = false := decide_eq_false hz2
      clear hj hz hz3
      go_wp2_with fail
      have hT := limited_any (.slice A4 N c4) (joinG gs hs) w4 HFJ.out (Rules.of_own HO5.out)
      have hlo := lim_own HO5.out
      have hne : (limV (joinG gs hs) (.slice A4 N c4)).ownBlock ≠ some (w.heap.size + 2) := by
        intro hq
        have h7 := (hlo.lt _ hq).1
        have h8 := HWS.out
        omega
      obtain ⟨Al, cl, hl⟩ := own_slice hlo
      rw [hl] at hT hlo hne
      have HLO := Lib.hid hlo
      have HT := Lib.hid hT
      have HNE := Lib.hid hne
      clear hT hlo hl hne
      go_wp2_with fail
      refine HT.out.mono ?_
      rintro e w9 ⟨rfl, hB9⟩
      obtain ⟨f0, f1⟩ := (HV5.out.kept hB9).cell
      have HO9 := Lib.hid (own_lower (own_below HLO.out hB9 (Nat.le_refl _)) (show w.heap.size ≤ w3.heap.size by have := HWS.out; omega))
      have HB9 := Lib.hid (HB5.out.trans (hB9.mono HB5.out.size))
      clear hB9
      go_wp2_with fail
      refine bodyPost_ret (v := .tuple #[.agg #[.slice Al (limG (joinG gs hs)).length cl], .int .i64 (limC (joinG gs hs))]) (by simp [results, Try.results131, go_sem, f0]) rfl ⟨_, rfl, ?_, HB9.out.setCell (by simp; omega) _⟩
      exact World.ownsRow.kept HO9.out (only_setCell (World.grownBy.refl w9 (some (w.heap.size + 2))) (p := ⟨w.heap.size + 2, 0, none⟩) (.inl rfl) _) (.inr HNE.out)
    · have hj : joinG gs hs = gs ++ H ++ [pairR (gs.length - 1) (N - 1)] := by
        unfold joinG
        rw [if_neg hz, if_neg hz3, HHE.out, HNS.out]
      have g2 : (0 : Int) < (hs.length : Int) := by omega
      have HJ := Lib.hid hj
      have hN1 : 1 ≤ N := by have := HNS.out; omega
      clear hj hz hz3
      go_wp2_with fail
      refine (lastA A gs.length c (by omega) _).mono ?_
      rintro e w5 ⟨rfl, rfl⟩
      go_wp2_with fail
      refine (lastA A4 N c4 (by omega) _).mono ?_
      rintro e w5 ⟨rfl, rfl⟩
      go_wp2_with fail
      refine (pairA ((gs.length : Int) - 1) ((N : Int) - 1) _).mono ?_
      rintro e w6 ⟨rfl, hB6⟩
      have HO6 := Lib.hid (own_below HO4.out hB6 (Nat.le_refl _))
      have HV6 := Lib.hid (HV24.out.kept hB6)
      have HB6 := Lib.hid (HB4.out.trans (hB6.mono HB4.out.size))
      obtain ⟨X, hX⟩ : ∃ X : Rl, X = ⟨⟨#[]⟩, (gs.length : Int) - 1, (N : Int) - 1⟩ := ⟨_, rfl⟩
      have HXP := Lib.hid (show X = pairR (gs.length - 1) (N - 1) from by rw [hX]; unfold pairR; congr 1 <;> omega)
      have HXC := Lib.hid (show rc X = [.string ⟨#[]⟩, .int .i64 ((gs.length : Int) - 1), .int .i64 ((N : Int) - 1)] from by rw [hX]; rfl)
      have hnw := news3 w6 X 146
      rw [hX] at hnw
      have HNW := Lib.hid hnw
      have hbs6 : w3.heap.size ≤ w6.heap.size := by
        have h1 := HB6.out.size
        rcases HO6.out.2 with ⟨_, h2⟩ | ⟨g, cap, cur, _, h2, h3, _⟩
        · omega
        · have := (Array.getElem?_eq_some_iff.1 h3).1; omega
      clear hX hnw hB6
      go_wp2_with (first | (at_builtin; refine wpList_append_own _ rfl _ _ 24 rfl w3.heap.size 146 i0 (.agg #[.string ⟨#[]⟩, .int .i64 0, .int .i64 0]) 3 32 Try.underlying24 hi hz0 hz1 hz2 rfl (by decide) _ _ _ rfl (World.ownsRow.alloc HO6.out _) ⟨w6.heap.size, 0, none⟩ 1 1 (rc X) rfl rfl (by rw [HXC.out]; exact HNW.out) (rc_cell _) (by unfold maxLen; omega) (by omega) (by simp; omega) ?_))
      intro v' w7 hown' hgr _
      obtain ⟨A7, c7, rfl⟩ := own_slice hown'
      have hba : Below w6.heap.size w6 (w6.alloc (.cells #[.string ⟨#[]⟩, .int .i64 ((gs.length : Int) - 1), .int .i64 ((N : Int) - 1)] 146)) := (Below.refl _ w6).alloc (Nat.le_refl _) _
      have HO5 : Hid (OwnsR w7 w3.heap.size (.slice A7 (N + 1) c7) (joinG gs hs)) := Lib.hid (by
        unfold OwnsR
        rw [HJ.out, List.length_append, ← HN.out, rv_app, rv_one, ← HXP.out]
        exact hown')
      have HV5 : Hid (Var w7 (w.heap.size + 2) (.slice none 0 0) 26) := Lib.hid ((hgr.block (w.heap.size + 2) (Nat.lt_of_lt_of_le HV6.out.lt hba.size) (fun e => own_var_ne HO6.out HV6.out (by decide) e.symm)).trans (HV6.out.kept hba))
      have HB5 : Hid (Below w.heap.size w w7) := Lib.hid ((HB6.out.trans (hba.mono HB6.out.size)).grown hgr (Nat.le_trans HB6.out.size hba.size) (fun q hq => by have h1 := (HO6.out.lt q hq).1; have h2 := HWS.out; omega))
      clear hown' hgr hba
      go_wp2_with fail
      have hT := limited_any (.slice A7 (N + 1) c7) (joinG gs hs) w7 HFJ.out (Rules.of_own HO5.out)
      have hlo := lim_own HO5.out
      have hne : (limV (joinG gs hs) (.slice A7 (N + 1) c7)).ownBlock ≠ some (w.heap.size + 2) := by
        intro hq
        have h7 := (hlo.lt _ hq).1
        have h8 := HWS.out
        omega
      obtain ⟨Al, cl, hl⟩ := own_slice hlo
      rw [hl] at hT hlo hne
      have HLO := Lib.hid hlo
      have HT := Lib.hid hT
      have HNE := Lib.hid hne
      clear hT hlo hl hne
      go_wp2_with fail
      refine HT.out.mono ?_
      rintro e w9 ⟨rfl, hB9⟩
      obtain ⟨f0, f1⟩ := (HV5.out.kept hB9).cell
      have HO9 := Lib.hid (own_lower (own_below HLO.out hB9 (Nat.le_refl _)) (show w.heap.size ≤ w3.heap.size by have := HWS.out; omega))
      have HB9 := Lib.hid (HB5.out.trans (hB9.mono HB5.out.size))
      clear hB9
      go_wp2_with fail
      refine bodyPost_ret (v := .tuple #[.agg #[.slice Al (limG (joinG gs hs)).length cl], .int .i64 (limC (joinG gs hs))]) (by simp [results, Try.results131, go_sem, f0]) rfl ⟨_, rfl, ?_, HB9.out.setCell (by simp; omega) _⟩
      exact World.ownsRow.kept HO9.out (only_setCell (World.grownBy.refl w9 (some (w.heap.size + 2))) (p := ⟨w.heap.size + 2, 0, none⟩) (.inl rfl) _) (.inr HNE.out)

theorem implJoinGrammars (v u : Value) (gs hs : List Rl) (w : World) (hf : FewR gs) (hf2 : FewR hs) (hr : Rules w v gs) (hr2 : Rules w u hs) :
    Calls Try.prog 131 #[.agg #[v], .agg #[u]] w fun e w' => ∃ y, e = .returned (.tuple #[.agg #[y], .int .i64 (gramJoinGrammars gs hs).2]) ∧ OwnsR w' w.heap.size y (gramJoinGrammars gs hs).1 ∧ Below w.heap.size w w' := by
  unfold gramJoinGrammars
  cases hb : gOk gs && gOk hs
  · rw [if_neg (by simp)]
    refine (implJoin_bad v u gs hs w hf hf2 hr hr2 hb).mono ?_
    rintro e w' ⟨rfl, hB⟩
    exact ⟨_, rfl, World.ownsRow_nil _ _ _ _, hB⟩
  · rw [if_pos rfl]
    rw [Bool.and_eq_true] at hb
    exact implJoin_ok v u gs hs w hf hf2 hr hr2 hb.1 hb.2
end Go.Proofs.Ytlgpleeanmeenaa
