/-
  OwnK, TrimN, TrimF, TrimG, TrimR, Jst, TrimS, in one text.
-/
import Derived.Test.YtlgpleeanmeenaaFnExactRunsGrammarK2
import Derived.Test.YtlgpleeanmeenaaFnExactRunsGrammarK1
import Derived.OwnWalk
import Derived.Laws.MakeOwn
import Derived.Maps.OwnOps
import Derived.Maps.OwnSet
import Derived.Maps.Views
import Derived.DeepKeys4
import Derived.ChangeKeys
import Derived.Test.YtlgpleeanmeenaaFnExactRunsGrammarK3
import Derived.BigQuiet
import Derived.Test.YtlgpleeanmeenaaKind
import Derived.Deep.RegionLaw
import Derived.StillTailTactics
import Derived.Deep.Cut
namespace Go.Proofs.Ytlgpleeanmeenaa
open Go.RowKit
open Wd
set_option linter.unusedVariables false

namespace Wd
/-- the number of a letter -/
def ltNo (x : Rl) : Nat := (x.L.data.toList.headD 97).toNat - 97
/-- a letter as its one byte -/
theorem letter_byte {x : Rl} {n : Nat} (h0 : x.L.size ≠ 0) (h : x.ok n = true) : ∃ c : UInt8, x.L = ⟨#[c]⟩ ∧ 97 ≤ (c.toNat : Int) ∧ (c.toNat : Int) ≤ 100 ∧ ltNo x = c.toNat - 97 := by
  obtain ⟨⟨h1, h2⟩, _⟩ := (ok_letter h0).1 h
  obtain ⟨⟨⟨l⟩⟩, a, b⟩ := x
  match l, h1 with
  | [c], _ =>
    have h3 := of_lt (okL_at h2 (i := 0) (by simp))
    exact ⟨c, rfl, by simpa using h3.1, by simpa using h3.2, rfl⟩
theorem own_addr {w : World} {B e s n c : Nat} {A : Option Addr} {xs : List Value} (h : w.ownsRow B e s (.slice A n c) n xs) (hn : 0 < n) : ∃ g, A = some ⟨g, 0, none⟩ ∧ B ≤ g ∧ g < w.heap.size := by
  rcases h.2 with ⟨_, h0⟩ | ⟨g, cap, cur, hv, hb, hg, _⟩
  · omega
  · injection hv with hv
    exact ⟨g, hv, hb, (Array.getElem?_eq_some_iff.1 hg).1⟩
end Wd
theorem cell_far0 {w : World} {a b i j : Nat} (h : a ≠ b) (u : Value) : (w.setCell ⟨b, j, none⟩ u).cell? ⟨a, i, none⟩ = w.cell? ⟨a, i, none⟩ :=
  World.cell?_of_block (a := ⟨a, i, none⟩) (Below.heap_setCell w ⟨b, j, none⟩ u a h)
theorem own_kinds_ne {w : World} {B B' e e' s s' n n' : Nat} {v u : Value} {xs ys : List Value} (h : w.ownsRow B e s v n xs) (h' : w.ownsRow B' e' s' u n' ys) (hne : e ≠ e') : v.ownBlock = none ∨ v.ownBlock ≠ u.ownBlock := by
  rcases h.2 with ⟨rfl, _⟩ | ⟨g1, cap, cur, rfl, _, hg, _⟩
  · exact .inl rfl
  · refine .inr fun e => ?_
    rcases h'.2 with ⟨rfl, _⟩ | ⟨g', cap', cur', rfl, _, hg', _⟩
    · simp [Value.ownBlock] at e
    · have : g1 = g' := by simpa [Value.ownBlock] using e
      subst this
      rw [hg] at hg'
      injection hg' with h1
      injection h1 with _ h2
      exact hne h2
theorem own_other {w w5 : World} {B B' e e' s s' n n' : Nat} {v u : Value} {xs ys : List Value} {o : Obj} (h : w.ownsRow B e s v n xs) (h' : w.ownsRow B' e' s' u n' ys) (hne : e ≠ e') (hg : (w.alloc o).grownBy w5 u.ownBlock) : w5.ownsRow B e s v n xs :=
  World.ownsRow.kept (h.alloc o) hg (own_kinds_ne h h' hne)
theorem made_i64 (n : Nat) : (madeCells #[.int .i64 0] n).toList = iv (List.replicate n 0) := by
  apply List.ext_getElem
  · simp [madeCells, iv]
  · intro i h1 h2
    simp [madeCells, iv, Nat.mod_one]
theorem iv_setU (mem : List Int) (k : Nat) (z : Int) : iv (mem.set k z) = (iv mem).set k (.int .i64 z) := by simp [iv, List.map_set]
theorem u_store {w : World} {B e g n : Nat} {u : List Int} (h : w.ownsRow B e 1 (.slice (some ⟨g, 0, none⟩) n n) n (iv u)) (k : Nat) (z : Int) :
    (w.setCell ⟨g, k, none⟩ (.int .i64 z)).ownsRow B e 1 (.slice (some ⟨g, 0, none⟩) n n) n (iv (u.set k z)) := by
  rw [iv_setU]; exact (h.stored k (.int .i64 z)).1
end Go.Proofs.Ytlgpleeanmeenaa
namespace Go.Proofs.Ytlgpleeanmeenaa
open Go.RowKit
open Wd
set_option linter.unusedVariables false
theorem Try.info_bool : (Try.prog.info? 4).map (fun i => (i.zero, i.size, i.bytes)) = some (some (.bool false), 1, 1) := by kernel_rfl
namespace Wd
def tv (l : List Bool) : List Value := l.map Value.bool
theorem tv_len (l : List Bool) : (tv l).length = l.length := by simp [tv]
theorem tv_at (l : List Bool) (k : Nat) (h : k < l.length) : (tv l)[k]? = some (.bool (l.getD k false)) := by
  simp [tv, h, List.getD_eq_getElem?_getD]
theorem tv_set (l : List Bool) (k : Nat) (b : Bool) : tv (l.set k b) = (tv l).set k (.bool b) := by simp [tv, List.map_set]
theorem nxT_pair {gs : List Rl} {k : Nat} (hok : fits gs = true) (hk : k < gs.length) (h0 : (nxT gs k).L.size = 0) :
    ∃ a b : Nat, a < k ∧ b < k ∧ nxT gs k = ⟨⟨#[]⟩, (a : Int), (b : Int)⟩ := by
  have hf := fits_at hok k hk
  have hn : nxT gs k = redR (fT gs k) gs[k] := by unfold nxT; rw [List.getD_eq_getElem?_getD, List.getElem?_eq_getElem hk, Option.getD_some]
  by_cases hz : gs[k].L.size = 0
  · have hb := (ok_pair hz).1 hf
    have h1 := fT_le gs k gs[k].l.toNat (by omega)
    have h2 := fT_le gs k gs[k].r.toNat (by omega)
    refine ⟨(fT gs k).getD gs[k].l.toNat 0, (fT gs k).getD gs[k].r.toNat 0, by omega, by omega, ?_⟩
    rw [hn]
    unfold redR
    rw [if_pos hz]
  · rw [hn] at h0
    unfold redR at h0
    rw [if_neg hz] at h0
    exact absurd h0 hz
theorem nxT_letter {gs : List Rl} {k : Nat} (hok : fits gs = true) (hk : k < gs.length) (h0 : (nxT gs k).L.size ≠ 0) : ∃ (c : UInt8) (l r : Int), nxT gs k = ⟨⟨#[c]⟩, l, r⟩ := by
  have hf := fits_at hok k hk
  have hn : nxT gs k = redR (fT gs k) gs[k] := by unfold nxT; rw [List.getD_eq_getElem?_getD, List.getElem?_eq_getElem hk, Option.getD_some]
  by_cases hz : gs[k].L.size = 0
  · rw [hn] at h0
    unfold redR at h0
    rw [if_pos hz] at h0
    exact absurd rfl h0
  · obtain ⟨c, hL, _⟩ := letter_byte hz hf
    refine ⟨c, gs[k].l, gs[k].r, ?_⟩
    rw [hn]
    unfold redR
    rw [if_neg hz, ← hL]
theorem kT_at {gs : List Rl} {n k : Nat} (hk : k < n) : (kT gs n).getD k zeroR = nxT gs k := by
  rw [List.getD_eq_getElem?_getD, kT_pre gs k n hk, Option.getD_some]
end Wd
theorem made_bool (n : Nat) : (madeCells #[.bool false] n).toList = tv (List.replicate n false) := by
  apply List.ext_getElem
  · simp [madeCells, tv]
  · intro i h1 h2
    simp [madeCells, tv, Nat.mod_one]
theorem b_store {w : World} {B e M n c : Nat} {l : List Bool} (h : w.ownsRow B e 1 (.slice (some ⟨M, 0, none⟩) n c) n (tv l)) (k : Nat) (b : Bool) : (w.setCell ⟨M, k, none⟩ (.bool b)).ownsRow B e 1 (.slice (some ⟨M, 0, none⟩) n c) n (tv (l.set k b)) := by
  rw [tv_set]
  exact (h.stored k (.bool b)).1
end Go.Proofs.Ytlgpleeanmeenaa
namespace Go.Proofs.Ytlgpleeanmeenaa
open Go.RowKit Go.Maps
open Wd
set_option linter.unusedVariables false
theorem laidOut : laidOutB Try.prog = true := by kernel_rfl
theorem ruleRow : (146 : TypeId) < Try.prog.types.size := of_decide_eq_true (by kernel_rfl)
theorem ruleWide : (match Try.prog.underlying 146 with | some (.array _ _) | some (.struct _) => true | _ => false) = true := by kernel_rfl
theorem ruleKeyT : Try.prog.keyTypeAt 2 146 = true := by kernel_rfl
set_option maxRecDepth 100000 in
theorem keyedRule : Keyed Try.prog 146 := Keyed.of_law (deep_law_laid laidOut (m := 2) (by omega) ruleRow ruleKeyT ruleWide)
/-- the key of a rule -/
def keyL (x : Rl) : Lit := .string (keyBytes [.string x.L.data.toList, .int .i64 x.l, .int .i64 x.r])
def KeyOk (x : Rl) : Prop := x.L.size ≤ maxLen ∧ (Lit.int .i64 x.l).wf = true ∧ (Lit.int .i64 x.r).wf = true
theorem ruleKeyType : Try.prog.keyType 146 = true := by kernel_rfl
theorem ruleCells : Try.prog.cellsOf 146 = 3 := by kernel_rfl
theorem strCells : Try.prog.cellsOf 9 = 1 := by kernel_rfl
theorem i64Cells : Try.prog.cellsOf 2 = 1 := by kernel_rfl
theorem typesPos : ∃ m, Try.prog.types.size = m + 2 := by
  have h : Try.prog.types.size = (Try.prog.types.size - 2) + 2 := by
    have : (2 : Nat) ≤ Try.prog.types.size := of_decide_eq_true (by kernel_rfl)
    omega
  exact ⟨_, h⟩
theorem keyOf_rule (x : Rl) (h : KeyOk x) : keyOf Try.prog 146 (.agg #[.string x.L, .int .i64 x.l, .int .i64 x.r]) = some (keyL x) := by
  obtain ⟨h1, h2, h3⟩ := h
  obtain ⟨m, hm⟩ := typesPos
  unfold keyOf
  simp only [Try.underlying146]
  rw [if_pos (by simp [ruleKeyType, Value.formed, Try.underlying146, ruleCells]), hm]
  unfold Program.keyLits
  simp only [Try.underlying146, Value.cells]
  rw [if_pos (by rw [ruleCells]; exact ⟨rfl, by kernel_rfl⟩)]
  simp [Program.keyLits, strCells, i64Cells, Try.underlying9, Try.underlying2, h1, h2, h3, keyL]
theorem keyL_inj {x y : Rl} (hx : KeyOk x) (hy : KeyOk y) (h : keyL x = keyL y) : x = y := by
  have h1 := keyOf_rule x hx
  have h2 := keyOf_rule y hy
  rw [h] at h1
  have := keyedRule.inj h1 h2
  obtain ⟨a, b, c⟩ := x
  obtain ⟨a', b', c'⟩ := y
  simpa using this
theorem keyL_key (x : Rl) : WideAt.IsKeyLit (keyL x) := trivial
/-- what the map of known rules says -/
structure KnowsD (K : List Rl) (D : DataW Unit) : Prop where
  isMap : IsMap D
  has : ∀ x, KeyOk x → Maps.has D (keyL x) = decide (x ∈ K)
  at' : ∀ x, KeyOk x → x ∈ K → ∀ z, D.atKey (keyL x) z = .lit (.int .i64 (K.idxOf x : Nat))
def MapF (K : List Rl) (M m : Nat) (w : World) : Prop :=
  ∃ D : DataW Unit, w.ownsMap Try.prog 146 (plainElem Try.prog 2) M m D ∧ KnowsD K D
theorem knows_nil : KnowsD [] (.map []) := ⟨isMap_empty, fun x _ => by simp [Maps.has], fun x _ h => by simp at h⟩
theorem KnowsD.met {K : List Rl} {D : DataW Unit} (h : KnowsD K D) {x : Rl} (hx : x ∈ K) : KnowsD (K ++ [x]) D := by
  refine ⟨h.isMap, fun y hy => ?_, fun y hy hm z => ?_⟩
  · rw [h.has y hy]
    congr 1
    simp only [List.mem_append, List.mem_singleton, eq_iff_iff]
    exact ⟨Or.inl, fun h => h.elim id (fun e => e ▸ hx)⟩
  · have hm' : y ∈ K := by
      rcases List.mem_append.1 hm with h | h
      · exact h
      · rw [List.mem_singleton.1 h]; exact hx
    rw [h.at' y hy hm' z, List.idxOf_append, if_pos hm']
theorem KnowsD.new {K : List Rl} {D : DataW Unit} (h : KnowsD K D) {x : Rl} (hk : KeyOk x) (hx : x ∉ K) : KnowsD (K ++ [x]) (D.put (keyL x) (.lit (.int .i64 (K.length : Nat)))) := by
  refine ⟨h.isMap.put _ _, fun y hy => ?_, fun y hy hm z => ?_⟩
  · by_cases e : y = x
    · subst e
      rw [has_put_same h.isMap (keyL_key _)]
      simp
    · rw [has_put_other (fun hh => e (keyL_inj hy hk hh)), h.has y hy]
      congr 1
      simp [e]
  · by_cases e : y = x
    · subst e
      rw [atKey_put_same h.isMap (keyL_key _), List.idxOf_append, if_neg hx]
      simp
    · rw [atKey_put_other (fun hh => e (keyL_inj hy hk hh))]
      have hm' : y ∈ K := by
        rcases List.mem_append.1 hm with h | h
        · exact h
        · exact absurd (List.mem_singleton.1 h) e
      rw [h.at' y hy hm' z, List.idxOf_append, if_pos hm']
theorem MapF.kept {K : List Rl} {M k : Nat} {w w' : World} {row : Option Nat} (h : MapF K M k w) (hg : w.grownBy w' row) (hne : some M ≠ row) : MapF K M k w' := by
  obtain ⟨D, h1, h2⟩ := h
  exact ⟨D, h1.kept hg hne, h2⟩
theorem MapF.lt {K : List Rl} {M k : Nat} {w : World} (h : MapF K M k w) : M < w.heap.size := by
  obtain ⟨D, h1, _⟩ := h
  exact h1.lt
theorem own_mapF_ne {w : World} {B e s n M m : Nat} {v : Value} {xs : List Value} {K : List Rl} (h : w.ownsRow B e s v n xs) (hm : MapF K M m w) : v.ownBlock ≠ some M := by
  obtain ⟨D, ⟨es, clock, hb, _⟩, _⟩ := hm
  rcases h.2 with ⟨rfl, _⟩ | ⟨g', cap, cur, rfl, _, hh, _⟩
  · simp [Value.ownBlock]
  · intro he
    have : g' = M := by simpa [Value.ownBlock] using he
    subst this
    rw [hh] at hb
    cases hb
theorem zeroI64 (w : World) : (zeroValue 2).run Try.prog w = .ok (.int .i64 0) w := by kernel_rfl
namespace Wd
theorem nxT_keyOk {gs : List Rl} {k : Nat} (hok : fits gs = true) (hk : k < gs.length) (hl : gs.length ≤ 1000000) : KeyOk (nxT gs k) := by
  by_cases h0 : (nxT gs k).L.size = 0
  · obtain ⟨a, b, ha, hb, e⟩ := nxT_pair hok hk h0
    rw [e]
    refine ⟨Nat.zero_le _, ?_, ?_⟩ <;> (simp [Lit.wf, IntKind.min, IntKind.max, IntKind.signed, IntKind.bits]; omega)
  · have hf := fits_at hok k hk
    have hn : nxT gs k = redR (fT gs k) gs[k] := by unfold nxT; rw [List.getD_eq_getElem?_getD, List.getElem?_eq_getElem hk, Option.getD_some]
    by_cases hz : gs[k].L.size = 0
    · rw [hn] at h0
      unfold redR at h0
      rw [if_pos hz] at h0
      exact absurd rfl h0
    · obtain ⟨c, hL, _⟩ := letter_byte hz hf
      have hb := (ok_letter hz).1 hf
      have e : nxT gs k = gs[k] := by rw [hn]; unfold redR; rw [if_neg hz]
      rw [e]
      refine ⟨by rw [hL]; show 1 ≤ maxLen; unfold maxLen; omega, ?_, ?_⟩ <;> (simp [Lit.wf, IntKind.min, IntKind.max, IntKind.signed, IntKind.bits]; omega)
end Wd
end Go.Proofs.Ytlgpleeanmeenaa
namespace Go.Proofs.Ytlgpleeanmeenaa
open Go.RowKit Go.Maps
open Wd
set_option linter.unusedVariables false
namespace Wd
theorem fT_getD {gs : List Rl} {j k n : Nat} (h : j < k) (h2 : j < n) : (fT gs k).getD j 0 = (fT gs n).getD j 0 := by
  rw [List.getD_eq_getElem?_getD, List.getD_eq_getElem?_getD, fT_pre gs j k h, fT_pre gs j n h2]
/-- the number of the first one that is equal -/
def F1 (gs : List Rl) (i : Int) : Nat := (fT gs gs.length).getD i.toNat 0
theorem F1_le (gs : List Rl) {i : Int} (h : i.toNat < gs.length) : F1 gs i ≤ i.toNat := fT_le gs _ _ h
theorem nx_at {gs : List Rl} {k : Nat} (hk : k < gs.length) : nxT gs k = redR (fT gs k) gs[k] := by
  unfold nxT; rw [List.getD_eq_getElem?_getD, List.getElem?_eq_getElem hk, Option.getD_some]
theorem nx_pair {gs : List Rl} (hok : fits gs = true) {k : Nat} (hk : k < gs.length) (hz : gs[k].L.size = 0) :
    nxT gs k = ⟨⟨#[]⟩, (F1 gs gs[k].l : Nat), (F1 gs gs[k].r : Nat)⟩ := by
  have hb := (ok_pair hz).1 (fits_at hok k hk)
  rw [nx_at hk]
  unfold redR F1
  rw [if_pos hz, fT_getD (n := gs.length) (show gs[k].l.toNat < k by omega) (by omega), fT_getD (n := gs.length) (show gs[k].r.toNat < k by omega) (by omega)]
theorem nx_letter {gs : List Rl} {k : Nat} (hk : k < gs.length) (hz : gs[k].L.size ≠ 0) : nxT gs k = gs[k] := by
  rw [nx_at hk]
  unfold redR
  rw [if_neg hz]
theorem nd_pair {gs : List Rl} (hok : fits gs = true) {k : Nat} (hk : k < gs.length) (hz : gs[k].L.size = 0) (nd : List Bool) :
    ndStep (kT gs gs.length) nd k = if nd.getD k false = true then (nd.set (F1 gs gs[k].l) true).set (F1 gs gs[k].r) true else nd := by
  unfold ndStep
  rw [kT_at hk, nx_pair hok hk hz]
  by_cases h : nd.getD k false = true
  · rw [if_pos ⟨h, rfl⟩, if_pos h]
    rfl
  · rw [if_neg (fun c => h c.1), if_neg h]
theorem nd_letter {gs : List Rl} {k : Nat} (hk : k < gs.length) (hz : gs[k].L.size ≠ 0) (nd : List Bool) : ndStep (kT gs gs.length) nd k = nd := by
  unfold ndStep
  rw [kT_at hk, nx_letter hk hz, if_neg (fun c => hz c.2)]
/-- what a rule becomes when it is left -/
def leftR (gs : List Rl) (P : List Nat) (x : Rl) : Rl := if x.L.size = 0 then ⟨⟨#[]⟩, (P.getD (F1 gs x.l) 0 : Nat), (P.getD (F1 gs x.r) 0 : Nat)⟩ else x
theorem out_yes {gs : List Rl} (hok : fits gs = true) {k : Nat} (hk : k < gs.length) (nd : List Bool) (h : nd.getD k false = true) :
    outT (kT gs gs.length) nd (k + 1) = ((outT (kT gs gs.length) nd k).1.set k (outT (kT gs gs.length) nd k).2.length, (outT (kT gs gs.length) nd k).2 ++ [leftR gs (outT (kT gs gs.length) nd k).1 gs[k]]) := by
  rw [outT, if_pos h, kT_at hk]
  congr 3
  by_cases hz : gs[k].L.size = 0
  · have hb := (ok_pair hz).1 (fits_at hok k hk)
    have h1 := F1_le gs (i := gs[k].l) (by omega)
    have h2 := F1_le gs (i := gs[k].r) (by omega)
    rw [nx_pair hok hk hz]
    unfold redR leftR
    rw [if_pos (show (⟨⟨#[]⟩, (F1 gs gs[k].l : Nat), (F1 gs gs[k].r : Nat)⟩ : Rl).L.size = 0 from rfl), if_pos hz]
    simp only [Int.toNat_natCast, List.getD_eq_getElem?_getD]
    rw [List.getElem?_set_ne (by omega), List.getElem?_set_ne (by omega)]
  · rw [nx_letter hk hz]
    unfold redR leftR
    rw [if_neg hz, if_neg hz]
theorem out_no {gs : List Rl} {k : Nat} (nd : List Bool) (h : nd.getD k false = false) : outT (kT gs gs.length) nd (k + 1) = outT (kT gs gs.length) nd k := by
  rw [outT, if_neg (by rw [h]; decide)]
end Wd
end Go.Proofs.Ytlgpleeanmeenaa
namespace Go.Proofs.Ytlgpleeanmeenaa
open Go.RowKit Go.Maps
open Wd
set_option linter.unusedVariables false

theorem firstE_any (n : Nat) (pb g len c : Nat) (z : Int) (w : World) (hn : n < len) (hl : len ≤ 1000000) (hp : w.cell? ⟨pb, 0, none⟩ = some (.slice (some ⟨g, 0, none⟩) len c)) (hc : w.cell? ⟨g, n, none⟩ = some (.int .i64 z)) :
    Calls Try.prog 197 #[.int .i64 n, .pointer (some ⟨pb, 0, none⟩)] w fun e w' => e = .returned (.int .i64 z) ∧ Drawn w w' := by
  go_enter Try.func197, Try.ntmps197
  go_wp2
  go_ret
  exact ⟨rfl, Drawn.refl _⟩
set_option maxRecDepth 100000 in
set_option maxHeartbeats 1600000 in
theorem trimE_any (n : Nat) (pp pf g gp len c lenp cp : Nat) (k : Nat) (z : Int) (w : World) (hn : n < len) (hl : len ≤ 1000000) (hk : k < lenp) (hlp : lenp ≤ 1000000) (hp : w.cell? ⟨pf, 0, none⟩ = some (.slice (some ⟨g, 0, none⟩) len c)) (hc : w.cell? ⟨g, n, none⟩ = some (.int .i64 (k : Int)))
    (hq : w.cell? ⟨pp, 0, none⟩ = some (.slice (some ⟨gp, 0, none⟩) lenp cp)) (hd : w.cell? ⟨gp, k, none⟩ = some (.int .i64 z)) :
    Calls Try.prog 175 #[.int .i64 n, .pointer (some ⟨pp, 0, none⟩), .pointer (some ⟨pf, 0, none⟩)] w fun e w' => e = .returned (.int .i64 z) ∧ Drawn w w' := by
  go_enter Try.func175, Try.ntmps175
  go_wp2
  go_quiet (fail)
  go_wp2
  go_ret
  exact ⟨rfl, (Drawn.refl w).drewN _⟩
theorem drewN_below {B : Nat} {w W : World} (h : Below B w W) (q : Nat) : Below B w (W.drewN q) := h.trans (((Drawn.refl W).drewN q).below _)
set_option maxRecDepth 100000 in
set_option maxHeartbeats 6400000 in
theorem renum_first (x : Rl) (pb : Nat) (l' r' : Int) (w : World) (h : x.L.size = 0)
    (HF1 : ∀ W : World, (∀ k, k < w.heap.size → W.heap[k]? = w.heap[k]?) → Calls Try.prog 197 #[.int .i64 x.l, .pointer (some ⟨pb, 0, none⟩)] W fun e w' => e = .returned (.int .i64 l') ∧ Drawn W w')
    (HF2 : ∀ W : World, (∀ k, k < w.heap.size → W.heap[k]? = w.heap[k]?) → Calls Try.prog 197 #[.int .i64 x.r, .pointer (some ⟨pb, 0, none⟩)] W fun e w' => e = .returned (.int .i64 r') ∧ Drawn W w') :
    Calls Try.prog 174 #[agg3 x, .func (.func 197) #[] #[.pointer (some ⟨pb, 0, none⟩)]] w fun e w' => e = .returned (.agg #[.string ⟨#[]⟩, .int .i64 l', .int .i64 r']) ∧ Below w.heap.size w w' := by
  have hk := fun W => kind_pair x h W
  obtain ⟨L, l, r⟩ := x
  simp only at h HF1 HF2
  obtain rfl := empty_arr h
  have HF1 := Lib.hid HF1
  have HF2 := Lib.hid HF2
  have HB := Lib.hid (fun (o o' : Obj) => ((Below.refl _ w).alloc (Nat.le_refl _) o).alloc (by simp) o')
  have HTP := ta_pp
  have k1 : ((w.alloc (.cells #[.string ⟨#[]⟩, .int .i64 l, .int .i64 r] 146)).alloc (.cells #[.string ⟨#[]⟩, .int .i64 0, .int .i64 0] 146)).heap[w.heap.size + 1]? = some (.cells #[.string ⟨#[]⟩, .int .i64 0, .int .i64 0] 146 (0, 0)) := by
    have := heap_alloc_new (w.alloc (.cells #[.string ⟨#[]⟩, .int .i64 l, .int .i64 r] 146)) (.cells #[.string ⟨#[]⟩, .int .i64 0, .int .i64 0] 146)
    rwa [show (w.alloc (.cells #[.string ⟨#[]⟩, .int .i64 l, .int .i64 r] 146)).heap.size = w.heap.size + 1 from by simp] at this
  have HK1 := Lib.hid k1
  clear h k1
  show Calls Try.prog _ #[.agg #[.string ⟨#[]⟩, .int .i64 l, .int .i64 r], _] _ _
  have hkk : ∀ W, Calls Try.prog 171 #[.agg #[.string ⟨#[]⟩, .int .i64 l, .int .i64 r]] W fun e w' => e = .returned (.iface 223 (.agg #[.string ⟨#[]⟩, .int .i64 l, .int .i64 r])) ∧ Below W.heap.size W w' := hk
  have HK2 := Lib.hid hkk
  clear hk hkk
  go_enter Try.func174, Try.ntmps174
  go_wp2_with fail
  refine (HK2.out _).mono ?_
  rintro e w1 ⟨rfl, hB1⟩
  have HB1 := Lib.hid ((HB.out _ _).trans (hB1.mono (by simp; omega)))
  have HE1 := Lib.hid ((hB1.block (w.heap.size + 1) (by simp)).trans HK1.out)
  have hs1 : w.heap.size + 2 ≤ w1.heap.size := by have := hB1.size; simp at this; omega
  clear hB1
  go_wp2_with fail
  have hb2 := (Below.refl _ w1).alloc (Nat.le_refl _) (.cells #[.string ⟨#[]⟩, .int .i64 l, .int .i64 r] 223)
  have hK := heap_alloc_new w1 (.cells #[.string ⟨#[]⟩, .int .i64 l, .int .i64 r] 223)
  obtain ⟨⟨c0, c1, c2⟩, _⟩ := blk3_cells hK
  have HE2 := Lib.hid ((hb2.block (w.heap.size + 1) (by omega)).trans HE1.out)
  have HB2 := Lib.hid (HB1.out.trans (hb2.mono HB1.out.size))
  obtain ⟨K, hKe⟩ : ∃ K, K = w1.heap.size := ⟨_, rfl⟩
  have hK1 : w.heap.size + 1 < K := by omega
  have hK2 : K < (w1.alloc (.cells #[.string ⟨#[]⟩, .int .i64 l, .int .i64 r] 223)).heap.size := by simp; omega
  rw [← hKe] at c0 c1 c2 ⊢
  generalize w1.alloc (.cells #[.string ⟨#[]⟩, .int .i64 l, .int .i64 r] 223) = w2 at *
  have HC := Lib.hid (And.intro c1 c2)
  have hwb : ∀ k, k < w.heap.size → w2.drew.heap[k]? = w.heap[k]? := fun k hk => HB2.out.block k hk
  have HW := Lib.hid hwb
  have hKn : K ≠ w.heap.size + 1 := by omega
  have hlt1 : w.heap.size + 1 < w2.drew.heap.size := Nat.lt_trans hK1 hK2
  clear hK hb2 hKe c0 hwb
  go_region_held3 (fun w' => w'.cell? ⟨K, 1, none⟩ = some (.int .i64 l) ∧ w'.cell? ⟨K, 2, none⟩ = some (.int .i64 r)) (first | exact HC.out | exact HC7.out | exact HC8.out | go_keep) ((first
    | (go_at_call_of 197 (Value.int .i64 l); refine (HF1.out _ (by exact HW.out)).mono ?_; rintro e wA ⟨rfl, q, rfl⟩)
    | (go_at_call_of 197 (Value.int .i64 r); refine (HF2.out _ (by exact HW.out)).mono ?_; rintro e wA ⟨rfl, q', rfl⟩)
    | (go_at_call 150
       refine (pairA _ _ _).mono ?_
       rintro e w7 ⟨rfl, hB7⟩
       have HC7 := Lib.hid (And.intro ((hB7.cell (p := ⟨K, 1, none⟩) hK2).trans HC.out.1) ((hB7.cell (p := ⟨K, 2, none⟩) hK2).trans HC.out.2))
       have HC8 := Lib.hid (And.intro (cell_far1 (p := ⟨w.heap.size + 1, 2, none⟩) (u := .int .i64 r') (cell_far1 (p := ⟨w.heap.size + 1, 1, none⟩) (u := .int .i64 l') (cell_far1 (p := ⟨w.heap.size + 1, 0, none⟩) (u := .string ⟨#[]⟩) HC7.out.1 hKn) hKn) hKn) (cell_far1 (p := ⟨w.heap.size + 1, 2, none⟩) (u := .int .i64 r') (cell_far1 (p := ⟨w.heap.size + 1, 1, none⟩) (u := .int .i64 l') (cell_far1 (p := ⟨w.heap.size + 1, 0, none⟩) (u := .string ⟨#[]⟩) HC7.out.2 hKn) hKn) hKn))
       have e7 := (hB7.block (w.heap.size + 1) hlt1).trans HE2.out
       obtain ⟨⟨b0, b1, b2⟩, d0, d1, d2⟩ := blk3_cells e7
       have HE7 := Lib.hid (blk3_cells (blk3 (a' := .string ⟨#[]⟩) (b' := .int .i64 l') (c' := .int .i64 r') e7)).1
       have HB7 : Hid (Below w.heap.size w w7) := Lib.hid ((drewN_below HB2.out _).trans (hB7.mono HB2.out.size))
       clear e7 hB7)))
  obtain ⟨y0, y1, y2⟩ := HE7.out
  go_wp2_with fail
  refine bodyPost_ret (v := .agg #[.string ⟨#[]⟩, .int .i64 l', .int .i64 r']) (by simp [results, Try.results174, go_sem, y0, y1, y2]) rfl ⟨rfl, ?_⟩
  exact ((HB7.out.setCell (by simp) _).setCell (by simp) _).setCell (by simp) _
set_option maxRecDepth 100000 in
set_option maxHeartbeats 6400000 in
theorem renum_trim (x : Rl) (pp pf : Nat) (l' r' : Int) (w : World) (h : x.L.size = 0)
    (HF1 : ∀ W : World, (∀ k, k < w.heap.size → W.heap[k]? = w.heap[k]?) → Calls Try.prog 175 #[.int .i64 x.l, .pointer (some ⟨pp, 0, none⟩), .pointer (some ⟨pf, 0, none⟩)] W fun e w' => e = .returned (.int .i64 l') ∧ Drawn W w')
    (HF2 : ∀ W : World, (∀ k, k < w.heap.size → W.heap[k]? = w.heap[k]?) → Calls Try.prog 175 #[.int .i64 x.r, .pointer (some ⟨pp, 0, none⟩), .pointer (some ⟨pf, 0, none⟩)] W fun e w' => e = .returned (.int .i64 r') ∧ Drawn W w') :
    Calls Try.prog 174 #[agg3 x, .func (.func 175) #[] #[.pointer (some ⟨pp, 0, none⟩), .pointer (some ⟨pf, 0, none⟩)]] w fun e w' => e = .returned (.agg #[.string ⟨#[]⟩, .int .i64 l', .int .i64 r']) ∧ Below w.heap.size w w' := by
  have hk := fun W => kind_pair x h W
  obtain ⟨L, l, r⟩ := x
  simp only at h HF1 HF2
  obtain rfl := empty_arr h
  have HF1 := Lib.hid HF1
  have HF2 := Lib.hid HF2
  have HB := Lib.hid (fun (o o' : Obj) => ((Below.refl _ w).alloc (Nat.le_refl _) o).alloc (by simp) o')
  have HTP := ta_pp
  have k1 : ((w.alloc (.cells #[.string ⟨#[]⟩, .int .i64 l, .int .i64 r] 146)).alloc (.cells #[.string ⟨#[]⟩, .int .i64 0, .int .i64 0] 146)).heap[w.heap.size + 1]? = some (.cells #[.string ⟨#[]⟩, .int .i64 0, .int .i64 0] 146 (0, 0)) := by
    have := heap_alloc_new (w.alloc (.cells #[.string ⟨#[]⟩, .int .i64 l, .int .i64 r] 146)) (.cells #[.string ⟨#[]⟩, .int .i64 0, .int .i64 0] 146)
    rwa [show (w.alloc (.cells #[.string ⟨#[]⟩, .int .i64 l, .int .i64 r] 146)).heap.size = w.heap.size + 1 from by simp] at this
  have HK1 := Lib.hid k1
  clear h k1
  show Calls Try.prog _ #[.agg #[.string ⟨#[]⟩, .int .i64 l, .int .i64 r], _] _ _
  have hkk : ∀ W, Calls Try.prog 171 #[.agg #[.string ⟨#[]⟩, .int .i64 l, .int .i64 r]] W fun e w' => e = .returned (.iface 223 (.agg #[.string ⟨#[]⟩, .int .i64 l, .int .i64 r])) ∧ Below W.heap.size W w' := hk
  have HK2 := Lib.hid hkk
  clear hk hkk
  go_enter Try.func174, Try.ntmps174
  go_wp2_with fail
  refine (HK2.out _).mono ?_
  rintro e w1 ⟨rfl, hB1⟩
  have HB1 := Lib.hid ((HB.out _ _).trans (hB1.mono (by simp; omega)))
  have HE1 := Lib.hid ((hB1.block (w.heap.size + 1) (by simp)).trans HK1.out)
  have hs1 : w.heap.size + 2 ≤ w1.heap.size := by have := hB1.size; simp at this; omega
  clear hB1
  go_wp2_with fail
  have hb2 := (Below.refl _ w1).alloc (Nat.le_refl _) (.cells #[.string ⟨#[]⟩, .int .i64 l, .int .i64 r] 223)
  have hK := heap_alloc_new w1 (.cells #[.string ⟨#[]⟩, .int .i64 l, .int .i64 r] 223)
  obtain ⟨⟨c0, c1, c2⟩, _⟩ := blk3_cells hK
  have HE2 := Lib.hid ((hb2.block (w.heap.size + 1) (by omega)).trans HE1.out)
  have HB2 := Lib.hid (HB1.out.trans (hb2.mono HB1.out.size))
  obtain ⟨K, hKe⟩ : ∃ K, K = w1.heap.size := ⟨_, rfl⟩
  have hK1 : w.heap.size + 1 < K := by omega
  have hK2 : K < (w1.alloc (.cells #[.string ⟨#[]⟩, .int .i64 l, .int .i64 r] 223)).heap.size := by simp; omega
  rw [← hKe] at c0 c1 c2 ⊢
  generalize w1.alloc (.cells #[.string ⟨#[]⟩, .int .i64 l, .int .i64 r] 223) = w2 at *
  have HC := Lib.hid (And.intro c1 c2)
  have hwb : ∀ k, k < w.heap.size → w2.drew.heap[k]? = w.heap[k]? := fun k hk => HB2.out.block k hk
  have HW := Lib.hid hwb
  have hKn : K ≠ w.heap.size + 1 := by omega
  have hlt1 : w.heap.size + 1 < w2.drew.heap.size := Nat.lt_trans hK1 hK2
  clear hK hb2 hKe c0 hwb
  go_region_held3 (fun w' => w'.cell? ⟨K, 1, none⟩ = some (.int .i64 l) ∧ w'.cell? ⟨K, 2, none⟩ = some (.int .i64 r)) (first | exact HC.out | exact HC7.out | exact HC8.out | go_keep) ((first
    | (go_at_call_of 175 (Value.int .i64 l); refine (HF1.out _ (by exact HW.out)).mono ?_; rintro e wA ⟨rfl, q, rfl⟩)
    | (go_at_call_of 175 (Value.int .i64 r); refine (HF2.out _ (by exact HW.out)).mono ?_; rintro e wA ⟨rfl, q', rfl⟩)
    | (go_at_call 150
       refine (pairA _ _ _).mono ?_
       rintro e w7 ⟨rfl, hB7⟩
       have HC7 := Lib.hid (And.intro ((hB7.cell (p := ⟨K, 1, none⟩) hK2).trans HC.out.1) ((hB7.cell (p := ⟨K, 2, none⟩) hK2).trans HC.out.2))
       have HC8 := Lib.hid (And.intro (cell_far1 (p := ⟨w.heap.size + 1, 2, none⟩) (u := .int .i64 r') (cell_far1 (p := ⟨w.heap.size + 1, 1, none⟩) (u := .int .i64 l') (cell_far1 (p := ⟨w.heap.size + 1, 0, none⟩) (u := .string ⟨#[]⟩) HC7.out.1 hKn) hKn) hKn) (cell_far1 (p := ⟨w.heap.size + 1, 2, none⟩) (u := .int .i64 r') (cell_far1 (p := ⟨w.heap.size + 1, 1, none⟩) (u := .int .i64 l') (cell_far1 (p := ⟨w.heap.size + 1, 0, none⟩) (u := .string ⟨#[]⟩) HC7.out.2 hKn) hKn) hKn))
       have e7 := (hB7.block (w.heap.size + 1) hlt1).trans HE2.out
       obtain ⟨⟨b0, b1, b2⟩, d0, d1, d2⟩ := blk3_cells e7
       have HE7 := Lib.hid (blk3_cells (blk3 (a' := .string ⟨#[]⟩) (b' := .int .i64 l') (c' := .int .i64 r') e7)).1
       have HB7 : Hid (Below w.heap.size w w7) := Lib.hid ((drewN_below HB2.out _).trans (hB7.mono HB2.out.size))
       clear e7 hB7)))
  obtain ⟨y0, y1, y2⟩ := HE7.out
  go_wp2_with fail
  refine bodyPost_ret (v := .agg #[.string ⟨#[]⟩, .int .i64 l', .int .i64 r']) (by simp [results, Try.results174, go_sem, y0, y1, y2]) rfl ⟨rfl, ?_⟩
  exact ((HB7.out.setCell (by simp) _).setCell (by simp) _).setCell (by simp) _
theorem renum_keep (x : Rl) (f : Value) (w : World) (h : x.L.size ≠ 0) :
    Calls Try.prog 174 #[agg3 x, f] w fun e w' => e = .returned (agg3 x) ∧ Below w.heap.size w w' := by
  have := renum_letter x 0 f w h
  rwa [show raiseR 0 x = x from by unfold raiseR; rw [if_neg h]] at this
end Go.Proofs.Ytlgpleeanmeenaa
namespace Go.Proofs.Ytlgpleeanmeenaa
open Go.RowKit
open Wd
set_option linter.unusedVariables false

/-- the variable with the rules so far -/
def JSt (w : World) (B V r : Nat) (rs : List Rl) (yv : Value) (wr : World) : Prop :=
  wr.ownsRow B 146 3 yv rs.length (rv rs) ∧ Var wr V yv 26 ∧ Var wr r (.slice none 0 0) 26 ∧ Below w.heap.size w wr ∧ B ≤ wr.heap.size
theorem jst_kept {w wr w1 : World} {B V r : Nat} {yv : Value} {rs : List Rl} (h : JSt w B V r rs yv wr) (hb : Below wr.heap.size wr w1) : JSt w B V r rs yv w1 := by
  obtain ⟨h1, h2, h3, h4, h5⟩ := h
  exact ⟨own_below h1 hb (Nat.le_refl _), h2.kept hb, h3.kept hb, h4.trans (hb.mono h4.size), by have := hb.size; omega⟩
theorem jst_grown {w wr w5 : World} {B V r : Nat} {rs : List Rl} {yv v' : Value} {x : Rl} {o : Obj} (hBw : w.heap.size ≤ B) (hVw : w.heap.size ≤ V) (hrV : r ≠ V) (h : JSt w B V r rs yv wr)
    (hown : w5.ownsRow B 146 3 v' (rs.length + 1) (rv rs ++ rc x)) (hg : (wr.alloc o).grownBy w5 yv.ownBlock) :
    (Var w5 V yv 26) ∧ JSt w B V r (rs ++ [x]) v' (w5.setCell ⟨V, 0, none⟩ v') := by
  obtain ⟨h1, h2, h3, h4, h5⟩ := h
  have n1 := own_var_ne h1 h2 (by decide)
  have n2 := own_var_ne h1 h3 (by decide)
  have k2 : Var w5 V yv 26 := (hg.block V (by have := h2.lt; simp; omega) (fun e => n1 e.symm)).trans (h2.kept ((Below.refl _ wr).alloc (Nat.le_refl _) o))
  have k3 : Var w5 r (.slice none 0 0) 26 := (hg.block r (by have := h3.lt; simp; omega) (fun e => n2 e.symm)).trans (h3.kept ((Below.refl _ wr).alloc (Nat.le_refl _) o))
  have n3 := own_var_ne hown k2 (by decide)
  have hB5 : Below w.heap.size w w5 := (h4.alloc h4.size o).grown hg (by have := h4.size; simp; omega) (fun q hq => by have := (h1.lt q hq).1; omega)
  refine ⟨k2, ?_, ?_, k3.far _ _ (by simpa using hrV), hB5.setCell (by simpa using hVw) _, ?_⟩
  · have := World.ownsRow.kept hown (only_setCell (World.grownBy.refl w5 (some V)) (p := ⟨V, 0, none⟩) (.inl rfl) v') (.inr n3)
    rw [List.length_append, rv_app, rv_one]
    exact this
  · have h7 := k2
    unfold Var at h7 ⊢
    simp [World.setCell, Array.getElem?_modify, h7]
  · have : w5.heap.size ≤ (w5.setCell ⟨V, 0, none⟩ v').heap.size := by simp [World.setCell]
    have h6 := hg.size
    simp at h6
    omega
end Go.Proofs.Ytlgpleeanmeenaa
namespace Go.Proofs.Ytlgpleeanmeenaa
open Go.RowKit
open Wd
set_option linter.unusedVariables false
namespace Wd
def ints (F : List Nat) : List Int := F.map fun (n : Nat) => (n : Int)
theorem ints_len (F : List Nat) : (ints F).length = F.length := by simp [ints]
theorem ints_at (F : List Nat) (k : Nat) (h : k < F.length) : (iv (ints F))[k]? = some (.int .i64 ((F.getD k 0 : Nat) : Int)) := by
  simp [iv, ints, h, List.getD_eq_getElem?_getD]
end Wd
theorem set3_kept {w : World} {B e s n X : Nat} {v a b c : Value} {xs : List Value} (h : w.ownsRow B e s v n xs) (hne : v.ownBlock ≠ some X) :
    (((w.setCell ⟨X, 0, none⟩ a).setCell ⟨X, 1, none⟩ b).setCell ⟨X, 2, none⟩ c).ownsRow B e s v n xs :=
  World.ownsRow.kept h (only_setCell (only_setCell (only_setCell (World.grownBy.refl w (some X)) (p := ⟨X, 0, none⟩) (.inl rfl) a) (p := ⟨X, 1, none⟩) (.inl rfl) b) (p := ⟨X, 2, none⟩) (.inl rfl) c) (.inr hne)
/-- a rule in a block of its own beside the rows so far -/
structure T2 (gs : List Rl) (w : World) (k X : Nat) (fv kv : Value) (wr : World) : Prop where
  hf : wr.ownsRow (w.heap.size + 1) 2 1 fv k (iv (ints (fT gs k)))
  hk : wr.ownsRow (w.heap.size + 1) 146 3 kv k (rv (kT gs k))
  hr : Var wr w.heap.size (.slice none 0 0) 26
  hb : Below w.heap.size w wr
  hx : wr.heap[X]? = some (.cells #[.string (nxT gs k).L, .int .i64 (nxT gs k).l, .int .i64 (nxT gs k).r] 146 (0, 0))
  xw : w.heap.size + 1 ≤ X
  kx : kv.ownBlock ≠ some X
  fx : fv.ownBlock ≠ some X
theorem T2.drewN {gs : List Rl} {w wr : World} {k X : Nat} {fv kv : Value} (h : T2 gs w k X fv kv wr) (q : Nat) : T2 gs w k X fv kv (wr.drewN q) :=
  { hf := h.hf, hk := h.hk, hr := h.hr, hb := h.hb.trans (((Drawn.refl wr).drewN q).below _), hx := h.hx, xw := h.xw, kx := h.kx, fx := h.fx }
/-- what holds between two rules of the first loop -/
def T1Rel (gs : List Rl) (w : World) (fv kv i : Value) (wr : World) : Prop :=
  ∃ k : Nat, k ≤ gs.length ∧ i = .int .i64 k ∧ wr.ownsRow (w.heap.size + 1) 2 1 fv k (iv (ints (fT gs k))) ∧ wr.ownsRow (w.heap.size + 1) 146 3 kv k (rv (kT gs k)) ∧ Var wr w.heap.size (.slice none 0 0) 26 ∧ Below w.heap.size w wr

structure T3 (gs : List Rl) (w : World) (k X : Nat) (fv kv : Value) (wr : World) : Prop where
  hf : wr.ownsRow (w.heap.size + 1) 2 1 fv (k + 1) (iv (ints (fT gs (k + 1))))
  hk : wr.ownsRow (w.heap.size + 1) 146 3 kv k (rv (kT gs k))
  hr : Var wr w.heap.size (.slice none 0 0) 26
  hb : Below w.heap.size w wr
  hx : wr.heap[X]? = some (.cells #[.string (nxT gs k).L, .int .i64 (nxT gs k).l, .int .i64 (nxT gs k).r] 146 (0, 0))
theorem T2.step1 {gs : List Rl} {w wr w5 : World} {k X e : Nat} {fv kv fv' : Value} {o : Obj} (h : T2 gs w k X fv kv wr) (he : e = (kT gs k).idxOf (nxT gs k))
    (hown : w5.ownsRow (w.heap.size + 1) 2 1 fv' (k + 1) (iv (ints (fT gs k)) ++ [.int .i64 (e : Int)])) (hg : (wr.alloc o).grownBy w5 fv.ownBlock) : T3 gs w k X fv' kv w5 := by
  have n2 := own_var_ne h.hf h.hr (by decide)
  have hlt : X < wr.heap.size := (Array.getElem?_eq_some_iff.1 h.hx).1
  have hba := (Below.refl _ wr).alloc (Nat.le_refl _) o
  have hbs := h.hb.size
  refine ⟨?_, own_other h.hk h.hf (by decide) hg, (hg.block w.heap.size (by have := h.hr.lt; simp; omega) (fun e => n2 e.symm)).trans (h.hr.kept hba), (h.hb.alloc hbs o).grown hg (by simp; omega) (fun q hq => by have := (h.hf.lt q hq).1; omega), ?_⟩
  · rw [fT_succ, ← he]
    have : iv (ints (fT gs k ++ [e])) = iv (ints (fT gs k)) ++ [.int .i64 (e : Int)] := by simp [ints, iv]
    rw [this]
    exact hown
  · rw [hg.block X (by simp; omega) (fun e => h.fx e.symm), hba.block X hlt]
    exact h.hx
theorem T3.step2 {gs : List Rl} {w wr w5 : World} {k X : Nat} {fv kv kv' : Value} {o : Obj} (h : T3 gs w k X fv kv wr) (hk : k < gs.length)
    (hown : w5.ownsRow (w.heap.size + 1) 146 3 kv' (k + 1) (rv (kT gs k) ++ rc (nxT gs k))) (hg : (wr.alloc o).grownBy w5 kv.ownBlock) : T1Rel gs w fv kv' (.int .i64 ((k : Int) + 1)) w5 := by
  have n2 := own_var_ne h.hk h.hr (by decide)
  have hba := (Below.refl _ wr).alloc (Nat.le_refl _) o
  have hbs := h.hb.size
  refine ⟨k + 1, by omega, by go_num, own_other h.hf h.hk (by decide) hg, by rw [kT_succ, rv_app, rv_one]; exact hown, (hg.block w.heap.size (by have := h.hr.lt; simp; omega) (fun e => n2 e.symm)).trans (h.hr.kept hba), (h.hb.alloc hbs o).grown hg (by simp; omega) (fun q hq => by have := (h.hk.lt q hq).1; omega)⟩

/-- which rules are needed, beside the rows -/
structure T5 (gs : List Rl) (w : World) (n L : Nat) (fv kv : Value) (nd : List Bool) (wr : World) : Prop where
  hf : wr.ownsRow (w.heap.size + 1) 2 1 fv n (iv (ints (fT gs n)))
  hk : wr.ownsRow (w.heap.size + 1) 146 3 kv n (rv (kT gs n))
  hn : wr.ownsRow (w.heap.size + 1) 4 1 (.slice (some ⟨L, 0, none⟩) n n) n (tv nd)
  hr : Var wr w.heap.size (.slice none 0 0) 26
  hb : Below w.heap.size w wr
theorem T5.store {gs : List Rl} {w wr : World} {n L : Nat} {fv kv : Value} {nd : List Bool} (h : T5 gs w n L fv kv nd wr) (j : Nat) : T5 gs w n L fv kv (nd.set j true) (wr.setCell ⟨L, j, none⟩ (.bool true)) := by
  have hL := (h.hn.lt L rfl).1
  have hg := only_setCell (World.grownBy.refl wr (some L)) (p := ⟨L, j, none⟩) (.inl rfl) (.bool true)
  exact { hf := World.ownsRow.kept h.hf hg (own_kinds_ne h.hf h.hn (by decide)), hk := World.ownsRow.kept h.hk hg (own_kinds_ne h.hk h.hn (by decide)), hn := b_store h.hn j true, hr := h.hr.far ⟨L, j, none⟩ _ (by simp; omega), hb := h.hb.setCell (p := ⟨L, j, none⟩) (by simp; omega) _ }
theorem T5.frozen {gs : List Rl} {w wr : World} {n L : Nat} {fv kv : Value} {nd : List Bool} (h : T5 gs w n L fv kv nd wr) (j : Nat) : wr.frozen? ⟨L, j, none⟩ = false := h.hn.frozenAt _
theorem T5.need {gs : List Rl} {w wr : World} {n L : Nat} {fv kv : Value} {nd : List Bool} (h : T5 gs w n L fv kv nd wr) (hl : nd.length = n) (j : Nat) (hj : j < n) : wr.cell? ⟨L, j, none⟩ = some (.bool (nd.getD j false)) :=
  (h.hn.cellAt j (by omega)).trans (tv_at nd j (by omega))
theorem T5.rule {gs : List Rl} {w wr : World} {n L K c : Nat} {fv : Value} {nd : List Bool} (h : T5 gs w n L fv (.slice (some ⟨K, 0, none⟩) n c) nd wr) (j : Nat) (hj : j < n) :
    wr.cell? ⟨K, j * 3, none⟩ = some (.string (nxT gs j).L) ∧ wr.cell? ⟨K, j * 3 + 1, none⟩ = some (.int .i64 (nxT gs j).l) ∧ wr.cell? ⟨K, j * 3 + 2, none⟩ = some (.int .i64 (nxT gs j).r) := by
  have hkt : j < (kT gs n).length := by rw [kT_len]; exact hj
  have e : (kT gs n)[j] = nxT gs j := by
    have := kT_pre gs j n hj
    rw [List.getElem?_eq_getElem hkt] at this
    exact Option.some.inj this
  have k0 := (h.hk.cellAt (j * 3) (by omega)).trans (rv_get _ j hkt 0 (by omega))
  have k1 := (h.hk.cellAt (j * 3 + 1) (by omega)).trans (rv_get _ j hkt 1 (by omega))
  have k2 := (h.hk.cellAt (j * 3 + 2) (by omega)).trans (rv_get _ j hkt 2 (by omega))
  rw [e] at k0 k1 k2
  exact ⟨k0, k1, k2⟩

/-- the last loop -/
structure T7 (gs : List Rl) (w : World) (n L Q V : Nat) (kv : Value) (al : List Bool) (nu : List Nat) (ou : List Rl) (yv : Value) (wr : World) : Prop where
  hk : wr.ownsRow (w.heap.size + 1) 146 3 kv n (rv (kT gs n))
  hn : wr.ownsRow (w.heap.size + 1) 4 1 (.slice (some ⟨L, 0, none⟩) n n) n (tv al)
  hq : wr.ownsRow (w.heap.size + 1) 2 1 (.slice (some ⟨Q, 0, none⟩) n n) n (iv (ints nu))
  hj : JSt w (V + 1) V w.heap.size ou yv wr
  kV : ∀ q, kv.ownBlock = some q → q < V
  wV : w.heap.size < V
theorem T7.need {gs : List Rl} {w wr : World} {n L Q V : Nat} {kv yv : Value} {al : List Bool} {nu : List Nat} {ou : List Rl} (h : T7 gs w n L Q V kv al nu ou yv wr) (hl : al.length = n) (j : Nat) (hj : j < n) : wr.cell? ⟨L, j, none⟩ = some (.bool (al.getD j false)) :=
  (h.hn.cellAt j (by omega)).trans (tv_at al j (by omega))
theorem T7.num {gs : List Rl} {w wr : World} {n L Q V : Nat} {kv yv : Value} {al : List Bool} {nu : List Nat} {ou : List Rl} (h : T7 gs w n L Q V kv al nu ou yv wr) (hl : nu.length = n) (j : Nat) (hj : j < n) : wr.cell? ⟨Q, j, none⟩ = some (.int .i64 ((nu.getD j 0 : Nat) : Int)) :=
  (h.hq.cellAt j (by omega)).trans (ints_at nu j (by omega))
theorem T7.rule {gs : List Rl} {w wr : World} {n L Q V K c : Nat} {yv : Value} {al : List Bool} {nu : List Nat} {ou : List Rl} (h : T7 gs w n L Q V (.slice (some ⟨K, 0, none⟩) n c) al nu ou yv wr) (j : Nat) (hj : j < n) :
    wr.cell? ⟨K, j * 3, none⟩ = some (.string (nxT gs j).L) ∧ wr.cell? ⟨K, j * 3 + 1, none⟩ = some (.int .i64 (nxT gs j).l) ∧ wr.cell? ⟨K, j * 3 + 2, none⟩ = some (.int .i64 (nxT gs j).r) := by
  have hkt : j < (kT gs n).length := by rw [kT_len]; exact hj
  have e : (kT gs n)[j] = nxT gs j := by
    have := kT_pre gs j n hj
    rw [List.getElem?_eq_getElem hkt] at this
    exact Option.some.inj this
  have k0 := (h.hk.cellAt (j * 3) (by omega)).trans (rv_get _ j hkt 0 (by omega))
  have k1 := (h.hk.cellAt (j * 3 + 1) (by omega)).trans (rv_get _ j hkt 1 (by omega))
  have k2 := (h.hk.cellAt (j * 3 + 2) (by omega)).trans (rv_get _ j hkt 2 (by omega))
  rw [e] at k0 k1 k2
  exact ⟨k0, k1, k2⟩
theorem T7.below {gs : List Rl} {w wr w1 : World} {n L Q V : Nat} {kv yv : Value} {al : List Bool} {nu : List Nat} {ou : List Rl} (h : T7 gs w n L Q V kv al nu ou yv wr) (hb : Below wr.heap.size wr w1) : T7 gs w n L Q V kv al nu ou yv w1 :=
  { hk := own_below h.hk hb (Nat.le_refl _), hn := own_below h.hn hb (Nat.le_refl _), hq := own_below h.hq hb (Nat.le_refl _), hj := jst_kept h.hj hb, kV := h.kV, wV := h.wV }
/-- a number is noted -/
theorem T7.note {gs : List Rl} {w wr : World} {n L Q V : Nat} {kv yv : Value} {al : List Bool} {nu : List Nat} {ou : List Rl} (h : T7 gs w n L Q V kv al nu ou yv wr) (j z : Nat) : T7 gs w n L Q V kv al (nu.set j z) ou yv (wr.setCell ⟨Q, j, none⟩ (.int .i64 (z : Int))) := by
  have hQ := h.hq.lt Q rfl
  have hg := only_setCell (World.grownBy.refl wr (some Q)) (p := ⟨Q, j, none⟩) (.inl rfl) (.int .i64 (z : Int))
  have hQV : Q ≠ V := by
    intro e
    have := own_var_ne h.hq h.hj.2.1 (by decide)
    exact this (by rw [e]; rfl)
  have hq2 := u_store h.hq j (z : Int)
  refine { hk := World.ownsRow.kept h.hk hg (own_kinds_ne h.hk h.hq (by decide)), hn := World.ownsRow.kept h.hn hg (own_kinds_ne h.hn h.hq (by decide)), hq := ?_, hj := ⟨World.ownsRow.kept h.hj.1 hg (own_kinds_ne h.hj.1 h.hq (by decide)), h.hj.2.1.far ⟨Q, j, none⟩ _ (by simpa using Ne.symm hQV), h.hj.2.2.1.far ⟨Q, j, none⟩ _ (by simp; omega), h.hj.2.2.2.1.setCell (p := ⟨Q, j, none⟩) (by simp; omega) _, Nat.le_trans h.hj.2.2.2.2 hg.size⟩, kV := h.kV, wV := h.wV }
  have : ints (nu.set j z) = (ints nu).set j (z : Int) := by simp [ints, List.map_set]
  rw [this]
  exact hq2

theorem T7.fresh3 {gs : List Rl} {w wr : World} {n L Q V : Nat} {kv yv a b c : Value} {al : List Bool} {nu : List Nat} {ou : List Rl} {o : Obj} (h : T7 gs w n L Q V kv al nu ou yv wr) :
    T7 gs w n L Q V kv al nu ou yv ((((wr.alloc o).setCell ⟨wr.heap.size, 0, none⟩ a).setCell ⟨wr.heap.size, 1, none⟩ b).setCell ⟨wr.heap.size, 2, none⟩ c).drew := by
  have h2 := h.below ((Below.refl _ wr).alloc (Nat.le_refl _) o)
  have hV := h.hj.2.1.lt
  have hw := h.wV
  exact { hk := set3_kept h2.hk (fun e => by have := (h.hk.lt _ e).2; omega), hn := set3_kept h2.hn (fun e => by have := (h.hn.lt _ e).2; omega), hq := set3_kept h2.hq (fun e => by have := (h.hq.lt _ e).2; omega),
          hj := ⟨set3_kept h2.hj.1 (fun e => by have := (h.hj.1.lt _ e).2; omega), ((h2.hj.2.1.far ⟨wr.heap.size, 0, none⟩ _ (by simp; omega)).far ⟨wr.heap.size, 1, none⟩ _ (by simp; omega)).far ⟨wr.heap.size, 2, none⟩ _ (by simp; omega),
            ((h2.hj.2.2.1.far ⟨wr.heap.size, 0, none⟩ _ (by simp; omega)).far ⟨wr.heap.size, 1, none⟩ _ (by simp; omega)).far ⟨wr.heap.size, 2, none⟩ _ (by simp; omega),
            (((h2.hj.2.2.2.1.setCell (p := ⟨wr.heap.size, 0, none⟩) (by simp; omega) _).setCell (p := ⟨wr.heap.size, 1, none⟩) (by simp; omega) _).setCell (p := ⟨wr.heap.size, 2, none⟩) (by simp; omega) _).drew, by
              have := h2.hj.2.2.2.2
              simpa [World.setCell, World.drew] using this⟩, kV := h.kV, wV := h.wV }
theorem T7.grow {gs : List Rl} {w wr w5 : World} {n L Q V : Nat} {kv yv y' : Value} {al : List Bool} {nu : List Nat} {ou : List Rl} {x : Rl} {o : Obj} (h : T7 gs w n L Q V kv al nu ou yv wr)
    (hown : w5.ownsRow (V + 1) 146 3 y' (ou.length + 1) (rv ou ++ rc x)) (hg : (wr.alloc o).grownBy w5 yv.ownBlock) : Var w5 V yv 26 ∧ T7 gs w n L Q V kv al nu (ou ++ [x]) y' (w5.setCell ⟨V, 0, none⟩ y') := by
  have hw := h.wV
  obtain ⟨hv, hj⟩ := jst_grown (x := x) (show w.heap.size ≤ V + 1 by omega) (show w.heap.size ≤ V by omega) (show w.heap.size ≠ V by omega) h.hj hown hg
  have hgV := only_setCell (World.grownBy.refl w5 (some V)) (p := ⟨V, 0, none⟩) (.inl rfl) y'
  have e1 := own_other h.hn h.hj.1 (by decide) hg
  have e2 := own_other h.hq h.hj.1 (by decide) hg
  have e3 : w5.ownsRow (w.heap.size + 1) 146 3 kv n (rv (kT gs n)) := World.ownsRow.kept (h.hk.alloc o) hg (by
    cases hk : kv.ownBlock with
    | none => exact .inl rfl
    | some q =>
      refine .inr fun e => ?_
      have h1 := h.kV q hk
      have h2 := (h.hj.1.lt q e.symm).1
      omega)
  refine ⟨hv, { hk := World.ownsRow.kept e3 hgV (.inr fun e => by have := h.kV V e; omega), hn := World.ownsRow.kept e1 hgV (.inr (own_var_ne e1 hv (by decide))), hq := World.ownsRow.kept e2 hgV (.inr (own_var_ne e2 hv (by decide))), hj := hj, kV := h.kV, wV := h.wV }⟩

set_option maxRecDepth 100000 in
set_option maxHeartbeats 51200000 in
theorem l02Trim_any (p : Nat) (gs : List Rl) (w : World) (hl : gs.length ≤ 4000) (hok : fits gs = true) (hg : GP w p gs) :
    Calls Try.prog 68 #[.pointer (some ⟨p, 0, none⟩)] w fun e w' => ∃ y, e = .returned (.agg #[y]) ∧ OwnsR w' w.heap.size y (trimG gs) ∧ Below w.heap.size w w' := by
  obtain ⟨i0, hi, hz0, hz1, hz2⟩ := info_parts Try.info_rule
  obtain ⟨j0, gi, gz0, gz1, gz2⟩ := info_parts Try.info_i64
  obtain ⟨q0, qi, qz0, qz1, qz2⟩ := info_parts Try.info_bool
  have hb : Below w.heap.size w (w.alloc (.cells #[.slice none 0 0] 26)) := (Below.refl _ w).alloc (Nat.le_refl _) _
  have HG := Lib.hid hg
  have HOK := Lib.hid hok
  obtain ⟨v, hv, A, c, rfl, hr⟩ := hg
  have HV := Lib.hid hv
  have HP := Lib.hid (lt_of_cell hv)
  have cv := (hb.cell (p := ⟨p, 0, none⟩) (lt_of_cell hv)).trans hv
  have HR := Lib.hid hr
  obtain ⟨n, hn⟩ : ∃ n, n = gs.length := ⟨_, rfl⟩
  have HST : Hid (T1Rel gs w (.slice (some ⟨w.heap.size + 1, 0, none⟩) 0 0) (.slice (some ⟨w.heap.size + 1 + 1, 0, none⟩) 0 0) (.int .i64 0) (((w.alloc (.cells #[.slice none 0 0] 26)).alloc (.cells #[] 2)).alloc (.cells #[] 146))) := Lib.hid
    ⟨0, Nat.zero_le _, rfl, by
      rw [show iv (ints (fT gs 0)) = [] from rfl]
      have := (World.ownsRow_lit (base := w.heap.size + 1) (e := 2) (size := 1) (w.alloc (.cells #[.slice none 0 0] 26)) #[] 0 (by simp) (by decide) rfl).alloc (.cells #[] 146)
      simpa using this, by
      rw [show rv (kT gs 0) = [] from rfl]
      have := World.ownsRow_lit (base := w.heap.size + 1) (e := 146) (size := 3) ((w.alloc (.cells #[.slice none 0 0] 26)).alloc (.cells #[] 2)) #[] 0 (by simp) (by decide) rfl
      simpa using this, ((Var.new w _ _).kept ((Below.refl _ _).alloc (Nat.le_refl _) _)).kept ((Below.refl _ _).alloc (Nat.le_refl _) _), (hb.alloc (by simp) _).alloc (by simp; omega) _⟩
  rw [← hn] at cv hl
  have HN := Lib.hid hn
  clear hb hv hr hn hok
  go_enter Try.func68, Try.ntmps68
  go_wp2_with fail
  go_loopw [4, 5, 6, 7, 8, 9] (fun f k i _ _ _ wr => T1Rel gs w f k i wr) (fun _ _ i _ _ _ _ => n - (intOf i).toNat)
  case atStart => exact HST.out
  case round =>
    obtain ⟨k, hk, rfl, hf, hkp, hvr, hB⟩ := hrel
    obtain ⟨wo, rfl⟩ : ∃ wo : World, wo = wr := ⟨_, rfl⟩
    rw [← HN.out] at hk
    obtain ⟨AF, cF, rfl⟩ := own_slice hf
    obtain ⟨AK, cK, rfl⟩ := own_slice hkp
    have hbs := hB.size
    by_cases hlt : k < n
    · have hkg : k < gs.length := by rw [← HN.out]; exact hlt
      rcases HR.out with hn0 | ⟨g, rfl, hg, hc⟩
      · rw [hn0] at hkg; simp at hkg
      obtain ⟨a0, a1, a2⟩ := rules_cells hc hkg
      have d0 := (hB.cell (p := ⟨g, k * 3, none⟩) hg).trans a0
      have d1 := (hB.cell (p := ⟨g, k * 3 + 1, none⟩) hg).trans a1
      have d2 := (hB.cell (p := ⟨g, k * 3 + 2, none⟩) hg).trans a2
      have cv1 := (hB.cell (p := ⟨p, 0, none⟩) HP.out).trans HV.out
      rw [← HN.out] at cv1
      have hft := fits_at HOK.out k hkg
      have hnx : nxT gs k = redR (fT gs k) gs[k] := by unfold nxT; rw [List.getD_eq_getElem?_getD, List.getElem?_eq_getElem hkg, Option.getD_some]
      by_cases h0 : gs[k].L.size = 0
      case' pos =>
        have hbd := (ok_pair h0).1 hft
        obtain ⟨b0, b1⟩ := hbd
        obtain ⟨M, rfl, hM1, hM2⟩ := own_addr hf (by omega)
        have f1 := (hf.cellAt gs[k].l.toNat (by omega)).trans (ints_at (fT gs k) gs[k].l.toNat (by rw [fT_len]; omega))
        have f2 := (hf.cellAt gs[k].r.toNat (by omega)).trans (ints_at (fT gs k) gs[k].r.toNat (by rw [fT_len]; omega))
        have hLe : gs[k].L = ⟨#[]⟩ := empty_arr h0
        rw [hLe] at d0
        have hX := nxT gs k
        have hnx2 : nxT gs k = ⟨⟨#[]⟩, ((fT gs k).getD gs[k].l.toNat 0 : Nat), ((fT gs k).getD gs[k].r.toNat 0 : Nat)⟩ := by rw [hnx]; unfold redR; rw [if_pos h0]
        generalize (fT gs k).getD gs[k].l.toNat 0 = FL at *
        generalize (fT gs k).getD gs[k].r.toNat 0 = FR at *
        generalize gs[k].l = l0 at *
        generalize gs[k].r = r0 at *
        have hba := (Below.refl _ wo).alloc (Nat.le_refl _) (.cells #[.string ⟨#[]⟩, .int .i64 l0, .int .i64 r0] 146)
        have HF := Lib.hid (own_below hf hba (Nat.le_refl _))
        have HKP := Lib.hid (own_below hkp hba (Nat.le_refl _))
        have HVR := Lib.hid (hvr.kept hba)
        have HB := Lib.hid (hB.trans (hba.mono hbs))
        have HBK := Lib.hid (heap_alloc_new wo (.cells #[.string ⟨#[]⟩, .int .i64 l0, .int .i64 r0] 146))
        have HF1 := Lib.hid ((hba.cell (p := ⟨M, l0.toNat, none⟩) hM2).trans f1)
        have HF2 := Lib.hid ((hba.cell (p := ⟨M, r0.toNat, none⟩) hM2).trans f2)
        have HNX := Lib.hid hnx2
        have HKX : Hid (∀ q, (Value.slice AK k cK).ownBlock = some q → q < wo.heap.size) := Lib.hid (fun q hq => (hkp.lt q hq).2)
        clear hf hkp hvr hB hc a0 a1 a2 hnx hnx2 hft h0 hLe hX f1 f2 hba
        obtain ⟨b00, b01⟩ := b0
        obtain ⟨b10, b11⟩ := b1
        go_wp2_with fail
        obtain ⟨X, hX⟩ : ∃ X, X = wo.heap.size := ⟨_, rfl⟩
        rw [← hX] at HBK hM2 HKX ⊢
        have hXw : w.heap.size + 1 ≤ X := by omega
        have HXS : Hid (X < (wo.alloc (.cells #[.string ⟨#[]⟩, .int .i64 l0, .int .i64 r0] 146)).heap.size) := Lib.hid (by rw [World.size_alloc, ← hX]; omega)
        generalize wo.alloc (.cells #[.string ⟨#[]⟩, .int .i64 l0, .int .i64 r0] 146) = w5 at *
        clear hX d0 d1 d2 cv1 hbs
        obtain ⟨⟨x0, x1, x2⟩, y0, y1, y2⟩ := blk3_cells HBK.out
        have f1 := HF1.out
        have f2 := HF2.out
        go_still_tail 11, (by kernel_rfl)
        change wpList _ _ _ _ _ w5.drew
        go_wp2_with fail
        have HT : Hid (T2 gs w k X (.slice (some ⟨M, 0, none⟩) k cF) (.slice AK k cK) (((w5.setCell ⟨X, 0, none⟩ (.string ⟨#[]⟩)).setCell ⟨X, 1, none⟩ (.int .i64 (FL : Int))).setCell ⟨X, 2, none⟩ (.int .i64 (FR : Int))).drew) := Lib.hid
          { hf := set3_kept HF.out (by simp [Value.ownBlock]; omega)
            hk := set3_kept HKP.out (fun e => by have := HKX.out X e; omega)
            hr := ((HVR.out.far ⟨X, 0, none⟩ _ (by simp; omega)).far ⟨X, 1, none⟩ _ (by simp; omega)).far ⟨X, 2, none⟩ _ (by simp; omega)
            hb := (((HB.out.setCell (p := ⟨X, 0, none⟩) (by simp; omega) _).setCell (p := ⟨X, 1, none⟩) (by simp; omega) _).setCell (p := ⟨X, 2, none⟩) (by simp; omega) _).drew
            hx := by rw [HNX.out]; exact blk3 HBK.out
            xw := hXw
            kx := fun e => by have := HKX.out X e; omega
            fx := by simp [Value.ownBlock]; omega }
        generalize (((w5.setCell ⟨X, 0, none⟩ (.string ⟨#[]⟩)).setCell ⟨X, 1, none⟩ (.int .i64 (FL : Int))).setCell ⟨X, 2, none⟩ (.int .i64 (FR : Int))).drew = w6 at *
        obtain ⟨AF, hAF⟩ : ∃ AF : Option Addr, AF = some ⟨M, 0, none⟩ := ⟨_, rfl⟩
        rw [← hAF] at HT ⊢
        clear HBK HF1 HF2 HKX HF HKP HVR HB HXS HNX x0 x1 x2 y0 y1 y2 f1 f2 hAF hM1 hM2
      case' neg =>
        obtain ⟨bb, hL, hb1, hb2, hno⟩ := letter_byte h0 hft
        obtain ⟨⟨hl1, hl2⟩, hl3, hl4⟩ := (ok_letter h0).1 hft
        have hnx2 : nxT gs k = ⟨⟨#[bb]⟩, gs[k].l, gs[k].r⟩ := by rw [hnx]; unfold redR; rw [if_neg h0, ← hL]
        rw [hL] at d0
        generalize gs[k].l = l0 at *
        generalize gs[k].r = r0 at *
        have hba := (Below.refl _ wo).alloc (Nat.le_refl _) (.cells #[.string ⟨#[bb]⟩, .int .i64 l0, .int .i64 r0] 146)
        have HT : Hid (T2 gs w k wo.heap.size (.slice AF k cF) (.slice AK k cK) (wo.alloc (.cells #[.string ⟨#[bb]⟩, .int .i64 l0, .int .i64 r0] 146))) := Lib.hid
          { hf := own_below hf hba (Nat.le_refl _)
            hk := own_below hkp hba (Nat.le_refl _)
            hr := hvr.kept hba
            hb := hB.trans (hba.mono hbs)
            hx := by rw [hnx2]; exact heap_alloc_new wo _
            xw := hvr.lt
            kx := fun e => by have := (hkp.lt _ e).2; omega
            fx := fun e => by have := (hf.lt _ e).2; omega }
        clear hf hkp hvr hB hc a0 a1 a2 hnx hnx2 hft h0 hL hba hl1 hl2 hl3 hl4 hno
        go_wp2_with fail
        obtain ⟨X, hX⟩ : ∃ X, X = wo.heap.size := ⟨_, rfl⟩
        rw [← hX] at HT ⊢
        generalize wo.alloc (.cells #[.string ⟨#[bb]⟩, .int .i64 l0, .int .i64 r0] 146) = w6 at *
        clear hX d0 d1 d2 cv1 hbs
      all_goals
        go_loopw [8, 9] (fun o q wr => ∃ t e : Nat, t ≤ k ∧ q = .int .i64 t ∧ o = .int .i64 e ∧ ((e = k ∧ noneT (kT gs k) (nxT gs k) t) ∨ (e < k ∧ e = (kT gs k).idxOf (nxT gs k))) ∧ T2 gs w k X (.slice AF k cF) (.slice AK k cK) wr) (fun _ q _ => k - (intOf q).toNat)
        case atStart => exact ⟨0, k, Nat.zero_le _, rfl, rfl, .inl ⟨rfl, fun j hj => by omega⟩, HT.out⟩
        case round =>
          obtain ⟨t, e, ht, rfl, rfl, hcc, hT⟩ := hrel
          obtain ⟨wu, rfl⟩ : ∃ wu : World, wu = wr := ⟨_, rfl⟩
          have HT2 := Lib.hid hT
          by_cases hgo : t < k ∧ e = k
          · have htk := hgo.1
            have hno : noneT (kT gs k) (nxT gs k) t := by
              rcases hcc with h | h
              · exact h.2
              · omega
            have hek2 := hgo.2
            rw [hek2]
            clear hek2
            obtain ⟨M1, rfl, _, _⟩ := own_addr hT.hf (by omega)
            obtain ⟨M2, rfl, _, _⟩ := own_addr hT.hk (by omega)
            have hkt : t < (kT gs k).length := by rw [kT_len]; exact htk
            have hf0 := hT.hf
            have hk0 := hT.hk
            have f1 := (hf0.cellAt t (by omega)).trans (ints_at (fT gs k) t (by rw [fT_len]; exact htk))
            have k0 : wu.cell? ⟨M2, t * 3, none⟩ = some (.string (kT gs k)[t].L) := (hk0.cellAt (t * 3) (by omega)).trans (rv_get _ t hkt 0 (by omega))
            have k1 : wu.cell? ⟨M2, t * 3 + 1, none⟩ = some (.int .i64 (kT gs k)[t].l) := (hk0.cellAt (t * 3 + 1) (by omega)).trans (rv_get _ t hkt 1 (by omega))
            have k2 : wu.cell? ⟨M2, t * 3 + 2, none⟩ = some (.int .i64 (kT gs k)[t].r) := (hk0.cellAt (t * 3 + 2) (by omega)).trans (rv_get _ t hkt 2 (by omega))
            have hkq : (kT gs k)[t]? = some (kT gs k)[t] := List.getElem?_eq_getElem hkt
            obtain ⟨⟨x0, x1, x2⟩, y0, y1, y2⟩ := blk3_cells hT.hx
            obtain ⟨FT, hFT⟩ : ∃ FT, FT = (fT gs k).getD t 0 := ⟨_, rfl⟩
            rw [← hFT] at f1
            obtain ⟨KR, hKR⟩ : ∃ KR, KR = (kT gs k)[t] := ⟨_, rfl⟩
            rw [← hKR] at k0 k1 k2 hkq
            obtain ⟨NR, hNR⟩ : ∃ NR, NR = nxT gs k := ⟨_, rfl⟩
            rw [← hNR] at x0 x1 x2 hno
            have HNR := Lib.hid hNR
            have HFT := Lib.hid hFT
            have hek : ((k : Int) == (k : Int)) = true := by simp
            clear hcc hgo hf0 hk0 hFT hKR hNR
            have hse := fun W => rule_eql KR NR W
            unfold agg3 at hse
            by_cases e1 : FT = t
            · rw [e1] at f1
              clear e1
              by_cases e2 : KR = NR
              · rw [e2, eqR_same] at hse
                rw [e2] at k0 k1 k2
                have hix : t = (kT gs k).idxOf (nxT gs k) := by
                  rw [← HNR.out]
                  exact (idx_first hno (by rw [hkq, e2])).symm
                have HIX := Lib.hid hix
                clear e2 hix
                go_wp2_with fail
                go_quiet (fail)
                have HS2 : Hid (∃ t' e' : Nat, t' ≤ k ∧ Value.int .i64 ((t : Int) + 1) = .int .i64 t' ∧ Value.int .i64 (t : Int) = .int .i64 e' ∧ ((e' = k ∧ noneT (kT gs k) (nxT gs k) t') ∨ (e' < k ∧ e' = (kT gs k).idxOf (nxT gs k))) ∧ T2 gs w k X (.slice (some ⟨M1, 0, none⟩) k cF) (.slice (some ⟨M2, 0, none⟩) k cK) (wu.drewN nq)) := Lib.hid ⟨t + 1, t, by omega, by go_num, rfl, .inr ⟨htk, HIX.out⟩, HT2.out.drewN nq⟩
                clear hse
                go_wp2_with fail
                go_roundw
                case rel => first | exact HS2.out | ((repeat apply Exists.intro); exact ⟨HS2.out, rfl⟩)
                case measure => (first | (simp [intOf]; done) | (simp [intOf]; omega))
              · rw [eqR_other e2] at hse
                have HNN : Hid (noneT (kT gs k) (nxT gs k) (t + 1)) := Lib.hid (fun j hj => by
                  rw [← HNR.out]
                  by_cases e : j = t
                  · rw [e, hkq]; exact fun h => e2 (Option.some.inj h)
                  · exact hno j (by omega))
                clear e2
                go_wp2_with fail
                go_quiet (fail)
                have HS2 : Hid (∃ t' e' : Nat, t' ≤ k ∧ Value.int .i64 ((t : Int) + 1) = .int .i64 t' ∧ Value.int .i64 (k : Int) = .int .i64 e' ∧ ((e' = k ∧ noneT (kT gs k) (nxT gs k) t') ∨ (e' < k ∧ e' = (kT gs k).idxOf (nxT gs k))) ∧ T2 gs w k X (.slice (some ⟨M1, 0, none⟩) k cF) (.slice (some ⟨M2, 0, none⟩) k cK) (wu.drewN nq)) := Lib.hid ⟨t + 1, k, by omega, by go_num, rfl, .inl ⟨rfl, HNN.out⟩, HT2.out.drewN nq⟩
                clear hse
                go_wp2_with fail
                go_roundw
                case rel => first | exact HS2.out | ((repeat apply Exists.intro); exact ⟨HS2.out, rfl⟩)
                case measure => (first | (simp [intOf]; done) | (simp [intOf]; omega))
            · have HNN : Hid (noneT (kT gs k) (nxT gs k) (t + 1)) := Lib.hid (fun j hj => by
                rw [← HNR.out]
                by_cases e : j = t
                · intro h
                  rw [e] at h
                  have h2 := own_first (gs := gs) htk hno h
                  apply e1
                  rw [HFT.out, List.getD_eq_getElem?_getD, h2]
                  rfl
                · exact hno j (by omega))
              have he1 : ((FT : Int) == (t : Int)) = false := by rw [beq_eq_false_iff_ne]; omega
              clear e1
              go_wp2_with fail
              go_quiet (fail)
              have HS2 : Hid (∃ t' e' : Nat, t' ≤ k ∧ Value.int .i64 ((t : Int) + 1) = .int .i64 t' ∧ Value.int .i64 (k : Int) = .int .i64 e' ∧ ((e' = k ∧ noneT (kT gs k) (nxT gs k) t') ∨ (e' < k ∧ e' = (kT gs k).idxOf (nxT gs k))) ∧ T2 gs w k X (.slice (some ⟨M1, 0, none⟩) k cF) (.slice (some ⟨M2, 0, none⟩) k cK) (wu.drewN nq)) := Lib.hid ⟨t + 1, k, by omega, by go_num, rfl, .inl ⟨rfl, HNN.out⟩, HT2.out.drewN nq⟩
              clear hse
              go_wp2_with fail
              go_roundw
              case rel => first | exact HS2.out | ((repeat apply Exists.intro); exact ⟨HS2.out, rfl⟩)
              case measure => (first | (simp [intOf]; done) | (simp [intOf]; omega))
          · have heq : e = (kT gs k).idxOf (nxT gs k) := by
              rcases hcc with h | h
              · obtain rfl : t = k := by omega
                rw [h.1]
                have h2 := h.2
                have := idx_none (K := kT gs t) (r := nxT gs t) (by rw [kT_len]; exact h2)
                rw [kT_len] at this
                exact this.symm
              · exact h.2
            have HEQ := Lib.hid heq
            have hel : e ≤ k := by
              rcases hcc with h | h
              · omega
              · omega
            have hf1 := hT.hf
            have HF1 := Lib.hid hf1
            have hbs6 := hT.hb.size
            have hnc : (w.heap.size + 1 ≤ wu.heap.size) := by have := hT.xw; have h9 := (Array.getElem?_eq_some_iff.1 hT.hx).1; omega
            clear hf1 hT heq hcc
            by_cases htk : t < k
            case' pos => have hek : ((e : Int) == (k : Int)) = false := by rw [beq_eq_false_iff_ne]; omega
            case' neg => have hek : ¬ (t : Int) < (k : Int) := by omega
            all_goals
              clear hgo
              go_wp2_with (first | (at_builtin; refine wpList_append_own _ rfl _ _ 82 rfl (w.heap.size + 1) 2 j0 (.int .i64 0) 1 8 Try.underlying82 gi gz0 gz1 gz2 rfl (by decide) _ _ _ rfl (World.ownsRow.alloc HF1.out _) ⟨wu.heap.size, 0, none⟩ 1 1 [.int .i64 (e : Int)] rfl rfl (World.news_of_block (cs := #[.int .i64 (e : Int)]) (heap_alloc_new wu _)) (by intro u hu; simp at hu; subst hu; rfl) (by unfold maxLen; omega) (by omega) (by simp; omega) ?_))
              intro v8 w8 hown' hgrow _
              obtain ⟨A8, c8, rfl⟩ := own_slice hown'
              have HT3 := Lib.hid (HT2.out.step1 HEQ.out hown' hgrow)
              clear hown' hgrow
              obtain ⟨⟨x0, x1, x2⟩, y0, y1, y2⟩ := blk3_cells HT3.out.hx
              have hb8 := HT3.out.hb.size
              have hk8 := HT3.out.hk
              have HK8 := Lib.hid hk8
              obtain ⟨NR, hNR⟩ : ∃ NR, NR = nxT gs k := ⟨_, rfl⟩
              rw [← hNR] at x0 x1 x2
              have HNR := Lib.hid hNR
              have HNW := Lib.hid (news3 w8 NR 146)
              have hxl : w.heap.size + 1 ≤ w8.heap.size := by have := HT2.out.xw; have h9 := (Array.getElem?_eq_some_iff.1 HT3.out.hx).1; omega
              clear hk8 hNR
              go_wp2_with (first | (at_builtin; refine wpList_append_own _ rfl _ _ 24 rfl (w.heap.size + 1) 146 i0 (.agg #[.string ⟨#[]⟩, .int .i64 0, .int .i64 0]) 3 32 Try.underlying24 hi hz0 hz1 hz2 rfl (by decide) _ _ _ rfl (World.ownsRow.alloc HK8.out _) ⟨w8.heap.size, 0, none⟩ 1 1 (rc NR) rfl rfl HNW.out (rc_cell _) (by unfold maxLen; omega) (by omega) (by simp; omega) ?_))
              intro v9 w9 hown' hgrow _
              obtain ⟨A9, c9, rfl⟩ := own_slice hown'
              have HT4 := Lib.hid (HT3.out.step2 hkg (by rw [← HNR.out]; exact hown') hgrow)
              clear hown' hgrow
              go_wp2_with fail
              go_roundw
              case rel => first | exact HT4.out | ((repeat apply Exists.intro); exact ⟨HT4.out, rfl⟩)
              case measure => (first | (simp [intOf]; done) | (simp [intOf]; omega))
    · have hkn : k = n := by omega
      rw [hkn] at hf hkp ⊢
      have hbs1 : w.heap.size + 1 ≤ wo.heap.size := hvr.lt
      have HF := Lib.hid hf
      have HKP := Lib.hid hkp
      have HVR := Lib.hid hvr
      have HB := Lib.hid hB
      clear hf hkp hvr hB hkn
      go_wp2_with (refine wpList_make_full _ rfl _ _ 178 rfl (w.heap.size + 1) 4 q0 (.bool false) 1 Try.underlying178 qi qz0 qz1 .i64 .i64 _ _ n rfl rfl rfl rfl (by rw [qz2]; omega) (by unfold maxLen; omega) hbs1 ?_)
      intro w3 hown hgr
      rw [made_bool] at hown
      have hB3 := below_of_grown hgr
      have HT5 : Hid (T5 gs w n wo.heap.size (.slice AF n cF) (.slice AK n cK) (List.replicate n false) w3) := Lib.hid
        { hf := own_below HF.out hB3 (Nat.le_refl _), hk := own_below HKP.out hB3 (Nat.le_refl _), hn := hown, hr := HVR.out.kept hB3, hb := HB.out.trans (hB3.mono hbs) }
      obtain ⟨L, hL⟩ : ∃ L, L = wo.heap.size := ⟨_, rfl⟩
      rw [← hL] at HT5 hbs1 ⊢
      clear hown hgr hB3 hL HF HKP HVR HB
      obtain ⟨ND, hND⟩ : ∃ ND, ND = (List.replicate n false).set ((fT gs n).getD (n - 1) 0) true := ⟨_, rfl⟩
      have HND := Lib.hid hND
      have hNDl : ND.length = n := by rw [hND]; simp
      by_cases hn0 : n = 0
      case' pos =>
        have HT6 : Hid (T5 gs w n L (.slice AF n cF) (.slice AK n cK) ND w3) := Lib.hid (by rw [hND]; have := HT5.out; rw [hn0] at this ⊢; exact this)
        have hnn : ¬ 0 < n := by omega
        clear hND hn0
        go_wp2_with fail
        obtain ⟨w6, hw6⟩ : ∃ w6, w6 = w3 := ⟨_, rfl⟩
        rw [← hw6] at HT6 ⊢
        clear hw6 hnn
      case' neg =>
        obtain ⟨M1, rfl, _, _⟩ := own_addr HT5.out.hf (by omega)
        have hFn := fT_le gs n (n - 1) (by omega)
        obtain ⟨FN, hFN⟩ : ∃ FN, FN = (fT gs n).getD (n - 1) 0 := ⟨_, rfl⟩
        have f1 : w3.cell? ⟨M1, n - 1, none⟩ = some (.int .i64 (FN : Int)) := by rw [hFN]; exact (HT5.out.hf.cellAt (n - 1) (by omega)).trans (ints_at (fT gs n) (n - 1) (by rw [fT_len]; omega))
        have HT6 : Hid (T5 gs w n L (.slice (some ⟨M1, 0, none⟩) n cF) (.slice AK n cK) ND (w3.setCell ⟨L, FN, none⟩ (.bool true))) := Lib.hid (by rw [hND, hFN]; exact HT5.out.store _)
        rw [← hFN] at hFn hND
        have hnn : 0 < n := by omega
        have g0 := HT5.out.frozen FN
        have g1 := HT5.out.need (by simp) FN (by omega)
        have i0 : ((n : Int) - 1).toNat = n - 1 := by omega
        have i1 : (0 : Int) ≤ (n : Int) - 1 := by omega
        have i2 : (n : Int) - 1 < (n : Int) := by omega
        have i3 : (FN : Int) < (n : Int) := by omega
        clear hND hFN
        go_wp2_with fail
        generalize w3.setCell ⟨L, FN, none⟩ (.bool true) = w6 at *
        obtain ⟨AF, hAF⟩ : ∃ AF : Option Addr, AF = some ⟨M1, 0, none⟩ := ⟨_, rfl⟩
        rw [← hAF] at HT6 ⊢
        clear hAF f1 g0 g1 i0 i1 i2 i3 hnn hn0
      all_goals
        clear HT5
        go_loopw [11] (fun i wr => ∃ t : Nat, t ≤ n ∧ i = .int .i64 ((n : Int) - 1 - t) ∧ T5 gs w n L (.slice AF n cF) (.slice AK n cK) (ndT (kT gs n) ND n t) wr) (fun i _ => ((intOf i) + 1).toNat)
        case atStart => exact ⟨0, Nat.zero_le _, by simp, HT6.out⟩
        case round =>
          obtain ⟨t, ht, rfl, hT⟩ := hrel
          obtain ⟨wu, rfl⟩ : ∃ wu : World, wu = wr := ⟨_, rfl⟩
          by_cases htn : t < n
          · obtain ⟨d, hd⟩ : ∃ d, d = n - 1 - t := ⟨_, rfl⟩
            have hdn : d < n := by omega
            have hdi : (n : Int) - 1 - (t : Int) = (d : Int) := by omega
            rw [hdi]
            have hdi2 : (n : Int) - 1 - ((t + 1 : Nat) : Int) = (d : Int) - 1 := by omega
            have HDI2 := Lib.hid hdi2
            have hst : ndT (kT gs n) ND n (t + 1) = ndStep (kT gs n) (ndT (kT gs n) ND n t) d := by rw [ndT, hd]
            have hnl : (ndT (kT gs n) ND n t).length = n := by rw [ndT_len, hNDl]
            generalize ndT (kT gs n) ND n t = nd at *
            obtain ⟨K0, rfl, hK1, hK2⟩ := own_addr hT.hk (by omega)
            have nn := hT.need hnl d hdn
            obtain ⟨k0, k1, k2⟩ := hT.rule d hdn
            have d0 : (0 : Int) ≤ (d : Int) := by omega
            have d1 : (d : Int) < (n : Int) := by omega
            have HT7 := Lib.hid hT
            have hkd := kT_at (gs := gs) hdn
            unfold ndStep at hst
            rw [hkd] at hst
            cases hnd : nd.getD d false
            · rw [hnd] at nn hst
              rw [if_neg (by simp)] at hst
              have HST7 := Lib.hid hst
              clear hst hnd hkd hT hd hdi hdi2
              go_wp2_with fail
              go_roundw
              case rel => exact ⟨t + 1, by omega, by rw [HDI2.out], by rw [HST7.out]; exact HT7.out⟩
              case measure => (first | (simp [intOf]; done) | (simp [intOf]; omega))
            · rw [hnd] at nn hst
              clear hnd
              have hdg : d < gs.length := by rw [← HN.out]; exact hdn
              by_cases hz : (nxT gs d).L.size = 0
              · rw [if_pos ⟨rfl, hz⟩] at hst
                obtain ⟨a, b, ha, hb, hR⟩ := nxT_pair HOK.out hdg hz
                rw [hR] at k0 k1 k2 hst
                have hst2 : ndT (kT gs n) ND n (t + 1) = (nd.set a true).set b true := by rw [hst]; simp
                have HST7 := Lib.hid hst2
                have hT1 := hT.store a
                have q0 := hT.frozen a
                have q1 := hT.need hnl a (by omega)
                have k3 := (hT1.rule d hdn).2.2
                rw [hR] at k3
                have q2 := hT1.frozen b
                have q3 := hT1.need (by simp [hnl]) b (by omega)
                have HT8 := Lib.hid (hT1.store b)
                have b0 : (a : Int) < (n : Int) := by omega
                have b1 : (b : Int) < (n : Int) := by omega
                clear hst hst2 hkd hT hd hdi hdi2 hz hR hT1
                go_wp2_with fail
                go_roundw
                case rel => exact ⟨t + 1, by omega, by rw [HDI2.out], by rw [HST7.out]; exact HT8.out⟩
                case measure => (first | (simp [intOf]; done) | (simp [intOf]; omega))
              · rw [if_neg (fun h => hz h.2)] at hst
                obtain ⟨cc, l1, r1, hR⟩ := nxT_letter HOK.out hdg hz
                rw [hR] at k0 k1 k2
                have HST7 := Lib.hid hst
                clear hst hkd hT hd hdi hdi2 hz hR
                go_wp2_with fail
                go_roundw
                case rel => exact ⟨t + 1, by omega, by rw [HDI2.out], by rw [HST7.out]; exact HT7.out⟩
                case measure => (first | (simp [intOf]; done) | (simp [intOf]; omega))
          · have htn2 : t = n := by omega
            rw [htn2] at hT
            obtain ⟨AL, hAL⟩ : ∃ AL, AL = ndT (kT gs n) ND n n := ⟨_, rfl⟩
            rw [← hAL] at hT
            have hALl : AL.length = n := by rw [hAL, ndT_len, hNDl]
            have HAL := Lib.hid hAL
            have HT9 := Lib.hid hT
            have hbs2 := hT.hb.size
            have hbs3 : w.heap.size + 1 ≤ wu.heap.size := hT.hr.lt
            have hn1 : ¬ (0 : Int) ≤ (n : Int) - 1 - (t : Int) := by omega
            clear hAL hT htn2
            go_wp2_with (refine wpList_make_full _ rfl _ _ 82 rfl (w.heap.size + 1) 2 j0 (.int .i64 0) 1 Try.underlying82 gi gz0 gz1 .i64 .i64 _ _ n rfl rfl rfl rfl (by rw [gz2]; omega) (by unfold maxLen; omega) hbs3 ?_)
            intro w7 hown hgr
            rw [made_i64] at hown
            have hB7 := below_of_grown hgr
            obtain ⟨Q, hQ⟩ : ∃ Q, Q = wu.heap.size := ⟨_, rfl⟩
            obtain ⟨V, hV⟩ : ∃ V, V = w7.heap.size := ⟨_, rfl⟩
            have hwV : w.heap.size < V := by have := hB7.size; omega
            have hba := (Below.refl _ w7).alloc (Nat.le_refl _) (.cells #[.slice none 0 0] 26)
            have HT10 : Hid (T7 gs w n L Q V (.slice AK n cK) AL (List.replicate n 0) [] (.slice none 0 0) (w7.alloc (.cells #[.slice none 0 0] 26))) := Lib.hid
              { hk := own_below (own_below HT9.out.hk hB7 (Nat.le_refl _)) hba (Nat.le_refl _)
                hn := own_below (own_below HT9.out.hn hB7 (Nat.le_refl _)) hba (Nat.le_refl _)
                hq := by rw [show ints (List.replicate n 0) = List.replicate n 0 from by simp [ints], hQ]; exact own_below hown hba (Nat.le_refl _)
                hj := ⟨World.ownsRow_nil _ _ _ _, by rw [hV]; exact Var.new w7 _ _, (HT9.out.hr.kept hB7).kept hba, (HT9.out.hb.trans (hB7.mono hbs2)).trans (hba.mono (Nat.le_trans hbs2 hB7.size)), by rw [hV]; simp⟩
                kV := fun q hq => by have h1 := (HT9.out.hk.lt q hq).2; have h2 := hB7.size; omega
                wV := hwV }
            rw [← hQ]
            clear hown hgr hB7 hQ hn1 hbs2 hbs3 hba
            go_wp2_with fail
            rw [← hV]
            generalize w7.alloc (.cells #[.slice none 0 0] 26) = w8 at *
            clear hV HT9
            go_loopw [14, 15] (fun i _ wr => ∃ (t : Nat) (yv : Value), t ≤ n ∧ i = .int .i64 t ∧ T7 gs w n L Q V (.slice AK n cK) AL (outT (kT gs n) AL t).1 (outT (kT gs n) AL t).2 yv wr) (fun i _ _ => n - (intOf i).toNat)
            case atStart => exact ⟨0, _, Nat.zero_le _, rfl, by rw [outT, hALl]; exact HT10.out⟩
            case round =>
              obtain ⟨t, yv, ht, rfl, hT⟩ := hrel
              obtain ⟨wv, rfl⟩ : ∃ wv : World, wv = wr := ⟨_, rfl⟩
              by_cases htn : t < n
              · have htg : t < gs.length := by rw [← HN.out]; exact htn
                have hbsv := hT.hj.2.2.2.1.size
                obtain ⟨K0, rfl, hK1, hK2⟩ := own_addr hT.hk (by omega)
                have hnl : (outT (kT gs n) AL t).1.length = n := by rw [outT_len, hALl]
                have hol := outT_le (kT gs n) AL t
                have hst : outT (kT gs n) AL (t + 1) = if AL.getD t false then ((outT (kT gs n) AL t).1.set t (outT (kT gs n) AL t).2.length, (outT (kT gs n) AL t).2 ++ [redR ((outT (kT gs n) AL t).1.set t (outT (kT gs n) AL t).2.length) ((kT gs n).getD t zeroR)]) else outT (kT gs n) AL t := rfl
                rw [kT_at (gs := gs) htn] at hst
                have hpair : outT (kT gs n) AL t = ((outT (kT gs n) AL t).1, (outT (kT gs n) AL t).2) := rfl
                have nn := hT.need hALl t htn
                obtain ⟨k0, k1, k2⟩ := hT.rule t htn
                have d0 : (0 : Int) ≤ (t : Int) := by omega
                have d1 : (t : Int) < (n : Int) := by omega
                cases hnd : AL.getD t false
                · rw [hnd] at nn hst
                  rw [if_neg (by decide)] at hst
                  have HS9 : Hid (T7 gs w n L Q V (.slice (some ⟨K0, 0, none⟩) n cK) AL (outT (kT gs n) AL (t + 1)).1 (outT (kT gs n) AL (t + 1)).2 yv wv) := Lib.hid (by rw [hst]; exact hT)
                  clear hst hnd hT hpair
                  go_wp2_with fail
                  go_roundw
                  case rel =>
                    have HS10 := Lib.hid (show ∃ (t' : Nat) (yv' : Value), t' ≤ n ∧ Value.int .i64 ((t : Int) + 1) = .int .i64 t' ∧ T7 gs w n L Q V (.slice (some ⟨K0, 0, none⟩) n cK) AL (outT (kT gs n) AL t').1 (outT (kT gs n) AL t').2 yv' wv from ⟨t + 1, yv, by omega, by go_num, HS9.out⟩)
                    first | exact HS10.out | ((repeat apply Exists.intro); exact ⟨HS10.out, rfl⟩)
                  case measure => (first | (simp [intOf]; done) | (simp [intOf]; omega))
                · rw [hnd] at nn hst
                  rw [if_pos rfl] at hst
                  clear hnd hpair
                  obtain ⟨NU, hNU⟩ : ∃ NU, NU = (outT (kT gs n) AL t).1 := ⟨_, rfl⟩
                  obtain ⟨OU, hOU⟩ : ∃ OU, OU = (outT (kT gs n) AL t).2 := ⟨_, rfl⟩
                  rw [← hNU, ← hOU] at hst
                  rw [← hNU, ← hOU] at hT
                  rw [← hNU] at hnl
                  rw [← hOU] at hol
                  obtain ⟨N, hN⟩ : ∃ N, N = OU.length := ⟨_, rfl⟩
                  rw [← hN] at hst hol
                  have hO := hT.hj.1
                  rw [← hN] at hO
                  obtain ⟨AO, cO, rfl⟩ := own_slice hO
                  have v0 := hT.hj.2.1.cell.1
                  have q0 := hT.num hnl t htn
                  have q1 : wv.frozen? ⟨Q, t, none⟩ = false := hT.hq.frozenAt _
                  have HT11 := Lib.hid (hT.note t N)
                  have HNX := Lib.hid hN
                  obtain ⟨j0', j1', j2'⟩ := (hT.note t N).rule t htn
                  have vN := HT11.out.hj.2.1.cell.1
                  have HSZ := Lib.hid (show (wv.setCell ⟨Q, t, none⟩ (.int .i64 (N : Int))).heap.size = wv.heap.size from by simp [World.setCell])
                  clear hNU hOU hT hO hN
                  by_cases hz : (nxT gs t).L.size = 0
                  · obtain ⟨a, b, ha, hb, hR⟩ := nxT_pair HOK.out htg hz
                    rw [hR] at k0 k1 k2 j0' j1' j2' hst
                    obtain ⟨NV, hNV⟩ : ∃ NV, NV = NU.set t N := ⟨_, rfl⟩
                    have hNVl : NV.length = n := by rw [hNV]; simpa using hnl
                    rw [← hNV] at HT11 hst
                    have f1 := HT11.out.num hNVl a (by omega)
                    have f2 := HT11.out.num hNVl b (by omega)
                    obtain ⟨FA, hFA⟩ : ∃ FA, FA = NV.getD a 0 := ⟨_, rfl⟩
                    obtain ⟨FB, hFB⟩ : ∃ FB, FB = NV.getD b 0 := ⟨_, rfl⟩
                    obtain ⟨RX, hRX⟩ : ∃ RX : Rl, RX = ⟨⟨#[]⟩, (FA : Int), (FB : Int)⟩ := ⟨_, rfl⟩
                    have hst2 : outT (kT gs n) AL (t + 1) = (NV, OU ++ [RX]) := by
                      have e9 : redR NV ⟨⟨#[]⟩, (a : Int), (b : Int)⟩ = RX := by rw [hRX, hFA, hFB]; unfold redR; exact if_pos rfl
                      rw [hst, e9]
                    have HST := Lib.hid hst2
                    clear hst hst2 hz hR hNV
                    go_wp2_with fail
                    generalize wv.setCell ⟨Q, t, none⟩ (.int .i64 (N : Int)) = w9 at *
                    rw [← HSZ.out]
                    have HBK := Lib.hid (heap_alloc_new w9 (.cells #[.string ⟨#[]⟩, .int .i64 (a : Int), .int .i64 (b : Int)] 146))
                    have HT12 := Lib.hid (HT11.out.below ((Below.refl _ w9).alloc (Nat.le_refl _) (.cells #[.string ⟨#[]⟩, .int .i64 (a : Int), .int .i64 (b : Int)] 146)))
                    have HT13 := Lib.hid (HT11.out.fresh3 (o := .cells #[.string ⟨#[]⟩, .int .i64 (a : Int), .int .i64 (b : Int)] 146) (a := .string ⟨#[]⟩) (b := .int .i64 (FA : Int)) (c := .int .i64 (FB : Int)))
                    obtain ⟨X, hX⟩ : ∃ X, X = w9.heap.size := ⟨_, rfl⟩
                    rw [← hX] at HBK HT13 ⊢
                    generalize w9.alloc (.cells #[.string ⟨#[]⟩, .int .i64 (a : Int), .int .i64 (b : Int)] 146) = w10 at *
                    have g1 := HT12.out.num hNVl a (by omega)
                    have g2 := HT12.out.num hNVl b (by omega)
                    rw [← hFA] at g1
                    rw [← hFB] at g2
                    have HBX : Hid ((((w10.setCell ⟨X, 0, none⟩ (.string ⟨#[]⟩)).setCell ⟨X, 1, none⟩ (.int .i64 (FA : Int))).setCell ⟨X, 2, none⟩ (.int .i64 (FB : Int))).drew.heap[X]? = some (.cells #[.string ⟨#[]⟩, .int .i64 (FA : Int), .int .i64 (FB : Int)] 146 (0, 0))) := Lib.hid (blk3 HBK.out)
                    have HRX := Lib.hid hRX
                    obtain ⟨⟨x0, x1, x2⟩, y0, y1, y2⟩ := blk3_cells HBK.out
                    have hab : (a : Int) < (n : Int) := by omega
                    have hbb : (b : Int) < (n : Int) := by omega
                    clear f1 f2 k0 k1 k2 j0' j1' j2' q0 q1 v0 vN nn hX hFA hFB hRX
                    go_still_tail 11, (by kernel_rfl)
                    change wpList _ _ _ _ _ w10.drew
                    go_upto_region 37 with fail
                    generalize (((w10.setCell ⟨X, 0, none⟩ (.string ⟨#[]⟩)).setCell ⟨X, 1, none⟩ (.int .i64 (FA : Int))).setCell ⟨X, 2, none⟩ (.int .i64 (FB : Int))).drew = w11 at *
                    clear x0 x1 x2 y0 y1 y2 g1 g2 hab hbb
                    obtain ⟨⟨x0, x1, x2⟩, y0, y1, y2⟩ := blk3_cells HBX.out
                    have v9 := HT13.out.hj.2.1.cell.1
                    have hO13 := HT13.out.hj.1
                    rw [← HNX.out] at hO13
                    have HO13 := Lib.hid hO13
                    have hnw := news3 w11 RX 146
                    have HXC := Lib.hid (show rc RX = [.string ⟨#[]⟩, .int .i64 (FA : Int), .int .i64 (FB : Int)] from by rw [HRX.out]; rfl)
                    rw [HRX.out] at hnw
                    have HNW := Lib.hid hnw
                    have hb13 := HT13.out.hj.2.2.2.2
                    clear hO13 hnw
                    go_wp2_with (first | (at_builtin; refine wpList_append_own _ rfl _ _ 24 rfl (V + 1) 146 i0 (.agg #[.string ⟨#[]⟩, .int .i64 0, .int .i64 0]) 3 32 Try.underlying24 hi hz0 hz1 hz2 rfl (by decide) _ _ _ rfl (World.ownsRow.alloc HO13.out _) ⟨w11.heap.size, 0, none⟩ 1 1 (rc RX) rfl rfl (by rw [HXC.out]; exact HNW.out) (rc_cell _) (by unfold maxLen; omega) (by omega) (by simp; omega) ?_))
                    intro v12 w12 hown' hgrow _
                    obtain ⟨A12, c12, rfl⟩ := own_slice hown'
                    obtain ⟨hv12, hT14⟩ := HT13.out.grow (x := RX) (by rw [← HNX.out]; exact hown') hgrow
                    obtain ⟨z0, z1⟩ := hv12.cell
                    have HT14 := Lib.hid hT14
                    clear hown' hgrow hv12 hT14
                    go_wp2_with fail
                    go_roundw
                    case rel =>
                      have HS10 := Lib.hid (show ∃ (t' : Nat) (yv' : Value), t' ≤ n ∧ Value.int .i64 ((t : Int) + 1) = .int .i64 t' ∧ T7 gs w n L Q V (.slice (some ⟨K0, 0, none⟩) n cK) AL (outT (kT gs n) AL t').1 (outT (kT gs n) AL t').2 yv' (w12.setCell ⟨V, 0, none⟩ (.slice A12 (N + 1) c12)) from ⟨t + 1, _, by omega, by go_num, by rw [HST.out]; exact HT14.out⟩)
                      first | exact HS10.out | ((repeat apply Exists.intro); exact ⟨HS10.out, rfl⟩)
                    case measure => (first | (simp [intOf]; done) | (simp [intOf]; omega))
                  · obtain ⟨cc, l1, r1, hR⟩ := nxT_letter HOK.out htg hz
                    rw [hR] at k0 k1 k2 j0' j1' j2' hst
                    obtain ⟨NV, hNV⟩ : ∃ NV, NV = NU.set t N := ⟨_, rfl⟩
                    rw [← hNV] at HT11 hst
                    obtain ⟨RX, hRX⟩ : ∃ RX : Rl, RX = ⟨⟨#[cc]⟩, l1, r1⟩ := ⟨_, rfl⟩
                    have hst2 : outT (kT gs n) AL (t + 1) = (NV, OU ++ [RX]) := by
                      have e9 : redR NV ⟨⟨#[cc]⟩, l1, r1⟩ = RX := by rw [hRX]; unfold redR; exact if_neg (by show ¬ (1 = 0); decide)
                      rw [hst, e9]
                    have HST := Lib.hid hst2
                    have HRX := Lib.hid hRX
                    clear hst hst2 hz hR hNV hRX
                    go_upto_region 37 with fail
                    generalize wv.setCell ⟨Q, t, none⟩ (.int .i64 (N : Int)) = w9 at *
                    rw [← HSZ.out]
                    have HBX := Lib.hid (heap_alloc_new w9 (.cells #[.string ⟨#[cc]⟩, .int .i64 l1, .int .i64 r1] 146))
                    have HT13 := Lib.hid (HT11.out.below ((Below.refl _ w9).alloc (Nat.le_refl _) (.cells #[.string ⟨#[cc]⟩, .int .i64 l1, .int .i64 r1] 146)))
                    obtain ⟨X, hX⟩ : ∃ X, X = w9.heap.size := ⟨_, rfl⟩
                    rw [← hX] at HBX ⊢
                    generalize w9.alloc (.cells #[.string ⟨#[cc]⟩, .int .i64 l1, .int .i64 r1] 146) = w11 at *
                    clear k0 k1 k2 j0' j1' j2' q0 q1 v0 vN nn hX
                    obtain ⟨⟨x0, x1, x2⟩, y0, y1, y2⟩ := blk3_cells HBX.out
                    have v9 := HT13.out.hj.2.1.cell.1
                    have hO13 := HT13.out.hj.1
                    rw [← HNX.out] at hO13
                    have HO13 := Lib.hid hO13
                    have hnw := news3 w11 RX 146
                    have HXC := Lib.hid (show rc RX = [.string ⟨#[cc]⟩, .int .i64 l1, .int .i64 r1] from by rw [HRX.out]; rfl)
                    rw [HRX.out] at hnw
                    have HNW := Lib.hid hnw
                    have hb13 := HT13.out.hj.2.2.2.2
                    clear hO13 hnw
                    go_wp2_with (first | (at_builtin; refine wpList_append_own _ rfl _ _ 24 rfl (V + 1) 146 i0 (.agg #[.string ⟨#[]⟩, .int .i64 0, .int .i64 0]) 3 32 Try.underlying24 hi hz0 hz1 hz2 rfl (by decide) _ _ _ rfl (World.ownsRow.alloc HO13.out _) ⟨w11.heap.size, 0, none⟩ 1 1 (rc RX) rfl rfl (by rw [HXC.out]; exact HNW.out) (rc_cell _) (by unfold maxLen; omega) (by omega) (by simp; omega) ?_))
                    intro v12 w12 hown' hgrow _
                    obtain ⟨A12, c12, rfl⟩ := own_slice hown'
                    obtain ⟨hv12, hT14⟩ := HT13.out.grow (x := RX) (by rw [← HNX.out]; exact hown') hgrow
                    obtain ⟨z0, z1⟩ := hv12.cell
                    have HT14 := Lib.hid hT14
                    clear hown' hgrow hv12 hT14
                    go_wp2_with fail
                    go_roundw
                    case rel =>
                      have HS10 := Lib.hid (show ∃ (t' : Nat) (yv' : Value), t' ≤ n ∧ Value.int .i64 ((t : Int) + 1) = .int .i64 t' ∧ T7 gs w n L Q V (.slice (some ⟨K0, 0, none⟩) n cK) AL (outT (kT gs n) AL t').1 (outT (kT gs n) AL t').2 yv' (w12.setCell ⟨V, 0, none⟩ (.slice A12 (N + 1) c12)) from ⟨t + 1, _, by omega, by go_num, by rw [HST.out]; exact HT14.out⟩)
                      first | exact HS10.out | ((repeat apply Exists.intro); exact ⟨HS10.out, rfl⟩)
                    case measure => (first | (simp [intOf]; done) | (simp [intOf]; omega))
              · have htn2 : t = n := by omega
                rw [htn2] at hT
                have hfin : trimG gs = (outT (kT gs n) AL n).2 := by unfold trimG ndAll; rw [← HN.out, ← HND.out, ← HAL.out]
                rw [← hfin] at hT
                have hO := hT.hj.1
                obtain ⟨AO, cO, rfl⟩ := own_slice hO
                obtain ⟨v0, v1⟩ := hT.hj.2.1.cell
                obtain ⟨r0, r1⟩ := hT.hj.2.2.1.cell
                have HNE := Lib.hid (own_var_ne hO hT.hj.2.2.1 (by decide))
                have HO := Lib.hid (own_lower hO (show w.heap.size ≤ V + 1 by omega))
                have HB := Lib.hid hT.hj.2.2.2.1
                clear hT hO hfin htn2
                go_wp2_with fail
                refine bodyPost_ret (v := .agg #[.slice AO (trimG gs).length cO]) (by simp [results, Try.results68, go_sem, r0]) rfl ⟨_, rfl, ?_, HB.out.setCell (by simp) _⟩
                exact World.ownsRow.kept HO.out (only_setCell (World.grownBy.refl wv (some w.heap.size)) (p := ⟨w.heap.size, 0, none⟩) (.inl rfl) _) (.inr HNE.out)
end Go.Proofs.Ytlgpleeanmeenaa
