/-
  Maps keyed by rules: which rules are known, and the numbers of the first ones.
-/
import Derived.Test.YtnhobcfpipedmaaTrimN
import Derived.Maps.OwnOps
import Derived.Maps.OwnSet
import Derived.Maps.Views
import Derived.DeepKeys4
import Derived.ChangeKeys
namespace Go.Proofs.Ytnhobcfpipedmaa
open Go.RowKit Go.Maps
open Wd
set_option linter.unusedVariables false
theorem laidOut : laidOutB Try.prog = true := by kernel_rfl
theorem ruleRow : (94 : TypeId) < Try.prog.types.size := of_decide_eq_true (by kernel_rfl)
theorem ruleWide : (match Try.prog.underlying 94 with | some (.array _ _) | some (.struct _) => true | _ => false) = true := by kernel_rfl
theorem ruleKeyT : Try.prog.keyTypeAt 2 94 = true := by kernel_rfl
set_option maxRecDepth 100000 in
theorem keyedRule : Keyed Try.prog 94 := Keyed.of_law (deep_law_laid laidOut (m := 2) (by omega) ruleRow ruleKeyT ruleWide)
/-- the key of a rule -/
def keyL (x : Rl) : Lit := .string (keyBytes [.string x.L.data.toList, .int .i64 x.l, .int .i64 x.r])
def KeyOk (x : Rl) : Prop := x.L.size ≤ maxLen ∧ (Lit.int .i64 x.l).wf = true ∧ (Lit.int .i64 x.r).wf = true
theorem ruleKeyType : Try.prog.keyType 94 = true := by kernel_rfl
theorem ruleCells : Try.prog.cellsOf 94 = 3 := by kernel_rfl
theorem strCells : Try.prog.cellsOf 9 = 1 := by kernel_rfl
theorem i64Cells : Try.prog.cellsOf 2 = 1 := by kernel_rfl
theorem typesPos : ∃ m, Try.prog.types.size = m + 2 := by
  have h : Try.prog.types.size = (Try.prog.types.size - 2) + 2 := by
    have : (2 : Nat) ≤ Try.prog.types.size := of_decide_eq_true (by kernel_rfl)
    omega
  exact ⟨_, h⟩
theorem keyOf_rule (x : Rl) (h : KeyOk x) : keyOf Try.prog 94 (.agg #[.string x.L, .int .i64 x.l, .int .i64 x.r]) = some (keyL x) := by
  obtain ⟨h1, h2, h3⟩ := h
  obtain ⟨m, hm⟩ := typesPos
  unfold keyOf
  simp only [Try.underlying94]
  rw [if_pos (by simp [ruleKeyType, Value.formed, Try.underlying94, ruleCells]), hm]
  unfold Program.keyLits
  simp only [Try.underlying94, Value.cells]
  rw [if_pos (by rw [ruleCells]; exact ⟨rfl, by kernel_rfl⟩)]
  simp [Program.keyLits, strCells, i64Cells, Try.underlying9, Try.underlying2, h1, h2, h3, keyL]
theorem keyL_inj {x y : Rl} (hx : KeyOk x) (hy : KeyOk y) (h : keyL x = keyL y) : x = y := by
  have h1 := keyOf_rule x hx
  have h2 := keyOf_rule y hy
  rw [h] at h1
  have := keyedRule.inj h1 h2
  obtain ⟨a, b, c⟩ := x
  obtain ⟨a', b', c'⟩ := y
  simpa using this
theorem keyL_key (x : Rl) : WideAt.IsKeyLit (keyL x) := trivial
/-- what the map of known rules says -/
structure KnowsD (K : List Rl) (D : DataW Unit) : Prop where
  isMap : IsMap D
  has : ∀ x, KeyOk x → Maps.has D (keyL x) = decide (x ∈ K)
  at' : ∀ x, KeyOk x → x ∈ K → ∀ z, D.atKey (keyL x) z = .lit (.int .i64 (K.idxOf x : Nat))
def MapF (K : List Rl) (M m : Nat) (w : World) : Prop :=
  ∃ D : DataW Unit, w.ownsMap Try.prog 94 (plainElem Try.prog 2) M m D ∧ KnowsD K D
theorem knows_nil : KnowsD [] (.map []) := ⟨isMap_empty, fun x _ => by simp [Maps.has], fun x _ h => by simp at h⟩
theorem KnowsD.met {K : List Rl} {D : DataW Unit} (h : KnowsD K D) {x : Rl} (hx : x ∈ K) : KnowsD (K ++ [x]) D := by
  refine ⟨h.isMap, fun y hy => ?_, fun y hy hm z => ?_⟩
  · rw [h.has y hy]
    congr 1
    simp only [List.mem_append, List.mem_singleton, eq_iff_iff]
    exact ⟨Or.inl, fun h => h.elim id (fun e => e ▸ hx)⟩
  · have hm' : y ∈ K := by
      rcases List.mem_append.1 hm with h | h
      · exact h
      · rw [List.mem_singleton.1 h]; exact hx
    rw [h.at' y hy hm' z, List.idxOf_append, if_pos hm']
theorem KnowsD.new {K : List Rl} {D : DataW Unit} (h : KnowsD K D) {x : Rl} (hk : KeyOk x) (hx : x ∉ K) : KnowsD (K ++ [x]) (D.put (keyL x) (.lit (.int .i64 (K.length : Nat)))) := by
  refine ⟨h.isMap.put _ _, fun y hy => ?_, fun y hy hm z => ?_⟩
  · by_cases e : y = x
    · subst e
      rw [has_put_same h.isMap (keyL_key _)]
      simp
    · rw [has_put_other (fun hh => e (keyL_inj hy hk hh)), h.has y hy]
      congr 1
      simp [e]
  · by_cases e : y = x
    · subst e
      rw [atKey_put_same h.isMap (keyL_key _), List.idxOf_append, if_neg hx]
      simp
    · rw [atKey_put_other (fun hh => e (keyL_inj hy hk hh))]
      have hm' : y ∈ K := by
        rcases List.mem_append.1 hm with h | h
        · exact h
        · exact absurd (List.mem_singleton.1 h) e
      rw [h.at' y hy hm' z, List.idxOf_append, if_pos hm']
theorem MapF.kept {K : List Rl} {M k : Nat} {w w' : World} {row : Option Nat} (h : MapF K M k w) (hg : w.grownBy w' row) (hne : some M ≠ row) : MapF K M k w' := by
  obtain ⟨D, h1, h2⟩ := h
  exact ⟨D, h1.kept hg hne, h2⟩
theorem MapF.lt {K : List Rl} {M k : Nat} {w : World} (h : MapF K M k w) : M < w.heap.size := by
  obtain ⟨D, h1, _⟩ := h
  exact h1.lt
theorem own_mapF_ne {w : World} {B e s n M m : Nat} {v : Value} {xs : List Value} {K : List Rl} (h : w.ownsRow B e s v n xs) (hm : MapF K M m w) : v.ownBlock ≠ some M := by
  obtain ⟨D, ⟨es, clock, hb, _⟩, _⟩ := hm
  rcases h.2 with ⟨rfl, _⟩ | ⟨g', cap, cur, rfl, _, hh, _⟩
  · simp [Value.ownBlock]
  · intro he
    have : g' = M := by simpa [Value.ownBlock] using he
    subst this
    rw [hh] at hb
    cases hb
theorem zeroI64 (w : World) : (zeroValue 2).run Try.prog w = .ok (.int .i64 0) w := by kernel_rfl
namespace Wd
theorem nxT_keyOk {gs : List Rl} {k : Nat} (hok : fits gs = true) (hk : k < gs.length) (hl : gs.length ≤ 1000000) : KeyOk (nxT gs k) := by
  by_cases h0 : (nxT gs k).L.size = 0
  · obtain ⟨a, b, ha, hb, e⟩ := nxT_pair hok hk h0
    rw [e]
    refine ⟨Nat.zero_le _, ?_, ?_⟩ <;> (simp [Lit.wf, IntKind.min, IntKind.max, IntKind.signed, IntKind.bits]; omega)
  · have hf := fits_at hok k hk
    have hn : nxT gs k = redR (fT gs k) gs[k] := by unfold nxT; rw [List.getD_eq_getElem?_getD, List.getElem?_eq_getElem hk, Option.getD_some]
    by_cases hz : gs[k].L.size = 0
    · rw [hn] at h0
      unfold redR at h0
      rw [if_pos hz] at h0
      exact absurd rfl h0
    · obtain ⟨c, hL, _⟩ := letter_byte hz hf
      have hb := (ok_letter hz).1 hf
      have e : nxT gs k = gs[k] := by rw [hn]; unfold redR; rw [if_neg hz]
      rw [e]
      refine ⟨by rw [hL]; show 1 ≤ maxLen; unfold maxLen; omega, ?_, ?_⟩ <;> (simp [Lit.wf, IntKind.min, IntKind.max, IntKind.signed, IntKind.bits]; omega)
end Wd
end Go.Proofs.Ytnhobcfpipedmaa
