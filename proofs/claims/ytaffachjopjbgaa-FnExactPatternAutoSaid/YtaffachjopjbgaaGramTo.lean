/-
  Walks: laws.toRule, toRuleS, toGrammar: a copy in new memory.
-/
import Derived.Test.YtaffachjopjbgaaGramSz
import Derived.OwnWalk
import Derived.Laws.MakeOwn
namespace Go.Proofs.Ytaffachjopjbgaa
open Go.RowKit
open Wd
set_option linter.unusedVariables false

theorem Try.info_rule : (Try.prog.info? 127).map (fun i => (i.zero, i.size, i.bytes)) = some (some (.agg #[.string ⟨#[]⟩, .int .i64 0, .int .i64 0]), 3, 32) := by kernel_rfl

namespace Wd
def zr : Rl := ⟨⟨#[]⟩, 0, 0⟩
theorem rv_set (gs : List Rl) (k : Nat) (x : Rl) (h : k < gs.length) :
    (((rv gs).set (k * 3) (.string x.L)).set (k * 3 + 1) (.int .i64 x.l)).set (k * 3 + 2) (.int .i64 x.r) = rv (gs.set k x) := by
  induction gs generalizing k with
  | nil => simp at h
  | cons y gs ih =>
    cases k with
    | zero => rfl
    | succ k =>
      have h1 := ih k (by simpa using h)
      have e : rv (y :: gs) = .string y.L :: .int .i64 y.l :: .int .i64 y.r :: rv gs := rfl
      have e2 : rv ((y :: gs).set (k + 1) x) = .string y.L :: .int .i64 y.l :: .int .i64 y.r :: rv (gs.set k x) := rfl
      rw [e, e2, ← h1, show (k + 1) * 3 = k * 3 + 1 + 1 + 1 from by omega, show k * 3 + 1 + 1 + 1 + 1 = k * 3 + 1 + 1 + 1 + 1 from rfl, show k * 3 + 1 + 1 + 1 + 2 = k * 3 + 2 + 1 + 1 + 1 from by omega]
      simp only [List.set_cons_succ]
/-- the first k rules, and zeros behind them -/
def outK (gs : List Rl) (k : Nat) : List Rl := gs.take k ++ List.replicate (gs.length - k) zr
theorem outK_len (gs : List Rl) (k : Nat) (h : k ≤ gs.length) : (outK gs k).length = gs.length := by simp [outK]; omega
theorem outK_set (gs : List Rl) (k : Nat) (h : k < gs.length) : (outK gs k).set k gs[k] = outK gs (k + 1) := by
  unfold outK
  have h1 : (gs.take k).length = k := by simp; omega
  rw [List.set_append_right _ _ (by omega), h1, Nat.sub_self, show gs.length - k = (gs.length - (k + 1)) + 1 from by omega, List.replicate_succ, List.set_cons_zero, List.take_succ_eq_append_getElem h, List.append_assoc]
  rfl
theorem outK_zero (gs : List Rl) : outK gs 0 = List.replicate gs.length zr := by simp [outK]
theorem outK_all (gs : List Rl) : outK gs gs.length = gs := by simp [outK]
theorem outK_get (gs : List Rl) (k : Nat) (h : k < gs.length) : (outK gs k)[k]? = some zr := by
  have h1 : (gs.take k).length = k := by simp; omega
  rw [outK, List.getElem?_append_right (by omega), h1, Nat.sub_self, List.getElem?_replicate, if_pos (by omega)]
theorem made_zr (n : Nat) : (madeCells #[.string ⟨#[]⟩, .int .i64 0, .int .i64 0] (n * 3)).toList = rv (List.replicate n zr) := by
  apply List.ext_getElem
  · rw [rv_len]; simp [madeCells]
  · intro i h1 h2
    have hi : i < n * 3 := by simpa [madeCells] using h1
    have hk : i / 3 < n := by omega
    have h3 := rv_get (List.replicate n zr) (i / 3) (by simpa using hk) (i % 3) (by omega)
    rw [show i / 3 * 3 + i % 3 = i from by omega, List.getElem?_eq_getElem h2] at h3
    rw [List.getElem_replicate, show rc zr = [Value.string ⟨#[]⟩, .int .i64 0, .int .i64 0] from rfl] at h3
    have h4 : (madeCells #[.string ⟨#[]⟩, .int .i64 0, .int .i64 0] (n * 3)).toList[i] = (#[.string ⟨#[]⟩, .int .i64 0, .int .i64 0] : Array Value)[i % 3]! := by simp [madeCells]
    rw [h4]
    have h5 : i % 3 = 0 ∨ i % 3 = 1 ∨ i % 3 = 2 := by omega
    rcases h5 with h5 | h5 | h5 <;> rw [h5] at h3 ⊢ <;> simpa using h3.symm
end Wd

/-- rules of the call's own -/
abbrev OwnsR (w : World) (B : Nat) (v : Value) (gs : List Rl) : Prop := w.ownsRow B 127 3 v gs.length (rv gs)
theorem own_below {w w' : World} {B C e s n : Nat} {v : Value} {xs : List Value} (h : w.ownsRow B e s v n xs) (hb : Below C w w') (hC : w.heap.size ≤ C) : w'.ownsRow B e s v n xs :=
  World.ownsRow.kept h (row := none) ⟨hb.os, hb.tape, hb.output, hb.size, fun k hk _ => hb.block k (by omega)⟩ (by cases hv : v.ownBlock <;> simp)
theorem own_slice {w : World} {B e s n : Nat} {v : Value} {xs : List Value} (h : w.ownsRow B e s v n xs) : ∃ A c, v = .slice A n c := by
  rcases h.2 with ⟨rfl, h0⟩ | ⟨g, cap, cur, rfl, _⟩
  · exact ⟨none, 0, by rw [h0]⟩
  · exact ⟨_, _, rfl⟩
theorem only_setCell {a w : World} {g : Nat} (h : a.grownBy w (some g)) {p : Addr} (hp : p.block = g ∨ a.heap.size ≤ p.block) (u : Value) : a.grownBy (w.setCell p u) (some g) :=
  ⟨h.os, h.tape, h.output, by simpa [World.setCell] using h.size, fun i hi hne => (Below.heap_setCell w p u i (by
    rintro rfl
    rcases hp with hp | hp
    · exact hne (by rw [hp])
    · omega)).trans (h.block i hi hne)⟩
theorem own_setLow {w : World} {B e s n : Nat} {v : Value} {xs : List Value} (h : w.ownsRow B e s v n xs) (p : Addr) (u : Value) (hp : p.block < B) : (w.setCell p u).ownsRow B e s v n xs :=
  World.ownsRow.kept h (only_setCell (World.grownBy.refl w (some p.block)) (.inl rfl) u) (by
    cases hv : v.ownBlock with
    | none => simp
    | some g => refine .inr fun hg => ?_; have := (h.lt g hv).1; injection hg with hg; omega)
theorem own_lower {w : World} {B C e s n : Nat} {v : Value} {xs : List Value} (h : w.ownsRow B e s v n xs) (hC : C ≤ B) : w.ownsRow C e s v n xs := by
  refine ⟨h.1, ?_⟩
  rcases h.2 with h' | ⟨g, cap, cur, h1, hb, rest⟩
  · exact .inl h'
  · exact .inr ⟨g, cap, cur, h1, by omega, rest⟩
theorem below_of_grown {w w' : World} (h : w.grownBy w' none) : Below w.heap.size w w' := (Below.refl _ w).grown h (Nat.le_refl _) (by intro k h; cases h)

theorem own_set3 {w : World} {C e B n c : Nat} {gs : List Rl} (h : w.ownsRow C e 3 (.slice (some ⟨B, 0, none⟩) n c) n (rv gs)) (k : Nat) (hk : k < gs.length) (x : Rl) :
    (((w.setCell ⟨B, k * 3, none⟩ (.string x.L)).setCell ⟨B, k * 3 + 1, none⟩ (.int .i64 x.l)).setCell ⟨B, k * 3 + 2, none⟩ (.int .i64 x.r)).ownsRow C e 3 (.slice (some ⟨B, 0, none⟩) n c) n (rv (gs.set k x)) := by
  have h1 := (((h.stored (k * 3) (.string x.L)).1.stored (k * 3 + 1) (.int .i64 x.l)).1.stored (k * 3 + 2) (.int .i64 x.r)).1
  rw [rv_set gs k x hk] at h1
  exact h1
theorem toRule_any (x : Rl) (w : World) : Calls Try.prog 154 #[agg3 x] w fun e w' => e = .returned (agg3 x) ∧ Below w.heap.size w w' := by
  obtain ⟨L, l, r⟩ := x
  go_enter Try.func154, Try.ntmps154
  go_wp2
  refine bodyPost_ret (v := .agg #[.string L, .int .i64 l, .int .i64 r]) (by simp [results, Try.results154, go_sem]) rfl ⟨rfl, ?_⟩
  exact (((Below.refl _ _).alloc (Nat.le_refl _) _).alloc (by simp) _).alloc (by simp; omega) _

set_option maxRecDepth 100000 in
set_option maxHeartbeats 1600000 in
theorem toRuleS_any (A : Option Addr) (len cap : Nat) (gs : List Rl) (w : World) (hl : len ≤ 1048576) (h : InRules w A len gs) :
    Calls Try.prog 85 #[.slice A len cap] w fun e w' => ∃ v, e = .returned v ∧ OwnsR w' w.heap.size v gs ∧ Below w.heap.size w w' := by
  obtain ⟨i0, hi, hz0, hz1, hz2⟩ := info_parts Try.info_rule
  obtain ⟨hlen, hin⟩ := h
  have HI := Lib.hid hin
  have HLN := Lib.hid hlen
  clear hin hlen
  go_enter Try.func85, Try.ntmps85
  go_wp2_with (refine wpList_make_full _ rfl _ _ 35 rfl w.heap.size 127 i0 (.agg #[.string ⟨#[]⟩, .int .i64 0, .int .i64 0]) 3 Try.underlying35 hi hz0 hz1 .i64 .i64 _ _ len rfl rfl rfl rfl (by rw [hz2]; omega) (by unfold maxLen; omega) (Nat.le_refl _) ?_)
  intro w1 hown hg
  have hB1 := below_of_grown hg
  rw [made_zr, show List.replicate len zr = outK gs 0 from by rw [outK_zero, HLN.out]] at hown
  obtain ⟨B, hBe⟩ : ∃ B, B = w.heap.size := ⟨_, rfl⟩
  rw [← hBe] at hown ⊢
  have HBE := Lib.hid hBe
  clear hg hBe
  go_wp2
  go_loopw [4] (fun i wr => ∃ k : Nat, k ≤ len ∧ i = .int .i64 k ∧ wr.ownsRow B 127 3 (.slice (some ⟨B, 0, none⟩) len len) len (rv (outK gs k)) ∧ Below w.heap.size w wr) (fun i _ => len - (intOf i).toNat)
  case atStart => exact ⟨0, Nat.zero_le _, rfl, hown, hB1⟩
  case round =>
    obtain ⟨k, hk, rfl, hown, hB⟩ := hrel
    by_cases hlt : k < len
    · have hkg : k < gs.length := by rw [HLN.out]; exact hlt
      rcases HI.out with hn | ⟨x, rfl, hc⟩
      · rw [hn] at hkg; simp at hkg
      obtain ⟨⟨c0, c1, c2⟩, hsz⟩ := hc k hkg
      have d0 := (hB.cell (lt_of_cell c0)).trans c0
      have d1 := (hB.cell (lt_of_cell c1)).trans c1
      have d2 := (hB.cell (lt_of_cell c2)).trans c2
      rw [add_next _ _ _ (by omega)] at d1 d2
      clear c0 c1 c2 hc hsz
      go_wp2_with fail
      refine (toRule_any gs[k] _).mono ?_; rintro e w' ⟨rfl, hB'⟩
      have hown' := own_below hown hB' (Nat.le_refl _)
      have hB2 := hB.trans (hB'.mono hB.size)
      have hkl : k < (outK gs k).length := by rw [outK_len _ _ (by omega)]; exact hkg
      have hz : (outK gs k)[k] = zr := by have := outK_get gs k hkg; rw [List.getElem?_eq_getElem hkl] at this; simpa using this
      have e0 : w'.cell? ⟨B, k * 3, none⟩ = some (.string ⟨#[]⟩) := by rw [hown'.cellAt (k * 3) (by omega)]; have := rv_get _ k hkl 0 (by omega); rw [hz] at this; exact this
      have e1 : w'.cell? ⟨B, k * 3 + 1, none⟩ = some (.int .i64 0) := by rw [hown'.cellAt (k * 3 + 1) (by omega)]; have := rv_get _ k hkl 1 (by omega); rw [hz] at this; exact this
      have e2 : w'.cell? ⟨B, k * 3 + 2, none⟩ = some (.int .i64 0) := by rw [hown'.cellAt (k * 3 + 2) (by omega)]; have := rv_get _ k hkl 2 (by omega); rw [hz] at this; exact this
      have f0 : w'.frozen? ⟨B, k * 3, none⟩ = false := hown'.frozenAt _
      have f1 : w'.frozen? ⟨B, k * 3 + 1, none⟩ = false := hown'.frozenAt _
      have f2 : w'.frozen? ⟨B, k * 3 + 2, none⟩ = false := hown'.frozenAt _
      have HO := Lib.hid hown'
      clear hown hown' hz hkl
      go_wp2
      go_roundw
      case rel =>
        refine ⟨k + 1, by omega, by go_num, ?_, ((hB2.setCell (by rw [HBE.out]; exact Nat.le_refl _) _).setCell (by rw [HBE.out]; exact Nat.le_refl _) _).setCell (by rw [HBE.out]; exact Nat.le_refl _) _⟩
        rw [← outK_set gs k hkg]
        exact own_set3 HO.out k (by rw [outK_len _ _ (by omega)]; exact hkg) _
      case measure => simp [intOf]; omega
    · have hown' : OwnsR wr w.heap.size (.slice (some ⟨B, 0, none⟩) len len) gs := by
        have hg := HLN.out
        rw [show k = gs.length from by omega, outK_all, HBE.out] at hown
        unfold OwnsR
        rw [hg, HBE.out]
        exact hown
      have HO := Lib.hid hown'
      clear hown hown'
      go_wp2
      go_ret
      exact ⟨_, rfl, HO.out, hB⟩

set_option maxHeartbeats 800000 in
theorem toGrammar_any (A : Option Addr) (len cap : Nat) (gs : List Rl) (w : World) (hl : len ≤ 1048576) (h : InRules w A len gs) :
    Calls Try.prog 21 #[.agg #[.slice A len cap]] w fun e w' => ∃ v, e = .returned (.agg #[v]) ∧ OwnsR w' w.heap.size v gs ∧ Below w.heap.size w w' := by
  have HS := Lib.hid (fun W (hW : InRules W A len gs) => toRuleS_any A len cap gs W hl hW)
  have HI := Lib.hid h
  clear h
  go_enter Try.func21, Try.ntmps21
  go_wp2_with fail
  have hin := HI.out.kept ((((Below.refl _ w).alloc (Nat.le_refl _) (.cells #[.slice A len cap] 28)).alloc (by simp) (.cells #[.slice none 0 0] 37)).alloc (by simp; omega) (.cells #[.slice none 0 0] 37))
  refine (HS.out _ hin).mono ?_
  clear hin
  rintro e w' ⟨v, rfl, ho, hB⟩
  obtain ⟨A', c', rfl⟩ := own_slice ho
  have hz : w.heap.size + 1 + 1 < w'.heap.size := by have := hB.size; simp at this; omega
  have HO := Lib.hid ho
  obtain ⟨hc, hf⟩ : (∀ b o, b < w.heap.size + 3 → w'.cell? ⟨b, o, none⟩ = _) ∧ (∀ b o, b < w.heap.size + 3 → w'.frozen? ⟨b, o, none⟩ = _) := ⟨fun b o h => hB.cell (p := ⟨b, o, none⟩) (by simpa using h), fun b o h => hB.frozen (p := ⟨b, o, none⟩) (by simpa using h)⟩
  have HB := Lib.hid hB
  clear ho hB
  go_wp2
  refine bodyPost_ret (v := .agg #[.slice A' gs.length c']) (by simp [results, Try.results21, go_sem, hc]) rfl ⟨_, rfl, ?_, ?_⟩
  · have h1 := own_setLow (own_setLow HO.out ⟨w.heap.size + 1 + 1, 0, none⟩ (.slice A' gs.length c') (by simp)) ⟨w.heap.size + 1, 0, none⟩ (.slice A' gs.length c') (by simp)
    exact own_lower h1 (by simp; omega)
  · have h1 : Below w.heap.size w w' := ((((Below.refl _ w).alloc (Nat.le_refl _) _).alloc (by simp) _).alloc (by simp; omega) _).trans (HB.out.mono (by simp; omega))
    exact (h1.setCell (by simp; omega) _).setCell (by simp) _
end Go.Proofs.Ytaffachjopjbgaa
