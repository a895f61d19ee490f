/-
  GLetM, WordM, GramEq, IntsM, GramSpec, GramOk, CovB, GEqR, TrimM, CutM, PcM, in one text.
-/
import Derived.Test.YtlgpleeanmeenaaGramM
import Derived.Test.YtlgpleeanmeenaaGramTo
import Derived.StillTailTactics
import Derived.Test.YtlgpleeanmeenaaBase
import Derived.Deep.QuietTactic
import Derived.Test.YtlgpleeanmeenaaKind
import Derived.Laws.StructEq
namespace Go.Proofs.Ytlgpleeanmeenaa
open Go.RowKit
set_option linter.unusedVariables false
namespace Wd
/-- the rule in which one ends that goes down to a place -/
def leafAt (gs : List Rl) : Nat → Nat → Int → Nat
  | 0, k, _ => k
  | f + 1, k, i => if h : k < gs.length then
      (if gs[k].L.size = 0 then (if i < (lens gs).getD gs[k].l.toNat 0 then leafAt gs f gs[k].l.toNat i else leafAt gs f gs[k].r.toNat (i - (lens gs).getD gs[k].l.toNat 0)) else k) else k
theorem leaf_letter {gs : List Rl} {f k : Nat} {i : Int} (hk : k < gs.length) (h0 : gs[k].L.size ≠ 0) : leafAt gs f k i = k := by
  cases f with
  | zero => rfl
  | succ f => rw [leafAt, dif_pos hk, if_neg h0]
theorem leaf_left {gs : List Rl} {f k a : Nat} {i : Int} (hk : k < gs.length) (h0 : gs[k].L.size = 0) (ha : gs[k].l = a) (hi : i < (lens gs).getD a 0) : leafAt gs (f + 1) k i = leafAt gs f a i := by
  rw [leafAt, dif_pos hk, if_pos h0, ha, Int.toNat_natCast, if_pos hi]
theorem leaf_right {gs : List Rl} {f k a b : Nat} {i : Int} (hk : k < gs.length) (h0 : gs[k].L.size = 0) (ha : gs[k].l = a) (hb : gs[k].r = b) (hi : ¬ i < (lens gs).getD a 0) : leafAt gs (f + 1) k i = leafAt gs f b (i - (lens gs).getD a 0) := by
  rw [leafAt, dif_pos hk, if_pos h0, ha, hb, Int.toNat_natCast, Int.toNat_natCast, if_neg hi]
/-- on the way down: rule k, place i -/
def Down (gs : List Rl) (T k : Nat) (i : Int) : Prop := k < gs.length ∧ 0 ≤ i ∧ i ≤ 1000000000000000 ∧ ∃ f, k < f ∧ leafAt gs f k i = T
theorem down_start {gs : List Rl} {n : Nat} {i : Int} (h : gs.length = n + 1) (h0 : 0 ≤ i) (h1 : i ≤ 1000000000000000) : Down gs (leafAt gs gs.length n i) n i := ⟨by omega, h0, h1, gs.length, by omega, rfl⟩
theorem down_step {gs : List Rl} {T k : Nat} {i : Int} (hd : Down gs T k i) (hok : gOk gs = true) (hk : k < gs.length) (h0 : gs[k].L.size = 0) :
    ∃ a b : Nat, gs[k].l = a ∧ gs[k].r = b ∧ a < k ∧ b < k ∧ 1 ≤ (lens gs).getD a 0 ∧ (lens gs).getD a 0 ≤ 1000000000000000 ∧ (i < (lens gs).getD a 0 → Down gs T a i) ∧ (¬ i < (lens gs).getD a 0 → Down gs T b (i - (lens gs).getD a 0)) := by
  have hg := gOk_iff.1 hok
  have hu : UpTo gs k := fun j hj _ => ⟨fits_at hg.2.1 j hj, small_at hg.2.2 j hj⟩
  obtain ⟨a, b, ha, hb, hak, hbk, _, p1, p2, _, _⟩ := lens_next hk hu (fits_at hg.2.1 k hk) h0
  obtain ⟨_, hi0, hi1, f, hf, hT⟩ := hd
  obtain ⟨f, rfl⟩ : ∃ f', f = f' + 1 := ⟨f - 1, by omega⟩
  refine ⟨a, b, ha, hb, hak, hbk, p1, p2, fun hi => ⟨by omega, hi0, hi1, f, by omega, ?_⟩, fun hi => ⟨by omega, by omega, by omega, f, by omega, ?_⟩⟩
  · rw [← leaf_left hk h0 ha hi]; exact hT
  · rw [← leaf_right hk h0 ha hb hi]; exact hT
theorem down_end {gs : List Rl} {T k : Nat} {i : Int} (hd : Down gs T k i) (hk : k < gs.length) (h0 : gs[k].L.size ≠ 0) : T = k := by
  obtain ⟨_, _, _, f, _, hT⟩ := hd
  rw [← hT, leaf_letter hk h0]
/-- a letter's text is its one byte -/
theorem one_byte {L : ByteArray} (h : L.size = 1) : L = ⟨#[L[0]]⟩ := by
  obtain ⟨⟨l⟩⟩ := L
  match l, h with
  | [c], _ => rfl
/-- the answer of LetterAt -/
def letAns (gs : List Rl) (i : Int) : ByteArray × Int :=
  if gOk gs then (if 0 ≤ i ∧ i < (lens gs).getD (gs.length - 1) 0 then (match gs[leafAt gs gs.length (gs.length - 1) i]? with | some x => x.L | none => ⟨#[]⟩, 0) else (⟨#[]⟩, 2)) else (⟨#[]⟩, 1)
end Wd
end Go.Proofs.Ytlgpleeanmeenaa
namespace Go.Proofs.Ytlgpleeanmeenaa
open Go.RowKit
set_option linter.unusedVariables false
namespace Wd
theorem up_ok {gs : List Rl} (hok : gOk gs = true) (k : Nat) : UpTo gs k := fun j h _ => ⟨fits_at (gOk_iff.1 hok).2.1 j h, small_at (gOk_iff.1 hok).2.2 j h⟩
/-- what a pair of a valid grammar is made of -/
theorem pair_parts {gs : List Rl} {k : Nat} (hok : gOk gs = true) (hk : k < gs.length) (h0 : gs[k].L.size = 0) :
    ∃ a b : Nat, gs[k].l = a ∧ gs[k].r = b ∧ a < k ∧ b < k ∧ (lens gs).getD k 0 = (lens gs).getD a 0 + (lens gs).getD b 0 ∧
      1 ≤ (lens gs).getD a 0 ∧ (lens gs).getD a 0 ≤ 1000000000000000 ∧ 1 ≤ (lens gs).getD b 0 ∧ (lens gs).getD b 0 ≤ 1000000000000000 :=
  lens_next hk (up_ok hok k) (fits_at (gOk_iff.1 hok).2.1 k hk) h0
/-- the word of a rule -/
def wordF (gs : List Rl) : Nat → Nat → List UInt8
  | 0, _ => []
  | f + 1, k => match gs[k]? with
    | some x => if x.L.size = 0 then wordF gs f x.l.toNat ++ wordF gs f x.r.toNat else x.L.data.toList
    | none => []
theorem wordF_pair {gs : List Rl} {f k a b : Nat} (hk : k < gs.length) (h0 : gs[k].L.size = 0) (ha : gs[k].l = a) (hb : gs[k].r = b) : wordF gs (f + 1) k = wordF gs f a ++ wordF gs f b := by
  rw [wordF, List.getElem?_eq_getElem hk]
  simp only [h0, if_true, ha, hb, Int.toNat_natCast]
theorem wordF_letter {gs : List Rl} {f k : Nat} (hk : k < gs.length) (h0 : gs[k].L.size ≠ 0) : wordF gs (f + 1) k = gs[k].L.data.toList := by
  rw [wordF, List.getElem?_eq_getElem hk]
  simp only [h0, if_false]
theorem wordF_len {gs : List Rl} (hok : gOk gs = true) : ∀ f k, k < f → k < gs.length → ((wordF gs f k).length : Int) = (lens gs).getD k 0
  | 0, _, h, _ => by omega
  | f + 1, k, h, hk => by
    by_cases h0 : gs[k].L.size = 0
    · obtain ⟨a, b, ha, hb, hak, hbk, hs, _⟩ := pair_parts hok hk h0
      rw [wordF_pair hk h0 ha hb, List.length_append, hs]
      have h1 := wordF_len hok f a (by omega) (by omega)
      have h2 := wordF_len hok f b (by omega) (by omega)
      omega
    · rw [wordF_letter hk h0]
      have h1 := ((ok_letter h0).1 (fits_at (gOk_iff.1 hok).2.1 k hk)).1.1
      have h2 : (lens gs).getD k 0 = 1 := vals_letter _ gs k hk h0
      rw [h2, Array.length_toList]
      have : gs[k].L.data.size = gs[k].L.size := rfl
      omega
theorem wordF_fuel {gs : List Rl} (hok : gOk gs = true) : ∀ f f' k, k < f → k < f' → k < gs.length → wordF gs f k = wordF gs f' k
  | 0, _, _, h, _, _ => by omega
  | f + 1, 0, _, _, h, _ => by omega
  | f + 1, f' + 1, k, h, h', hk => by
    by_cases h0 : gs[k].L.size = 0
    · obtain ⟨a, b, ha, hb, hak, hbk, hs, _⟩ := pair_parts hok hk h0
      rw [wordF_pair hk h0 ha hb, wordF_pair hk h0 ha hb, wordF_fuel hok f f' a (by omega) (by omega) (by omega), wordF_fuel hok f f' b (by omega) (by omega) (by omega)]
    · rw [wordF_letter hk h0, wordF_letter hk h0]
def wordAt (gs : List Rl) (k : Nat) : List UInt8 := wordF gs (k + 1) k
theorem wordAt_len {gs : List Rl} (hok : gOk gs = true) {k : Nat} (hk : k < gs.length) : ((wordAt gs k).length : Int) = (lens gs).getD k 0 := wordF_len hok _ k (by omega) hk
theorem wordAt_pair {gs : List Rl} (hok : gOk gs = true) {k a b : Nat} (hk : k < gs.length) (h0 : gs[k].L.size = 0) (ha : gs[k].l = a) (hb : gs[k].r = b) (hak : a < k) (hbk : b < k) : wordAt gs k = wordAt gs a ++ wordAt gs b := by
  unfold wordAt
  rw [wordF_pair hk h0 ha hb, wordF_fuel hok k (a + 1) a hak (by omega) (by omega), wordF_fuel hok k (b + 1) b hbk (by omega) (by omega)]
theorem wordAt_letter {gs : List Rl} {k : Nat} (hk : k < gs.length) (h0 : gs[k].L.size ≠ 0) : wordAt gs k = gs[k].L.data.toList := wordF_letter hk h0

/-- the cover of a part -/
def coverF (gs : List Rl) (i j : Int) : Nat → Nat → Int → List Int
  | 0, _, _ => []
  | f + 1, k, s =>
    if s + (lens gs).getD k 0 ≤ i ∨ j ≤ s then [] else if i ≤ s ∧ s + (lens gs).getD k 0 ≤ j then [(k : Int)] else
      match gs[k]? with
      | some x => coverF gs i j f x.l.toNat s ++ coverF gs i j f x.r.toNat (s + (lens gs).getD x.l.toNat 0)
      | none => []
theorem cover_out {gs : List Rl} {i j : Int} {f k : Nat} {s : Int} (h : s + (lens gs).getD k 0 ≤ i ∨ j ≤ s) : coverF gs i j (f + 1) k s = [] := by rw [coverF, if_pos h]
theorem cover_in {gs : List Rl} {i j : Int} {f k : Nat} {s : Int} (h : ¬ (s + (lens gs).getD k 0 ≤ i ∨ j ≤ s)) (h2 : i ≤ s ∧ s + (lens gs).getD k 0 ≤ j) : coverF gs i j (f + 1) k s = [(k : Int)] := by rw [coverF, if_neg h, if_pos h2]
theorem cover_pair {gs : List Rl} {i j : Int} {f k a b : Nat} {s : Int} (hk : k < gs.length) (ha : gs[k].l = a) (hb : gs[k].r = b) (h : ¬ (s + (lens gs).getD k 0 ≤ i ∨ j ≤ s)) (h2 : ¬ (i ≤ s ∧ s + (lens gs).getD k 0 ≤ j)) :
    coverF gs i j (f + 1) k s = coverF gs i j f a s ++ coverF gs i j f b (s + (lens gs).getD a 0) := by
  rw [coverF, if_neg h, if_neg h2, List.getElem?_eq_getElem hk]
  simp only [ha, hb, Int.toNat_natCast]
/-- a rule that is neither in the part nor outside of it is a pair -/
theorem cut_pair {gs : List Rl} {i j s : Int} {k : Nat} (hok : gOk gs = true) (hk : k < gs.length) (h : ¬ (s + (lens gs).getD k 0 ≤ i ∨ j ≤ s)) (h2 : ¬ (i ≤ s ∧ s + (lens gs).getD k 0 ≤ j)) : gs[k].L.size = 0 := by
  by_cases h0 : gs[k].L.size = 0
  · exact h0
  · have h1 : (lens gs).getD k 0 = 1 := vals_letter _ gs k hk h0
    omega
def catW (gs : List Rl) (c : List Int) : List UInt8 := c.flatMap fun k => wordAt gs k.toNat
theorem catW_app (gs : List Rl) (c d : List Int) : catW gs (c ++ d) = catW gs c ++ catW gs d := by simp [catW]
theorem cover_lt {gs : List Rl} (hok : gOk gs = true) (i j : Int) : ∀ f k s, k < f → k < gs.length → ∀ q ∈ coverF gs i j f k s, 0 ≤ q ∧ q < (gs.length : Int)
  | 0, _, _, h, _ => by omega
  | f + 1, k, s, h, hk => by
    intro q hq
    by_cases h1 : s + (lens gs).getD k 0 ≤ i ∨ j ≤ s
    · rw [cover_out h1] at hq; simp at hq
    · by_cases h2 : i ≤ s ∧ s + (lens gs).getD k 0 ≤ j
      · rw [cover_in h1 h2] at hq; simp at hq; omega
      · have h0 := cut_pair hok hk h1 h2
        obtain ⟨a, b, ha, hb, hak, hbk, _⟩ := pair_parts hok hk h0
        rw [cover_pair hk ha hb h1 h2, List.mem_append] at hq
        rcases hq with hq | hq
        · exact cover_lt hok i j f a s (by omega) (by omega) q hq
        · exact cover_lt hok i j f b _ (by omega) (by omega) q hq
theorem cover_word {gs : List Rl} (hok : gOk gs = true) (i j : Int) : ∀ f k s, k < f → k < gs.length → catW gs (coverF gs i j f k s) = ((wordAt gs k).take (j - s).toNat).drop (i - s).toNat
  | 0, _, _, h, _ => by omega
  | f + 1, k, s, h, hk => by
    have hl := wordAt_len hok hk
    by_cases h1 : s + (lens gs).getD k 0 ≤ i ∨ j ≤ s
    · rw [cover_out h1]
      symm
      apply List.drop_eq_nil_of_le
      rw [List.length_take]
      omega
    · by_cases h2 : i ≤ s ∧ s + (lens gs).getD k 0 ≤ j
      · rw [cover_in h1 h2, List.take_of_length_le (by omega), show (i - s).toNat = 0 from by omega]
        simp [catW]
      · have h0 := cut_pair hok hk h1 h2
        obtain ⟨a, b, ha, hb, hak, hbk, hs, _⟩ := pair_parts hok hk h0
        rw [cover_pair hk ha hb h1 h2, catW_app, cover_word hok i j f a s (by omega) (by omega), cover_word hok i j f b _ (by omega) (by omega), wordAt_pair hok hk h0 ha hb hak hbk]
        have la := wordAt_len hok (show a < gs.length by omega)
        generalize wordAt gs a = wa at *
        generalize wordAt gs b = wb at *
        rw [List.take_append, List.drop_append, List.length_take]
        congr 1
        by_cases hm : wa.length ≤ (j - s).toNat
        · rw [Nat.min_eq_right hm, show (j - (s + (lens gs).getD a 0)).toNat = (j - s).toNat - wa.length from by omega, show (i - (s + (lens gs).getD a 0)).toNat = (i - s).toNat - wa.length from by omega]
        · rw [show (j - s).toNat - wa.length = 0 from by omega, show (j - (s + (lens gs).getD a 0)).toNat = 0 from by omega]
          simp
theorem cover_len {gs : List Rl} (hok : gOk gs = true) (i j : Int) : ∀ f k s, k < f → k < gs.length → ((coverF gs i j f k s).length : Int) ≤ (lens gs).getD k 0
  | 0, _, _, h, _ => by omega
  | f + 1, k, s, h, hk => by
    have hp := lens_pos hk fun q hq _ => fits_at (gOk_iff.1 hok).2.1 q hq
    by_cases h1 : s + (lens gs).getD k 0 ≤ i ∨ j ≤ s
    · rw [cover_out h1, List.length_nil]; omega
    · by_cases h2 : i ≤ s ∧ s + (lens gs).getD k 0 ≤ j
      · rw [cover_in h1 h2, List.length_singleton]; omega
      · have h0 := cut_pair hok hk h1 h2
        obtain ⟨a, b, ha, hb, hak, hbk, hs, _⟩ := pair_parts hok hk h0
        rw [cover_pair hk ha hb h1 h2, List.length_append]
        have e1 := cover_len hok i j f a s (by omega) (by omega)
        have e2 := cover_len hok i j f b (s + (lens gs).getD a 0) (by omega) (by omega)
        omega
/-- the letter at a place -/
theorem leaf_word {gs : List Rl} (hok : gOk gs = true) : ∀ f k i, k < f → k < gs.length → 0 ≤ i → i < (lens gs).getD k 0 → (wordF gs f k)[i.toNat]? = (gs[leafAt gs f k i]?).bind fun x => x.L.data.toList[0]?
  | 0, _, _, h, _, _, _ => by omega
  | f + 1, k, i, h, hk, hi0, hi => by
    by_cases h0 : gs[k].L.size = 0
    · obtain ⟨a, b, ha, hb, hak, hbk, hs, _⟩ := pair_parts hok hk h0
      have la := wordF_len hok f a (by omega) (by omega)
      rw [wordF_pair hk h0 ha hb]
      by_cases hia : i < (lens gs).getD a 0
      · rw [leaf_left hk h0 ha hia, List.getElem?_append_left (by omega)]
        exact leaf_word hok f a i (by omega) (by omega) hi0 hia
      · rw [leaf_right hk h0 ha hb hia, List.getElem?_append_right (by omega), ← leaf_word hok f b (i - (lens gs).getD a 0) (by omega) (by omega) (by omega) (by omega)]
        congr 1
        omega
    · rw [wordF_letter hk h0, leaf_letter hk h0, List.getElem?_eq_getElem hk]
      have h2 : (lens gs).getD k 0 = 1 := vals_letter _ gs k hk h0
      rw [show i.toNat = 0 from by omega]
      rfl
/-- the letters of a part -/
def partW (gs : List Rl) (i j : Int) : List UInt8 := ((wordAt gs (gs.length - 1)).take j.toNat).drop i.toNat
def strUnpackPart (gs : List Rl) (i j : Int) : ByteArray × Int :=
  if gOk gs then (if 0 ≤ i ∧ i ≤ j ∧ j ≤ (lens gs).getD (gs.length - 1) 0 then (if 2000 < j - i then (⟨#[]⟩, 3) else (⟨(partW gs i j).toArray⟩, 0)) else (⟨#[]⟩, 2)) else (⟨#[]⟩, 1)
theorem partW_len {gs : List Rl} (hok : gOk gs = true) (hg : 0 < gs.length) {i j : Int} (h : 0 ≤ i ∧ i ≤ j ∧ j ≤ (lens gs).getD (gs.length - 1) 0) : ((partW gs i j).length : Int) = j - i := by
  have := wordAt_len hok (show gs.length - 1 < gs.length by omega)
  unfold partW
  rw [List.length_drop, List.length_take]
  omega
end Wd
end Go.Proofs.Ytlgpleeanmeenaa
namespace Go.Proofs.Ytlgpleeanmeenaa
open Go.RowKit
open Wd
set_option linter.unusedVariables false

theorem eqRule_same (x : Rl) (w : World) : Calls Try.prog 138 #[agg3 x, agg3 x] w fun e w' => e = .returned (.bool true) ∧ Below w.heap.size w w' := by
  obtain ⟨L, l, r⟩ := x
  go_enter Try.func138, Try.ntmps138
  go_wp2
  go_ret
  exact ⟨rfl, ((Below.refl _ _).alloc (Nat.le_refl _) _).alloc (by simp) _⟩

set_option maxRecDepth 100000 in
set_option maxHeartbeats 1600000 in
theorem eqRuleS_same (u v : Value) (gs : List Rl) (w : World) (hn : gs.length ≤ 1048576) (h1 : Rules w u gs) (h2 : Rules w v gs) :
    Calls Try.prog 73 #[u, v] w fun e w' => e = .returned (.bool true) ∧ Below w.heap.size w w' := by
  obtain ⟨A1, c1, rfl, h1⟩ := h1
  obtain ⟨A2, c2, rfl, h2⟩ := h2
  obtain ⟨n, hng⟩ : ∃ n, n = gs.length := ⟨_, rfl⟩
  rw [← hng] at hn ⊢
  have HN := Lib.hid hng
  have H1 := Lib.hid h1
  have H2 := Lib.hid h2
  clear h1 h2 hng
  go_enter Try.func73, Try.ntmps73
  go_wp2
  go_loopw [5] (fun i wr => ∃ k : Nat, k ≤ n ∧ i = .int .i64 k ∧ Below w.heap.size w wr) (fun i _ => n - (intOf i).toNat)
  case atStart => exact ⟨0, Nat.zero_le _, rfl, Below.refl _ _⟩
  case round =>
    obtain ⟨k, hk, rfl, hB⟩ := hrel
    by_cases hlt : k < n
    · have hkg : k < gs.length := by rw [← HN.out]; exact hlt
      rcases H1.out with hn | ⟨g1, rfl, hg1, hc1⟩
      · rw [hn] at hkg; simp at hkg
      rcases H2.out with hn | ⟨g2, rfl, hg2, hc2⟩
      · rw [hn] at hkg; simp at hkg
      obtain ⟨a0, a1, a2⟩ := rules_cells hc1 hkg
      obtain ⟨b0, b1, b2⟩ := rules_cells hc2 hkg
      rw [← hB.cell (p := ⟨g1, k * 3, none⟩) hg1] at a0
      rw [← hB.cell (p := ⟨g1, k * 3 + 1, none⟩) hg1] at a1
      rw [← hB.cell (p := ⟨g1, k * 3 + 2, none⟩) hg1] at a2
      rw [← hB.cell (p := ⟨g2, k * 3, none⟩) hg2] at b0
      rw [← hB.cell (p := ⟨g2, k * 3 + 1, none⟩) hg2] at b1
      rw [← hB.cell (p := ⟨g2, k * 3 + 2, none⟩) hg2] at b2
      have HQ := Lib.hid (fun W => eqRule_same gs[k] W)
      clear hc1 hc2 hg1 hg2
      have HB := Lib.hid hB
      clear hB
      go_wp2
      go_still_tail 8, (by kernel_rfl)
      change wpList _ _ _ _ _ wr.drew
      have hB2 : Below w.heap.size w wr.drew := HB.out.drew
      generalize wr.drew = w2 at hB2 ⊢
      clear HB a0 a1 a2 b0 b1 b2
      have HB2 := Lib.hid hB2
      clear hB2
      go_wp2_with fail
      refine (HQ.out _).mono ?_; rintro e w' ⟨rfl, hB'⟩
      have hB3 := HB2.out.trans (hB'.mono HB2.out.size)
      clear hB'
      go_wp2
      go_roundw
      case rel => exact ⟨k + 1, by omega, by go_num, hB3⟩
      case measure => simp [intOf]; omega
    · go_wp2
      go_ret
      exact ⟨rfl, hB⟩
/-- laws.eqGrammar -/
theorem eqGrammar_same (u v : Value) (gs : List Rl) (w : World) (hn : gs.length ≤ 1048576) (h1 : Rules w u gs) (h2 : Rules w v gs) :
    Calls Try.prog 18 #[.agg #[u], .agg #[v]] w fun e w' => e = .returned (.bool true) ∧ Below w.heap.size w w' := by
  have hB0 : Below w.heap.size w ((w.alloc (.cells #[u] 26)).alloc (.cells #[v] 26)) := ((Below.refl _ w).alloc (Nat.le_refl _) _).alloc (by simp) _
  have hk1 := h1.kept hB0
  have hk2 := h2.kept hB0
  have HC := Lib.hid (eqRuleS_same u v gs _ hn hk1 hk2)
  clear hk1 hk2
  obtain ⟨A1, c1, rfl, h1⟩ := h1
  obtain ⟨A2, c2, rfl, h2⟩ := h2
  have HB := Lib.hid hB0
  clear h1 h2 hB0
  go_enter Try.func18, Try.ntmps18
  go_wp2_with fail
  refine HC.out.mono ?_; rintro e w' ⟨rfl, hB'⟩
  have hB3 := HB.out.trans (hB'.mono (by simp; omega))
  clear hB'
  go_wp2
  go_ret
  exact ⟨rfl, hB3⟩
end Go.Proofs.Ytlgpleeanmeenaa
namespace Go.Proofs.Ytlgpleeanmeenaa
open Go.RowKit
open Wd
set_option linter.unusedVariables false

namespace Wd
/-- numbers as cells -/
def iv (l : List Int) : List Value := l.map fun c => Value.int .i64 c
theorem iv_len (l : List Int) : (iv l).length = l.length := by simp [iv]
theorem iv_app (l m : List Int) : iv (l ++ m) = iv l ++ iv m := by simp [iv]
theorem iv_get (l : List Int) (j : Nat) (h : j < l.length) : (iv l)[j]? = some (.int .i64 l[j]) := by simp [iv, h]
/-- k, k + 1, .. -/
def marks (k : Int) (n : Nat) : List Int := (List.range n).map fun (j : Nat) => k + (j : Int)
theorem marks_len (k : Int) (n : Nat) : (marks k n).length = n := by simp [marks]
theorem marks_snoc (k : Int) (n : Nat) : marks k (n + 1) = marks k n ++ [k + n] := by simp [marks, List.range_succ]
theorem marks_get (k : Int) (n j : Nat) (h : j < n) : (marks k n)[j]? = some (k + j) := by simp [marks, h]
theorem iv_set (k : Int) (zs : List Int) (j : Nat) (h : j < zs.length) :
    (iv (marks k j ++ zs.drop j)).set j (.int .i64 (k + j)) = iv (marks k (j + 1) ++ zs.drop (j + 1)) := by
  have e1 : zs.drop j = zs[j] :: zs.drop (j + 1) := List.drop_eq_getElem_cons h
  rw [e1, marks_snoc]
  generalize zs.drop (j + 1) = d
  have e2 : (iv (marks k j)).length = j := by rw [iv_len, marks_len]
  rw [iv_app, iv_app, iv_app]
  generalize iv (marks k j) = A at e2
  subst e2
  simp [iv]
end Wd

/-- a row of int64 of the call's own -/
abbrev OwnsI (w : World) (B : Nat) (v : Value) (zs : List Int) : Prop := w.ownsRow B 2 1 v zs.length (iv zs)

theorem OwnsI.cell {w : World} {B g cap : Nat} {zs : List Int} (h : OwnsI w B (.slice (some ⟨g, 0, none⟩) zs.length cap) zs) (j : Nat) (hj : j < zs.length) : w.cell? ⟨g, j, none⟩ = some (.int .i64 zs[j]) := by
  rw [h.cellAt j (by omega), iv_get zs j hj]

/-- its shape: nil and empty, or at the head of a block -/
theorem OwnsI.shape {w : World} {B : Nat} {v : Value} {zs : List Int} (h : OwnsI w B v zs) :
    (v = .slice none 0 0 ∧ zs = []) ∨ ∃ g cap, v = .slice (some ⟨g, 0, none⟩) zs.length cap ∧ B ≤ g ∧ g < w.heap.size := by
  rcases h.2 with ⟨rfl, h0⟩ | ⟨g, cap, cur, rfl, hb, hg, _⟩
  · exact .inl ⟨rfl, List.eq_nil_of_length_eq_zero h0⟩
  · exact .inr ⟨g, cap, rfl, hb, (Array.getElem?_eq_some_iff.1 hg).1⟩

theorem OwnsI.below {w w' : World} {B C : Nat} {v : Value} {zs : List Int} (h : OwnsI w B v zs) (hb : Below C w w') (hC : w.heap.size ≤ C) : OwnsI w' B v zs :=
  World.ownsRow.kept h (row := none) ⟨hb.os, hb.tape, hb.output, hb.size, fun k hk _ => hb.block k (by omega)⟩ (by cases hv : v.ownBlock <;> simp)

theorem OwnsI.drawn {w w' : World} {B : Nat} {v : Value} {zs : List Int} (h : OwnsI w B v zs) (hd : Drawn w w') : OwnsI w' B v zs := by
  obtain ⟨n, rfl⟩ := hd; exact h

theorem OwnsI.lower {w : World} {B C : Nat} {v : Value} {zs : List Int} (h : OwnsI w B v zs) (hC : C ≤ B) : OwnsI w C v zs := by
  refine ⟨h.1, ?_⟩
  rcases h.2 with h' | ⟨g, cap, cur, h1, hb, rest⟩
  · exact .inl h'
  · exact .inr ⟨g, cap, cur, h1, by omega, rest⟩
end Go.Proofs.Ytlgpleeanmeenaa
namespace Go.Proofs.Ytlgpleeanmeenaa
open Go.RowKit
open Wd
set_option linter.unusedVariables false

theorem Try.info_i64 : (Try.prog.info? 2).map (fun i => (i.zero, i.size, i.bytes)) = some (some (.int .i64 0), 1, 8) := by kernel_rfl

namespace Wd
/-- not too much in all -/
def FewR (gs : List Rl) : Prop := gs.length + sumL gs ≤ 1048576
theorem FewR.len {gs : List Rl} (h : FewR gs) : gs.length ≤ 1048576 := by unfold FewR at h; omega
theorem FewR.at_ {gs : List Rl} (h : FewR gs) (k : Nat) (hk : k < gs.length) : gs[k].L.size ≤ maxLen := by
  have := sumL_at gs k hk
  unfold FewR at h; unfold maxLen; omega
/-- a grammar behind a pointer -/
def GP (w : World) (p : Nat) (gs : List Rl) : Prop := ∃ v, w.cell? ⟨p, 0, none⟩ = some v ∧ Rules w v gs
theorem GP.kept {w w' : World} {p : Nat} {gs : List Rl} (h : GP w p gs) (hb : Below w.heap.size w w') : GP w' p gs := by
  obtain ⟨v, h1, h2⟩ := h
  exact ⟨v, (hb.cell (p := ⟨p, 0, none⟩) (lt_of_cell h1)).trans h1, h2.kept hb⟩
end Wd
theorem own_drewN {w : World} {B e s n : Nat} {v : Value} {xs : List Value} (h : w.ownsRow B e s v n xs) (m : Nat) : (w.drewN m).ownsRow B e s v n xs := h
/-- what comes back of the lengths -/
def SizesPost (gs : List Rl) (w : World) (e : Ending) (w' : World) : Prop :=
  ∃ x, e = .returned (.tuple #[x, .bool (fits gs && small gs)]) ∧ ((fits gs && small gs) = true → OwnsI w' w.heap.size x (lens gs)) ∧ Below w.heap.size w w'

theorem sizes_no {gs : List Rl} {w w' : World} {x : Value} (h : (fits gs && small gs) = false) (hB : Below w.heap.size w w') : SizesPost gs w (.returned (.tuple #[x, .bool false])) w' :=
  ⟨x, by rw [h], fun h' => by (rw [h] at h'; cases h'), hB⟩
theorem sizes_yes {gs : List Rl} {w w' : World} {x : Value} (h : (fits gs && small gs) = true) (ho : OwnsI w' w.heap.size x (lens gs)) (hB : Below w.heap.size w w') : SizesPost gs w (.returned (.tuple #[x, .bool true])) w' :=
  ⟨x, by rw [h], fun _ => ho, hB⟩

/-- what holds between two rounds -/
def SzRel (gs : List Rl) (w : World) (out i : Value) (wr : World) : Prop :=
  ∃ k : Nat, k ≤ gs.length ∧ i = .int .i64 k ∧ wr.ownsRow w.heap.size 2 1 out k (iv (lens (gs.take k))) ∧ Below w.heap.size w wr ∧ UpTo gs k
theorem szRel_start (gs : List Rl) (w : World) : SzRel gs w (.slice (some ⟨w.heap.size, 0, none⟩) 0 0) (.int .i64 0) (w.alloc (.cells #[] 2)) :=
  ⟨0, Nat.zero_le _, rfl, World.ownsRow_lit w #[] 0 (Nat.le_refl _) (by decide) rfl, (Below.refl _ _).alloc (Nat.le_refl _) _, upTo_zero _⟩
theorem szRel_step {gs : List Rl} {w wr w1 : World} {k : Nat} {out out' : Value} {o : Obj} (hk : k < gs.length) (hown : wr.ownsRow w.heap.size 2 1 out k (iv (lens (gs.take k)))) (hB : Below w.heap.size w wr)
    (hu : UpTo gs k) (h1 : gs[k].ok k = true) (h2 : (lens gs).getD k 0 ≤ 1000000000000000)
    (hown' : w1.ownsRow w.heap.size 2 1 out' (k + 1) (iv (lens (gs.take k)) ++ [.int .i64 ((lens gs).getD k 0)])) (hgrow : (wr.alloc o).grownBy w1 out.ownBlock) : SzRel gs w out' (.int .i64 ((k + 1 : Nat) : Int)) w1 := by
  have hsz := hB.size
  refine ⟨k + 1, hk, rfl, ?_, (hB.alloc hsz o).grown hgrow (by simp; omega) (fun q hq => (hown.lt q hq).1), upTo_succ hu hk h1 h2⟩
  rw [lens_snoc hk, iv_app]
  exact hown'

set_option maxRecDepth 100000 in
set_option maxHeartbeats 3200000 in
theorem sizes_any (p : Nat) (gs : List Rl) (w : World) (hf : FewR gs) (h : GP w p gs) :
    Calls Try.prog 176 #[.pointer (some ⟨p, 0, none⟩)] w (SizesPost gs w) := by
  obtain ⟨i0, hi, hz0, hz1, hz2⟩ := info_parts Try.info_i64
  obtain ⟨v, hv, A, c, rfl, hr⟩ := h
  obtain ⟨n, hng⟩ : ∃ n, n = gs.length := ⟨_, rfl⟩
  have hn := hf.len
  rw [← hng] at hn hv
  have HN := Lib.hid hng
  have HV := Lib.hid hv
  have HR := Lib.hid hr
  have HF := Lib.hid hf
  clear hng hv hr hf
  go_enter Try.func176, Try.ntmps176
  go_wp2
  go_loopw [4, 5, 6, 7] (fun x i _ _ wr => SzRel gs w x i wr) (fun _ i _ _ _ => n - (intOf i).toNat)
  case atStart => exact szRel_start gs w
  case round =>
    obtain ⟨k, hk, rfl, hown, hB, hu⟩ := hrel
    obtain ⟨x, rfl⟩ : ∃ x : Value, x = u4 := ⟨_, rfl⟩
    obtain ⟨wo, rfl⟩ : ∃ wo : World, wo = wr := ⟨_, rfl⟩
    have hv' : wo.cell? ⟨p, 0, none⟩ = some (.slice A n c) := (hB.cell (p := ⟨p, 0, none⟩) (lt_of_cell HV.out)).trans HV.out
    by_cases hlt : k < n
    · have hkg : k < gs.length := by rw [← HN.out]; exact hlt
      rcases HR.out with hn | ⟨g, rfl, hg, hc⟩
      · rw [hn] at hkg; simp at hkg
      obtain ⟨a0, a1, a2⟩ := rules_cells hc hkg
      rw [← hB.cell (p := ⟨g, k * 3, none⟩) hg] at a0
      rw [← hB.cell (p := ⟨g, k * 3 + 1, none⟩) hg] at a1
      rw [← hB.cell (p := ⟨g, k * 3 + 2, none⟩) hg] at a2
      have hrl := rule_any gs[k] g (k * 3) k wo (HF.out.at_ k hkg) (by unfold maxLen; omega) a0 a1 a2
      clear hc hk
      cases hok : gs[k].ok k
      · rw [hok] at hrl
        have HRL := Lib.hid hrl
        have HBD := Lib.hid (sizes_no (w := w) (w' := wo) (x := x) (bad_fit hkg hok) hB)
        clear hrl hok hown hu a0 a1 a2 hB
        go_wp2_with fail
        refine HRL.out.mono ?_; rintro e w' ⟨rfl, rfl⟩
        go_wp2
        go_ret2
        exact HBD.out
      · rw [hok] at hrl
        have HRL := Lib.hid hrl
        clear hrl
        have HSZ := Lib.hid hB.size
        have hst := fun (Z : Int) (hZ : (lens gs).getD k 0 = Z) (hZ2 : Z ≤ 1000000000000000) (m : Nat) (w1 : World) (out' : Value) (o : Obj) h3 h4 =>
          szRel_step (w1 := w1) (out' := out') (o := o) (wr := wo.drewN m) hkg hown (below_drewN hB m) hu hok (by rw [hZ]; exact hZ2) (by rw [hZ]; exact h3) h4
        by_cases h0 : gs[k].L.size = 0
        · have he := empty_arr h0
          rw [he] at a0
          obtain ⟨a, b, ha, hb, hak, hbk, hsum, pa1, pa2, pb1, pb2⟩ := lens_next hkg hu hok h0
          rw [ha] at a1
          rw [hb] at a2
          have hO := hown
          rcases hown.2 with ⟨_, hk0⟩ | ⟨g', c', cur, rfl, _⟩
          · omega
          have o1 : wo.cell? ⟨g', a, none⟩ = some (.int .i64 ((lens gs).getD a 0)) := by
            rw [hO.cellAt a (by omega)]; simp only [iv, List.getElem?_map, lens_at hak (Nat.le_of_lt hkg), Option.map_some]
          have o2 : wo.cell? ⟨g', b, none⟩ = some (.int .i64 ((lens gs).getD b 0)) := by
            rw [hO.cellAt b (by omega)]; simp only [iv, List.getElem?_map, lens_at hbk (Nat.le_of_lt hkg), Option.map_some]
          generalize (lens gs).getD a 0 = z1 at *
          generalize (lens gs).getD b 0 = z2 at *
          have HO := Lib.hid hO
          have HST := Lib.hid (hst (z1 + z2) hsum)
          have HBD := Lib.hid (fun (h : 1000000000000000 < z1 + z2) m => sizes_no (w := w) (w' := wo.drewN m) (x := .slice (some ⟨g', 0, none⟩) k c') (bad_long hkg (by rw [hsum]; exact h)) (below_drewN hB m))
          clear hst hsum hO hown hu hok ha hb he h0 hB
          by_cases hbig : 1000000000000000 < z1 + z2
          · go_wp2_with fail
            refine HRL.out.mono ?_; rintro e w' ⟨rfl, rfl⟩
            go_wp2
            go_quiet (fail)
            go_wp2
            go_ret2
            exact HBD.out hbig _
          · go_wp2_with fail
            refine HRL.out.mono ?_; rintro e w' ⟨rfl, rfl⟩
            go_wp2
            go_quiet (fail)
            go_wp2_with (first | (at_builtin; refine wpList_append_own _ rfl _ _ 82 rfl w.heap.size 2 i0 (.int .i64 0) 1 8 Try.underlying82 hi hz0 hz1 hz2 rfl (by decide) _ _ _ rfl (World.ownsRow.alloc (own_drewN HO.out _) _) ⟨wo.heap.size, 0, none⟩ 1 1 [.int .i64 (z1 + z2)] rfl rfl (one_new _ _ _) (one_int _ _) (by unfold maxLen; omega) (by omega) (base_alloc HSZ.out _) ?_))
            intro v' w1 hown' hgrow _
            have HNW := Lib.hid (HST.out (by omega) _ w1 v' _ hown' hgrow)
            clear hown' hgrow
            go_wp2
            go_roundw
            case rel => first | exact HNW.out | ((repeat apply Exists.intro); exact ⟨HNW.out, rfl⟩)
            case measure => simp [intOf]; omega
        · have he := full_list h0
          have hz := vals_letter (fun a b => a + b) gs k hkg h0
          have HST := Lib.hid (hst 1 hz (by omega) 0)
          have HO := Lib.hid hown
          clear hst hown hu hok h0 hB hz
          go_wp2_with fail
          refine HRL.out.mono ?_; rintro e w' ⟨rfl, rfl⟩
          go_wp2_with (first | (at_builtin; refine wpList_append_own _ rfl _ _ 82 rfl w.heap.size 2 i0 (.int .i64 0) 1 8 Try.underlying82 hi hz0 hz1 hz2 rfl (by decide) _ _ _ rfl (World.ownsRow.alloc HO.out _) ⟨wo.heap.size, 0, none⟩ 1 1 [.int .i64 1] rfl rfl (one_new _ _ _) (one_int _ _) (by unfold maxLen; omega) (by omega) (base_alloc HSZ.out _) ?_))
          intro v' w1 hown' hgrow _
          have HNW := Lib.hid (HST.out w1 v' _ hown' hgrow)
          clear hown' hgrow
          go_wp2
          go_roundw
          case rel => first | exact HNW.out | ((repeat apply Exists.intro); exact ⟨HNW.out, rfl⟩)
          case measure => simp [intOf]; omega
    · have hg := HN.out
      have hkn : k = gs.length := by omega
      have hy := sizes_yes (w := w) (w' := wo) (x := x) (upTo_all hu (by omega)) (by
        unfold OwnsI; rw [lens_len]; rw [hkn, List.take_of_length_le (Nat.le_refl _)] at hown; exact hown) hB
      have HY := Lib.hid hy
      clear hy hown hu hkn hg hB
      go_wp2
      go_ret2
      exact HY.out
end Go.Proofs.Ytlgpleeanmeenaa
namespace Go.Proofs.Ytlgpleeanmeenaa
open Go.RowKit
open Wd
set_option linter.unusedVariables false

namespace Wd
/-- the length of the last word -/
def wordLen (gs : List Rl) : Int := (lens gs).getD (gs.length - 1) 0
theorem wordLen_zero {gs : List Rl} (h : gs.length = 0) : wordLen gs = 0 := by
  have : gs = [] := List.eq_nil_of_length_eq_zero h
  subst this; rfl
theorem gOk_len {gs : List Rl} (h : gOk gs = true) : gs.length ≤ 400 := (gOk_iff.1 h).1
theorem gOk_fs {gs : List Rl} (h : gOk gs = true) : (fits gs && small gs) = true := by
  have := gOk_iff.1 h; simp [this.2.1, this.2.2]
theorem gOk_long {gs : List Rl} (h : 400 < gs.length) : gOk gs = false := by
  unfold gOk; rw [decide_eq_false (by omega)]; rfl
theorem gOk_short {gs : List Rl} (h : gs.length ≤ 400) : gOk gs = (fits gs && small gs) := by
  unfold gOk; rw [decide_eq_true h]; rfl
end Wd
/-- what comes back of the lengths of a valid grammar -/
def LensPost (gs : List Rl) (w : World) (e : Ending) (w' : World) : Prop :=
  ∃ x, e = .returned (.tuple #[x, .bool (gOk gs)]) ∧ (gOk gs = true → OwnsI w' w.heap.size x (lens gs)) ∧ Below w.heap.size w w'

set_option maxHeartbeats 800000 in
theorem lengths_any (p : Nat) (gs : List Rl) (w : World) (hf : FewR gs) (h : GP w p gs) :
    Calls Try.prog 120 #[.pointer (some ⟨p, 0, none⟩)] w (LensPost gs w) := by
  have HC := Lib.hid (sizes_any p gs w hf h)
  obtain ⟨v, hv, A, c, rfl, hr⟩ := h
  have hn := hf.len
  by_cases hlong : 400 < gs.length
  · have HP : Hid (∀ x w', Below w.heap.size w w' → LensPost gs w (.returned (.tuple #[x, .bool false])) w') := Lib.hid fun x w' hb => ⟨x, by rw [gOk_long hlong], fun h' => by (rw [gOk_long hlong] at h'; cases h'), hb⟩
    go_enter Try.func120, Try.ntmps120
    go_wp2
    go_ret2
    exact HP.out _ _ ((Below.refl _ _).alloc (Nat.le_refl _) _)
  · have HP : Hid (∀ e w', SizesPost gs w e w' → ∃ x b, e = .returned (.tuple #[x, .bool b]) ∧ LensPost gs w (.returned (.tuple #[x, .bool b])) w') := Lib.hid fun e w' ⟨x, he, ho, hb⟩ =>
      ⟨x, _, he, x, by rw [gOk_short (by omega)], fun h' => ho (by rw [← gOk_short (by omega)]; exact h'), hb⟩
    clear hr
    go_enter Try.func120, Try.ntmps120
    go_wp2_with fail
    refine HC.out.mono ?_
    intro e w' hp
    obtain ⟨x, b, he, hq⟩ := HP.out e w' hp
    clear hp
    subst he
    have HQ := Lib.hid hq
    clear hq
    go_wp2
    go_ret2
    exact HQ.out

theorem l02Ok_any (p : Nat) (gs : List Rl) (w : World) (hf : FewR gs) (h : GP w p gs) :
    Calls Try.prog 112 #[.pointer (some ⟨p, 0, none⟩)] w fun e w' => e = .returned (.bool (gOk gs)) ∧ Below w.heap.size w w' := by
  have HC := Lib.hid (lengths_any p gs w hf h)
  clear h hf
  go_enter Try.func112, Try.ntmps112
  go_wp2_with fail
  refine HC.out.mono ?_
  rintro e w' ⟨x, rfl, _, hB⟩
  go_wp2
  go_ret
  exact ⟨rfl, hB⟩

end Go.Proofs.Ytlgpleeanmeenaa
namespace Go.Proofs.Ytlgpleeanmeenaa
open Go.RowKit
set_option linter.unusedVariables false
namespace Wd
/-- covers are short -/
theorem cover_pre {gs : List Rl} (hok : gOk gs = true) (i j : Int) : ∀ f k s, k < f → k < gs.length → i ≤ s → (coverF gs i j f k s).length ≤ k + 1
  | 0, _, _, h, _, _ => by omega
  | f + 1, k, s, h, hk, hs => by
    by_cases h1 : s + (lens gs).getD k 0 ≤ i ∨ j ≤ s
    · rw [cover_out h1]; simp
    · by_cases h2 : i ≤ s ∧ s + (lens gs).getD k 0 ≤ j
      · rw [cover_in h1 h2]; simp
      · have h0 := cut_pair hok hk h1 h2
        obtain ⟨a, b, ha, hb, hak, hbk, hs2, p1, _, p2, _⟩ := pair_parts hok hk h0
        rw [cover_pair hk ha hb h1 h2, List.length_append]
        obtain ⟨f', hf'⟩ : ∃ f', f = f' + 1 := ⟨f - 1, by omega⟩
        by_cases h3 : s + (lens gs).getD a 0 ≤ j
        · have e2 := cover_pre hok i j f b (s + (lens gs).getD a 0) (by omega) (by omega) (by omega)
          rw [show coverF gs i j f a s = [(a : Int)] from by rw [hf']; exact cover_in (by omega) ⟨hs, h3⟩]
          simp only [List.length_singleton]
          omega
        · have e1 := cover_pre hok i j f a s (by omega) (by omega) hs
          rw [show coverF gs i j f b (s + (lens gs).getD a 0) = [] from by rw [hf']; exact cover_out (.inr (by omega))]
          simp only [List.length_nil]
          omega
theorem cover_suf {gs : List Rl} (hok : gOk gs = true) (i j : Int) : ∀ f k s, k < f → k < gs.length → s + (lens gs).getD k 0 ≤ j → (coverF gs i j f k s).length ≤ k + 1
  | 0, _, _, h, _, _ => by omega
  | f + 1, k, s, h, hk, hs => by
    by_cases h1 : s + (lens gs).getD k 0 ≤ i ∨ j ≤ s
    · rw [cover_out h1]; simp
    · by_cases h2 : i ≤ s ∧ s + (lens gs).getD k 0 ≤ j
      · rw [cover_in h1 h2]; simp
      · have h0 := cut_pair hok hk h1 h2
        obtain ⟨a, b, ha, hb, hak, hbk, hs2, p1, _, p2, _⟩ := pair_parts hok hk h0
        rw [cover_pair hk ha hb h1 h2, List.length_append]
        obtain ⟨f', hf'⟩ : ∃ f', f = f' + 1 := ⟨f - 1, by omega⟩
        by_cases h3 : i ≤ s + (lens gs).getD a 0
        · have e1 := cover_suf hok i j f a s (by omega) (by omega) (by omega)
          rw [show coverF gs i j f b (s + (lens gs).getD a 0) = [(b : Int)] from by rw [hf']; exact cover_in (by omega) ⟨h3, by omega⟩]
          simp only [List.length_singleton]
          omega
        · have e2 := cover_suf hok i j f b (s + (lens gs).getD a 0) (by omega) (by omega) (by omega)
          rw [show coverF gs i j f a s = [] from by rw [hf']; exact cover_out (.inl (by omega))]
          simp only [List.length_nil]
          omega
theorem cover_bd {gs : List Rl} (hok : gOk gs = true) (i j : Int) : ∀ f k s, k < f → k < gs.length → (coverF gs i j f k s).length ≤ 2 * k + 2
  | 0, _, _, h, _ => by omega
  | f + 1, k, s, h, hk => by
    by_cases h1 : s + (lens gs).getD k 0 ≤ i ∨ j ≤ s
    · rw [cover_out h1]; simp
    · by_cases h2 : i ≤ s ∧ s + (lens gs).getD k 0 ≤ j
      · rw [cover_in h1 h2]; simp
      · have h0 := cut_pair hok hk h1 h2
        obtain ⟨a, b, ha, hb, hak, hbk, hs2, p1, _, p2, _⟩ := pair_parts hok hk h0
        rw [cover_pair hk ha hb h1 h2, List.length_append]
        obtain ⟨f', hf'⟩ : ∃ f', f = f' + 1 := ⟨f - 1, by omega⟩
        by_cases h3 : s + (lens gs).getD a 0 ≤ i
        · have e2 := cover_bd hok i j f b (s + (lens gs).getD a 0) (by omega) (by omega)
          rw [show coverF gs i j f a s = [] from by rw [hf']; exact cover_out (.inl h3)]
          simp only [List.length_nil]
          omega
        · by_cases h4 : j ≤ s + (lens gs).getD a 0
          · have e1 := cover_bd hok i j f a s (by omega) (by omega)
            rw [show coverF gs i j f b (s + (lens gs).getD a 0) = [] from by rw [hf']; exact cover_out (.inr h4)]
            simp only [List.length_nil]
            omega
          · have e1 := cover_suf hok i j f a s (by omega) (by omega) (by omega)
            have e2 := cover_pre hok i j f b (s + (lens gs).getD a 0) (by omega) (by omega) (by omega)
            omega
/-- the cover of a part -/
def covA (gs : List Rl) (i j : Int) : List Int := coverF gs i j gs.length (gs.length - 1) 0
theorem covA_lt {gs : List Rl} (hok : gOk gs = true) (hg : 0 < gs.length) (i j : Int) : ∀ q ∈ covA gs i j, 0 ≤ q ∧ q < (gs.length : Int) := cover_lt hok i j _ _ _ (by omega) (by omega)
theorem covA_few {gs : List Rl} (hok : gOk gs = true) (hg : 0 < gs.length) (i j : Int) : (covA gs i j).length ≤ 1048576 := by
  have h1 := cover_bd hok i j gs.length (gs.length - 1) 0 (by omega) (by omega)
  have h2 := gOk_len hok
  unfold covA
  omega
end Wd
end Go.Proofs.Ytlgpleeanmeenaa
namespace Go.Proofs.Ytlgpleeanmeenaa
open Go.RowKit
open Wd
set_option linter.unusedVariables false

namespace Wd
/-- are two rules the same? -/
def eqR (x y : Rl) : Bool := (x.L.toList == y.L.toList) && ((x.l == y.l) && (x.r == y.r))
theorem eqR_iff {x y : Rl} : eqR x y = true ↔ x = y := by
  obtain ⟨L, l, r⟩ := x
  obtain ⟨L', l', r'⟩ := y
  simp only [eqR, Bool.and_eq_true, beq_iff_eq, Rl.mk.injEq]
  constructor
  · rintro ⟨h1, h2, h3⟩
    refine ⟨?_, h2, h3⟩
    rw [ByteArray.toList_eq, ByteArray.toList_eq] at h1
    obtain ⟨⟨a⟩⟩ := L
    obtain ⟨⟨b⟩⟩ := L'
    simp at h1
    rw [h1]
  · rintro ⟨rfl, rfl, rfl⟩
    exact ⟨rfl, rfl, rfl⟩
instance rlDec : DecidableEq Rl := fun x y => if h : eqR x y = true then isTrue (eqR_iff.1 h) else isFalse (fun e => h (eqR_iff.2 e))
theorem eqR_same (x : Rl) : eqR x x = true := eqR_iff.2 rfl
theorem eqR_other {x y : Rl} (h : x ≠ y) : eqR x y = false := by
  cases hb : eqR x y
  · rfl
  · exact absurd (eqR_iff.1 hb) h
end Wd
theorem rule_flds : Try.prog.underlying 146 = some (.struct (Try.prog.fieldsOf 146)) := by kernel_rfl
theorem rule_held : Try.prog.stoodInHeld 146 = false := by kernel_rfl
theorem rule_equalIn (x y : Rl) (w : World) : (Op.equalIn 10000 146 (agg3 x) (agg3 y)).run Try.prog w = .ok (eqR x y) w := by
  unfold agg3 eqR
  rw [run_equalIn_agg w 9999 _ _ _ rule_flds rule_held]
  simp only [Program.fieldsOf, Try.underlying146]
  have u1 := Try.underlying9
  have u2 := Try.underlying2
  have e1 := fun w => run_equalIn_string (P := Try.prog) w 9998 9 x.L y.L u1
  have e2 := fun w => run_equalIn_int (P := Try.prog) w 9998 2 .i64 .i64 x.l y.l u2
  have e3 := fun w => run_equalIn_int (P := Try.prog) w 9998 2 .i64 .i64 x.r y.r u2
  simp [Op.eqFields, go_sem, e1, e2, e3]
  by_cases h1 : x.L.toList = y.L.toList <;> by_cases h2 : x.l = y.l <;> by_cases h3 : x.r = y.r <;> simp [h1, h2, h3]
theorem rule_neq (x y : Rl) (w : World) : (binOp .neq 146 (agg3 x) (agg3 y)).run Try.prog w = .ok (.bool (!eqR x y)) w := by
  unfold agg3
  rw [run_neq_struct, rule_equalIn]
  rfl
theorem rule_eql (x y : Rl) (w : World) : (binOp .eql 146 (agg3 x) (agg3 y)).run Try.prog w = .ok (.bool (eqR x y)) w := by
  unfold agg3
  rw [run_eql_struct, rule_equalIn]
  rfl
end Go.Proofs.Ytlgpleeanmeenaa
namespace Go.Proofs.Ytlgpleeanmeenaa
open Go.RowKit
set_option linter.unusedVariables false
namespace Wd
/-- a rule by the numbers of the first ones -/
def redR (F : List Nat) (x : Rl) : Rl := if x.L.size = 0 then ⟨⟨#[]⟩, (F.getD x.l.toNat 0 : Nat), (F.getD x.r.toNat 0 : Nat)⟩ else x
def zeroR : Rl := ⟨⟨#[]⟩, 0, 0⟩
/-- the numbers of the first ones, and the rules by them -/
def fkT (gs : List Rl) : Nat → List Nat × List Rl
  | 0 => ([], [])
  | i + 1 => ((fkT gs i).1 ++ [(fkT gs i).2.idxOf (redR (fkT gs i).1 (gs.getD i zeroR))], (fkT gs i).2 ++ [redR (fkT gs i).1 (gs.getD i zeroR)])
def fT (gs : List Rl) (i : Nat) : List Nat := (fkT gs i).1
def kT (gs : List Rl) (i : Nat) : List Rl := (fkT gs i).2
theorem fT_len (gs : List Rl) : ∀ i, (fT gs i).length = i
  | 0 => rfl
  | i + 1 => by rw [fT, fkT, List.length_append, List.length_singleton]; exact congrArg (· + 1) (fT_len gs i)
theorem kT_len (gs : List Rl) : ∀ i, (kT gs i).length = i
  | 0 => rfl
  | i + 1 => by rw [kT, fkT, List.length_append, List.length_singleton]; exact congrArg (· + 1) (kT_len gs i)
/-- the rule that comes next -/
def nxT (gs : List Rl) (i : Nat) : Rl := redR (fT gs i) (gs.getD i zeroR)
theorem fT_succ (gs : List Rl) (i : Nat) : fT gs (i + 1) = fT gs i ++ [(kT gs i).idxOf (nxT gs i)] := rfl
theorem kT_succ (gs : List Rl) (i : Nat) : kT gs (i + 1) = kT gs i ++ [nxT gs i] := rfl
theorem fT_pre (gs : List Rl) (j : Nat) : ∀ i, j < i → (fT gs i)[j]? = some ((kT gs j).idxOf (nxT gs j))
  | 0, h => by omega
  | i + 1, h => by
    rw [fT_succ]
    by_cases e : j = i
    · subst e
      rw [List.getElem?_append_right (by rw [fT_len]; exact Nat.le_refl _), fT_len, Nat.sub_self]; rfl
    · rw [List.getElem?_append_left (by rw [fT_len]; omega)]
      exact fT_pre gs j i (by omega)
theorem kT_pre (gs : List Rl) (j : Nat) : ∀ i, j < i → (kT gs i)[j]? = some (nxT gs j)
  | 0, h => by omega
  | i + 1, h => by
    rw [kT_succ]
    by_cases e : j = i
    · subst e
      rw [List.getElem?_append_right (by rw [kT_len]; exact Nat.le_refl _), kT_len, Nat.sub_self]; rfl
    · rw [List.getElem?_append_left (by rw [kT_len]; omega)]
      exact kT_pre gs j i (by omega)
theorem kT_take (gs : List Rl) (j : Nat) : ∀ i, j ≤ i → (kT gs i).take j = kT gs j
  | 0, h => by
    obtain rfl : j = 0 := by omega
    rfl
  | i + 1, h => by
    by_cases e : j = i + 1
    · subst e; exact List.take_of_length_le (by rw [kT_len]; exact Nat.le_refl _)
    · rw [kT_succ, List.take_append_of_le_length (by rw [kT_len]; omega)]
      exact kT_take gs j i (by omega)
/-- no number of a first one is above its own -/
theorem fT_le (gs : List Rl) (i j : Nat) (h : j < i) : (fT gs i).getD j 0 ≤ j := by
  rw [List.getD_eq_getElem?_getD, fT_pre gs j i h, Option.getD_some]
  have := List.idxOf_le_length (a := nxT gs j) (l := kT gs j)
  rwa [kT_len] at this
/-- the search of the specification: so far none -/
def noneT (K : List Rl) (r : Rl) (k : Nat) : Prop := ∀ j, j < k → K[j]? ≠ some r
theorem idx_none {K : List Rl} {r : Rl} (h : noneT K r K.length) : K.idxOf r = K.length := by
  refine List.idxOf_eq_length fun hm => ?_
  obtain ⟨j, hj, e⟩ := List.getElem_of_mem hm
  exact h j hj (by rw [List.getElem?_eq_getElem hj, e])
theorem idx_first {K : List Rl} {r : Rl} {k : Nat} (h : noneT K r k) (hk : K[k]? = some r) : K.idxOf r = k := by
  obtain ⟨hl, e⟩ := List.getElem?_eq_some_iff.1 hk
  induction K generalizing k with
  | nil => simp at hl
  | cons x K ih =>
    cases k with
    | zero =>
      have : x = r := by simpa using e
      rw [this]; simp
    | succ k =>
      have hx : x ≠ r := fun e => h 0 (by omega) (by rw [e]; rfl)
      rw [List.idxOf_cons, show (x == r) = false from by rw [beq_eq_false_iff_ne]; exact hx, cond_false, ih (k := k) (fun j hj => by have := h (j + 1) (by omega); simpa using this) (by simpa using hk) (by simpa using hl) (by simpa using e)]
/-- a rule that is the first of its kind is its own first -/
theorem own_first {gs : List Rl} {i k : Nat} {r : Rl} (hk : k < i) (h : noneT (kT gs i) r k) (he : (kT gs i)[k]? = some r) : (fT gs i)[k]? = some k := by
  rw [kT_pre gs k i hk] at he
  injection he with he
  rw [fT_pre gs k i hk, he]
  congr 1
  have h2 : noneT (kT gs k) r (kT gs k).length := by
    intro j hj
    rw [kT_len] at hj
    have := h j hj
    rw [kT_pre gs j i (by omega)] at this
    rw [kT_pre gs j k hj]
    exact this
  have := idx_none h2
  rwa [kT_len] at this
/-- which rules are needed, from above down to a number -/
def ndStep (K : List Rl) (nd : List Bool) (i : Nat) : List Bool :=
  if nd.getD i false = true ∧ (K.getD i zeroR).L.size = 0 then (nd.set (K.getD i zeroR).l.toNat true).set (K.getD i zeroR).r.toNat true else nd
def ndT (K : List Rl) (nd : List Bool) (n : Nat) : Nat → List Bool
  | 0 => nd
  | t + 1 => ndStep K (ndT K nd n t) (n - 1 - t)
theorem ndStep_len (K : List Rl) (nd : List Bool) (i : Nat) : (ndStep K nd i).length = nd.length := by
  unfold ndStep
  split
  · simp
  · rfl
theorem ndT_len (K : List Rl) (nd : List Bool) (n : Nat) : ∀ t, (ndT K nd n t).length = nd.length
  | 0 => rfl
  | t + 1 => by rw [ndT, ndStep_len, ndT_len K nd n t]
/-- the needed rules, all of them -/
def ndAll (gs : List Rl) : List Bool :=
  ndT (kT gs gs.length) ((List.replicate gs.length false).set ((fT gs gs.length).getD (gs.length - 1) 0) true) gs.length gs.length
theorem ndAll_len (gs : List Rl) : (ndAll gs).length = gs.length := by unfold ndAll; rw [ndT_len]; simp
/-- the rules that are left, and their numbers, up to a number -/
def outT (K : List Rl) (nd : List Bool) : Nat → List Nat × List Rl
  | 0 => (List.replicate nd.length 0, [])
  | i + 1 =>
    if nd.getD i false then ((outT K nd i).1.set i (outT K nd i).2.length, (outT K nd i).2 ++ [redR ((outT K nd i).1.set i (outT K nd i).2.length) (K.getD i zeroR)])
    else outT K nd i
theorem outT_len (K : List Rl) (nd : List Bool) : ∀ i, (outT K nd i).1.length = nd.length
  | 0 => by simp [outT]
  | i + 1 => by
    rw [outT]
    split
    · simp [outT_len K nd i]
    · exact outT_len K nd i
theorem outT_le (K : List Rl) (nd : List Bool) : ∀ i, (outT K nd i).2.length ≤ i
  | 0 => Nat.le_refl _
  | i + 1 => by
    have := outT_le K nd i
    rw [outT]
    split
    · simp only [List.length_append, List.length_singleton]; omega
    · omega
/-- a grammar without rules that do not matter -/
def trimG (gs : List Rl) : List Rl := (outT (kT gs gs.length) (ndAll gs) gs.length).2
theorem trimG_le (gs : List Rl) : (trimG gs).length ≤ gs.length := outT_le _ _ _
/-- the answer of TrimGrammar -/
def gramTrimGrammar (gs : List Rl) : List Rl × Int := if gOk gs then (trimG gs, 0) else ([], 1)
end Wd
end Go.Proofs.Ytlgpleeanmeenaa
namespace Go.Proofs.Ytlgpleeanmeenaa
open Go.RowKit
set_option linter.unusedVariables false
namespace Wd
/-- the cover, by places of each rule's own word -/
def cutF (gs : List Rl) : Nat → Nat → Int → Int → List Int
  | 0, _, _, _ => []
  | f + 1, k, i, j =>
    if j ≤ i then [] else if i = 0 ∧ j = (lens gs).getD k 0 then [(k : Int)] else
      match gs[k]? with
      | some x => cutF gs f x.l.toNat i (min j ((lens gs).getD x.l.toNat 0)) ++ cutF gs f x.r.toNat (max (i - (lens gs).getD x.l.toNat 0) 0) (j - (lens gs).getD x.l.toNat 0)
      | none => []
theorem cut_none {gs : List Rl} {f k : Nat} {i j : Int} (h : j ≤ i) : cutF gs (f + 1) k i j = [] := by rw [cutF, if_pos h]
theorem cut_whole {gs : List Rl} {f k : Nat} {i j : Int} (h : ¬ j ≤ i) (h2 : i = 0 ∧ j = (lens gs).getD k 0) : cutF gs (f + 1) k i j = [(k : Int)] := by rw [cutF, if_neg h, if_pos h2]
theorem cut_two {gs : List Rl} {f k a b : Nat} {i j : Int} (hk : k < gs.length) (ha : gs[k].l = a) (hb : gs[k].r = b) (h : ¬ j ≤ i) (h2 : ¬ (i = 0 ∧ j = (lens gs).getD k 0)) :
    cutF gs (f + 1) k i j = cutF gs f a i (min j ((lens gs).getD a 0)) ++ cutF gs f b (max (i - (lens gs).getD a 0) 0) (j - (lens gs).getD a 0) := by
  rw [cutF, if_neg h, if_neg h2, List.getElem?_eq_getElem hk]
  simp only [ha, hb, Int.toNat_natCast]
theorem cover_cut {gs : List Rl} (hok : gOk gs = true) (i j : Int) (hij : i < j) : ∀ f k s, k < f → k < gs.length → coverF gs i j f k s = cutF gs f k (max (i - s) 0) (min (j - s) ((lens gs).getD k 0))
  | 0, _, _, h, _ => by omega
  | f + 1, k, s, h, hk => by
    have hp := lens_pos hk fun q hq _ => fits_at (gOk_iff.1 hok).2.1 q hq
    by_cases h1 : s + (lens gs).getD k 0 ≤ i ∨ j ≤ s
    · rw [cover_out h1, cut_none (by omega)]
    · by_cases h2 : i ≤ s ∧ s + (lens gs).getD k 0 ≤ j
      · rw [cover_in h1 h2, cut_whole (by omega) (by omega)]
      · have h0 := cut_pair hok hk h1 h2
        obtain ⟨a, b, ha, hb, hak, hbk, hs2, p1, _, p2, _⟩ := pair_parts hok hk h0
        rw [cover_pair hk ha hb h1 h2, cut_two hk ha hb (by omega) (by omega), cover_cut hok i j hij f a s (by omega) (by omega), cover_cut hok i j hij f b _ (by omega) (by omega)]
        congr 2 <;> omega
theorem cutA_eq {gs : List Rl} (hok : gOk gs = true) (hg : 0 < gs.length) {i j : Int} (h0 : 0 ≤ i) (hij : i < j) (hj : j ≤ (lens gs).getD (gs.length - 1) 0) : cutF gs gs.length (gs.length - 1) i j = covA gs i j := by
  unfold covA
  rw [cover_cut hok i j hij gs.length (gs.length - 1) 0 (by omega) (by omega)]
  congr 1 <;> omega
/-- the first pairs that make a list of numbers one, behind so many rules -/
def chK (N : Nat) (c : List Int) (m : Nat) : List Rl := (List.range m).map fun t => ⟨⟨#[]⟩, if t = 0 then c.getD 0 0 else ((N + t : Nat) : Int) - 1, c.getD (t + 1) 0⟩
theorem chK_succ (N : Nat) (c : List Int) (m : Nat) : chK N c (m + 1) = chK N c m ++ [⟨⟨#[]⟩, if m = 0 then c.getD 0 0 else ((N + m : Nat) : Int) - 1, c.getD (m + 1) 0⟩] := by
  unfold chK
  rw [List.range_succ, List.map_append]
  rfl
theorem chK_len (N : Nat) (c : List Int) (m : Nat) : (chK N c m).length = m := by simp [chK]
/-- the rules of a part before trimming -/
def cutG (gs : List Rl) (i j : Int) : List Rl :=
  if i = j then [] else if (covA gs i j).length = 1 then gs.take ((covA gs i j).headD 0).toNat.succ else gs ++ chK gs.length (covA gs i j) ((covA gs i j).length - 1)
theorem fits_nil : fits [] = true := decide_eq_true fun k h => by simp at h
theorem fits_take {gs : List Rl} (h : fits gs = true) (m : Nat) : fits (gs.take m) = true := by
  refine decide_eq_true fun k hk => ?_
  rw [List.length_take] at hk
  rw [List.getElem_take]
  exact fits_at h k (by omega)
theorem fits_chK {gs : List Rl} (h : fits gs = true) {c : List Int} (hc : ∀ q ∈ c, 0 ≤ q ∧ q < (gs.length : Int)) (m : Nat) (hm : m + 1 ≤ c.length ∨ m = 0) : fits (gs ++ chK gs.length c m) = true := by
  refine decide_eq_true fun k hk => ?_
  rw [List.length_append, chK_len] at hk
  by_cases hkg : k < gs.length
  · rw [List.getElem_append_left hkg]
    exact fits_at h k hkg
  · rw [List.getElem_append_right (by omega)]
    have hget : ∀ t, t < c.length → 0 ≤ c.getD t 0 ∧ c.getD t 0 < (gs.length : Int) := fun t ht => by
      rw [List.getD_eq_getElem?_getD, List.getElem?_eq_getElem ht, Option.getD_some]
      exact hc _ (List.getElem_mem ht)
    have h0 := hget 0 (by omega)
    have h1 := hget (k - gs.length + 1) (by omega)
    simp only [chK, List.getElem_map, List.getElem_range]
    rw [ok_pair (by rfl)]
    simp only
    split <;> omega
theorem cut_fits {gs : List Rl} (hok : gOk gs = true) (hg : 0 < gs.length) (i j : Int) : fits (cutG gs i j) = true := by
  unfold cutG
  split
  · exact fits_nil
  · split
    · exact fits_take (gOk_iff.1 hok).2.1 _
    · exact fits_chK (gOk_iff.1 hok).2.1 (covA_lt hok hg i j) _ (by omega)
theorem cut_len {gs : List Rl} (hok : gOk gs = true) (hg : 0 < gs.length) (i j : Int) : (cutG gs i j).length ≤ 1300 := by
  have h1 := cover_bd hok i j gs.length (gs.length - 1) 0 (by omega) (by omega)
  have h2 := gOk_len hok
  unfold cutG
  split
  · simp
  · split
    · rw [List.length_take]; omega
    · rw [List.length_append, chK_len]
      unfold covA
      omega
theorem cutF_bd {gs : List Rl} (hok : gOk gs = true) {f k : Nat} {i j : Int} (hf : k < f) (hk : k < gs.length) (h0 : 0 ≤ i) (hj : j ≤ (lens gs).getD k 0) : (cutF gs f k i j).length ≤ 2 * k + 2 := by
  by_cases hij : i < j
  · have h1 := cover_cut hok i j hij f k 0 hf hk
    have h2 := cover_bd hok i j f k 0 hf hk
    rw [h1, show max (i - 0) 0 = i from by omega, show min (j - 0) ((lens gs).getD k 0) = j from by omega] at h2
    exact h2
  · obtain ⟨f', rfl⟩ : ∃ f', f = f' + 1 := ⟨f - 1, by omega⟩
    rw [cut_none (by omega)]
    simp
theorem redR_one {F : List Nat} {x : Rl} (h : x.L.size ≤ 1) : (redR F x).L.size ≤ 1 := by
  unfold redR
  split
  · exact Nat.zero_le _
  · exact h
theorem kT_one {gs : List Rl} (h : ∀ k (hk : k < gs.length), gs[k].L.size ≤ 1) (n j : Nat) : ((kT gs n).getD j zeroR).L.size ≤ 1 := by
  by_cases hj : j < n
  · rw [List.getD_eq_getElem?_getD, kT_pre gs j n hj, Option.getD_some]
    unfold nxT
    refine redR_one ?_
    by_cases hg : j < gs.length
    · rw [List.getD_eq_getElem?_getD, List.getElem?_eq_getElem hg, Option.getD_some]
      exact h j hg
    · rw [List.getD_eq_getElem?_getD, List.getElem?_eq_none (by omega), Option.getD_none]
      exact Nat.zero_le _
  · rw [List.getD_eq_getElem?_getD, List.getElem?_eq_none (by rw [kT_len]; omega), Option.getD_none]
    exact Nat.zero_le _
theorem out_sum {K : List Rl} {nd : List Bool} (h : ∀ j, (K.getD j zeroR).L.size ≤ 1) : ∀ i, sumL (outT K nd i).2 ≤ i
  | 0 => Nat.le_refl _
  | i + 1 => by
    have ih := out_sum (nd := nd) h i
    rw [outT]
    split
    · have := redR_one (F := (outT K nd i).1.set i (outT K nd i).2.length) (h i)
      simp only [sumL, List.map_append, List.sum_append, List.map_cons, List.map_nil, List.sum_cons, List.sum_nil] at ih ⊢
      omega
    · omega
theorem fits_one {gs : List Rl} (h : fits gs = true) (k : Nat) (hk : k < gs.length) : gs[k].L.size ≤ 1 := by
  by_cases h0 : gs[k].L.size = 0
  · omega
  · have := ((ok_letter h0).1 (fits_at h k hk)).1.1
    omega
theorem trim_sum {gs : List Rl} (h : fits gs = true) : sumL (trimG gs) ≤ gs.length := out_sum (kT_one (fits_one h) _) _
theorem trim_nil : trimG [] = [] := rfl
theorem cutF_pos' {gs : List Rl} (hok : gOk gs = true) : ∀ f k (i j : Int), k < f → k < gs.length → 0 ≤ i → i < j → j ≤ (lens gs).getD k 0 → 1 ≤ (cutF gs f k i j).length
  | 0, _, _, _, h, _, _, _, _ => by omega
  | f + 1, k, i, j, h, hk, h0, hij, hj => by
    by_cases h2 : i = 0 ∧ j = (lens gs).getD k 0
    · rw [cut_whole (by omega) h2]; simp
    · have hp := cut_pair (i := i) (j := j) (s := 0) hok hk (by omega) (by omega)
      obtain ⟨a, b, ha, hb, hak, hbk, hs2, p1, _, p2, _⟩ := pair_parts hok hk hp
      rw [cut_two hk ha hb (by omega) h2, List.length_append]
      by_cases hi : i < (lens gs).getD a 0
      · have := cutF_pos' hok f a i (min j ((lens gs).getD a 0)) (by omega) (by omega) h0 (by omega) (by omega)
        omega
      · have := cutF_pos' hok f b (max (i - (lens gs).getD a 0) 0) (j - (lens gs).getD a 0) (by omega) (by omega) (by omega) (by omega) (by omega)
        omega
theorem cutF_pos {gs : List Rl} (hok : gOk gs = true) (hg : 0 < gs.length) {i j : Int} (h0 : 0 ≤ i) (hij : i < j) (hj : j ≤ (lens gs).getD (gs.length - 1) 0) : 1 ≤ (cutF gs gs.length (gs.length - 1) i j).length :=
  cutF_pos' hok _ _ i j (by omega) (by omega) h0 hij hj
theorem gOk_nil : gOk [] = true := by
  unfold gOk
  rw [fits_nil]
  simp [small]
end Wd
end Go.Proofs.Ytlgpleeanmeenaa
namespace Go.Proofs.Ytlgpleeanmeenaa
open Go.RowKit
set_option linter.unusedVariables false
namespace Wd
theorem lens_pre (gs hs : List Rl) (k : Nat) (h : k < gs.length) : (lens (gs ++ hs)).getD k 0 = (lens gs).getD k 0 := by
  have h1 := vals_take (fun a b => a + b) (gs ++ hs) gs.length
  rw [List.take_left] at h1
  unfold lens
  rw [← h1, getD_take h]
theorem lens_takeN (gs : List Rl) (m k : Nat) (h : k < m) : (lens (gs.take m)).getD k 0 = (lens gs).getD k 0 := by
  unfold lens
  rw [← vals_take, getD_take h]
/-- the lengths of some rules, summed -/
def lsum (gs : List Rl) (l : List Int) : Int := (l.map fun q => (lens gs).getD q.toNat 0).sum
theorem lsum_app (gs : List Rl) (a b : List Int) : lsum gs (a ++ b) = lsum gs a + lsum gs b := by simp [lsum]
theorem lsum_nil (gs : List Rl) : lsum gs [] = 0 := rfl
theorem lsum_one (gs : List Rl) (q : Int) : lsum gs [q] = (lens gs).getD q.toNat 0 := by
  unfold lsum
  rw [List.map_cons, List.map_nil, List.sum_cons, List.sum_nil, Int.add_zero]
theorem cutF_sum {gs : List Rl} (hok : gOk gs = true) : ∀ f k (i j : Int), k < f → k < gs.length → 0 ≤ i → i ≤ j → j ≤ (lens gs).getD k 0 → lsum gs (cutF gs f k i j) = j - i
  | 0, _, _, _, h, _, _, _, _ => by omega
  | f + 1, k, i, j, h, hk, h0, hij, hj => by
    by_cases he : j ≤ i
    · rw [cut_none he, lsum_nil]; omega
    · by_cases h2 : i = 0 ∧ j = (lens gs).getD k 0
      · rw [cut_whole he h2, lsum_one, Int.toNat_natCast]; omega
      · have hp := cut_pair (i := i) (j := j) (s := 0) hok hk (by omega) (by omega)
        obtain ⟨a, b, ha, hb, hak, hbk, hs2, p1, _, p2, _⟩ := pair_parts hok hk hp
        rw [cut_two hk ha hb he h2, lsum_app]
        obtain ⟨f', rfl⟩ : ∃ f', f = f' + 1 := ⟨f - 1, by omega⟩
        have h1 : lsum gs (cutF gs (f' + 1) a i (min j ((lens gs).getD a 0))) = max (min j ((lens gs).getD a 0) - i) 0 := by
          by_cases hi : min j ((lens gs).getD a 0) ≤ i
          · rw [cut_none hi, lsum_nil]; omega
          · rw [cutF_sum hok (f' + 1) a i _ (by omega) (by omega) h0 (by omega) (by omega)]; omega
        have h3 : lsum gs (cutF gs (f' + 1) b (max (i - (lens gs).getD a 0) 0) (j - (lens gs).getD a 0)) = max (j - (lens gs).getD a 0 - max (i - (lens gs).getD a 0) 0) 0 := by
          by_cases hi : j - (lens gs).getD a 0 ≤ max (i - (lens gs).getD a 0) 0
          · rw [cut_none hi, lsum_nil]; omega
          · rw [cutF_sum hok (f' + 1) b _ _ (by omega) (by omega) (by omega) (by omega) (by omega)]; omega
        rw [h1, h3]
        omega
theorem chain_lens {gs : List Rl} (h : fits gs = true) {c : List Int} (hc : ∀ q ∈ c, 0 ≤ q ∧ q < (gs.length : Int)) (m : Nat) (hm : m + 1 ≤ c.length) : ∀ t, t < m → (lens (gs ++ chK gs.length c m)).getD (gs.length + t) 0 = lsum gs (c.take (t + 2)) := by
  have hget : ∀ t, t < c.length → (0 ≤ c.getD t 0 ∧ c.getD t 0 < (gs.length : Int)) := fun t ht => by
    rw [List.getD_eq_getElem?_getD, List.getElem?_eq_getElem ht, Option.getD_some]
    exact hc _ (List.getElem_mem ht)
  have hfit := fits_chK h hc m (by omega)
  have hstep : ∀ t, t < m → (lens (gs ++ chK gs.length c m)).getD (gs.length + t) 0 = (lens (gs ++ chK gs.length c m)).getD (if t = 0 then c.getD 0 0 else ((gs.length + t : Nat) : Int) - 1).toNat 0 + (lens (gs ++ chK gs.length c m)).getD (c.getD (t + 1) 0).toNat 0 := by
    intro t ht
    have hk : gs.length + t < (gs ++ chK gs.length c m).length := by rw [List.length_append, chK_len]; omega
    have hg : (gs ++ chK gs.length c m)[gs.length + t] = ⟨⟨#[]⟩, if t = 0 then c.getD 0 0 else ((gs.length + t : Nat) : Int) - 1, c.getD (t + 1) 0⟩ := by
      rw [List.getElem_append_right (by omega)]
      simp [chK]
    have h1 := vals_pair (fun a b => a + b) _ _ hk (by rw [hg]; rfl) (fits_at hfit _ hk)
    rw [hg] at h1
    exact h1
  have hlow : ∀ q : Int, 0 ≤ q → q < (gs.length : Int) → (lens (gs ++ chK gs.length c m)).getD q.toNat 0 = (lens gs).getD q.toNat 0 := fun q h0 h1 => lens_pre _ _ _ (by omega)
  have htake : ∀ t, t < c.length → lsum gs (c.take (t + 1)) = lsum gs (c.take t) + (lens gs).getD (c.getD t 0).toNat 0 := fun t ht => by
    have hge : c.getD t 0 = c[t] := by rw [List.getD_eq_getElem?_getD, List.getElem?_eq_getElem ht, Option.getD_some]
    rw [List.take_succ_eq_append_getElem ht, lsum_app, lsum_one, hge]
  intro t
  induction t with
  | zero =>
    intro ht
    rw [hstep 0 ht, if_pos rfl, hlow _ (hget 0 (by omega)).1 (hget 0 (by omega)).2, hlow _ (hget 1 (by omega)).1 (hget 1 (by omega)).2, htake 1 (by omega), htake 0 (by omega), List.take_zero, lsum_nil, Int.zero_add]
  | succ t ih =>
    intro ht
    rw [hstep (t + 1) ht, if_neg (by omega), hlow _ (hget (t + 2) (by omega)).1 (hget (t + 2) (by omega)).2, show (((gs.length + (t + 1) : Nat) : Int) - 1).toNat = gs.length + t from by omega, ih (by omega), htake (t + 2) (by omega)]
/-- the word of a part has the part's length -/
theorem cut_wordLen {gs : List Rl} (hok : gOk gs = true) {i j : Int} (h0 : 0 ≤ i) (hij : i ≤ j) (hj : j ≤ wordLen gs) : wordLen (cutG gs i j) = j - i := by
  by_cases he : i = j
  · unfold cutG
    rw [if_pos he, wordLen_zero rfl]
    omega
  · have hg : 0 < gs.length := by
      rcases Nat.eq_zero_or_pos gs.length with h | h
      · rw [wordLen_zero h] at hj; omega
      · exact h
    have hcv := cutA_eq hok hg h0 (by omega : i < j) hj
    have hsum := cutF_sum hok gs.length (gs.length - 1) i j (by omega) (by omega) h0 hij hj
    have hpos := cutF_pos hok hg h0 (by omega : i < j) hj
    have hlt := covA_lt hok hg i j
    rw [hcv] at hsum hpos
    unfold cutG
    rw [if_neg he]
    by_cases h1 : (covA gs i j).length = 1
    · rw [if_pos h1]
      generalize covA gs i j = c at *
      match c, h1 with
      | [x], _ =>
        have hx := hlt x (by simp)
        unfold wordLen
        rw [List.length_take, Nat.min_eq_left (by simp only [List.headD_cons]; omega), lens_takeN _ _ _ (by simp)]
        rw [lsum_one] at hsum
        simp only [List.headD_cons, Nat.succ_eq_add_one, Nat.add_sub_cancel]
        exact hsum
    · rw [if_neg h1]
      have hc := chain_lens (gOk_iff.1 hok).2.1 hlt ((covA gs i j).length - 1) (by omega) ((covA gs i j).length - 2) (by omega)
      unfold wordLen
      rw [List.length_append, chK_len, show gs.length + ((covA gs i j).length - 1) - 1 = gs.length + ((covA gs i j).length - 2) from by omega, hc, List.take_of_length_le (by omega), hsum]
end Wd
end Go.Proofs.Ytlgpleeanmeenaa
