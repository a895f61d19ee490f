/-
  Part 2 of the texts on which FnExactCountAccepted rests, one behind the other: contracts and numbers of what the law's two functions call. No condition beyond those that each theorem names.
-/
import Derived.Test.YtaffachjopjbgaaFnExactCountAcceptedB1
import Derived.Deep.MidRow
import Derived.Deep.WholeRow
import Derived.Shelf.Small.Utf8
import Derived.Shelf.Small.Strs
import Derived.Shelf.Strings.Search1
import Derived.Shelf.Strings.Search2
import Derived.Shelf.Strings.Search3
import Derived.Shelf.LaysM
import Derived.Shelf.Strings.Shaped
import Derived.Shelf.Strings.Prefix
import Derived.Shelf.Strings.Runes
import Derived.Test.YtaffachjopjbgaaProg
import Derived.Deep.RegionHeld3
import Derived.Deep.RegionLaw
import Derived.Deep.AppendLies
import Derived.Laws.EntriesVeiled
import Derived.Lib.SliceRun
import Derived.WalkSpells
namespace Go.Proofs.Ytaffachjopjbgaa
open Go.RowKit
open Wd
set_option linter.unusedVariables false
namespace Wd
/-- the sum of the first numbers of a row -/
def sumN (f : Nat → Int) : Nat → Int
  | 0 => 0
  | k + 1 => sumN f k + f k
/-- one more at a place -/
def upd1 (f : Nat → Int) (a : Nat) (d : Int) : Nat → Int := fun i => if i = a then f i + d else f i
def upd2 (u : Nat → Nat → Int) (a t : Nat) (d : Int) : Nat → Nat → Int := fun j s => if j = a ∧ s = t then u j s + d else u j s
/-- where a rule leads -/
def qAt (nx : List (List Int)) (gs : List Rl) (k t : Nat) : Nat := (at2 (mapsK nx gs gs.length) k t).toNat
/-- what is counted for rules: the sum of its parts, the weight of the state behind a letter -/
def VOk (nx : List (List Int)) (gs : List Rl) (N : Nat) (V : Nat → Nat → Int) (w : Nat → Int) : Prop :=
  (∀ k a b t, k < gs.length → t < N → (gs.getD k ⟨ByteArray.empty, 0, 0⟩).L.size = 0 → (gs.getD k ⟨ByteArray.empty, 0, 0⟩).l = ((a : Nat) : Int) → (gs.getD k ⟨ByteArray.empty, 0, 0⟩).r = ((b : Nat) : Int) → V k t = V a t + V b (qAt nx gs a t)) ∧
  (∀ k t, k < gs.length → t < N → (gs.getD k ⟨ByteArray.empty, 0, 0⟩).L.size ≠ 0 → V k t = w (qAt nx gs k t))
/-- the sum over the first rules -/
def sumR (N : Nat) (u V : Nat → Nat → Int) (k : Nat) : Int := sumN (fun j => sumN (fun s => u j s * V j s) N) k
/-- what of a rule is not yet taken apart -/
def tailR (N : Nat) (u V : Nat → Nat → Int) (r t : Nat) : Int := sumN (fun s => if t ≤ s then u r s * V r s else 0) N
/-- what does not change, between two states of a rule -/
def VcI (nx : List (List Int)) (gs : List Rl) (N go r t : Nat) (u : Nat → Nat → Int) (o : Nat → Int) : Prop :=
  (∀ j s, 0 ≤ u j s) ∧ (∀ s, 0 ≤ o s) ∧ ∀ V w, VOk nx gs N V w → sumN (fun s => w s * o s) N + sumR N u V r + tailR N u V r t = V (gs.length - 1) go
end Wd
theorem sumN_congr {f g : Nat → Int} : ∀ {n}, (∀ i, i < n → f i = g i) → sumN f n = sumN g n
  | 0, _ => rfl
  | n + 1, h => by rw [sumN, sumN, sumN_congr (fun i hi => h i (by omega)), h n (by omega)]
theorem sumN_zero {f : Nat → Int} : ∀ {n}, (∀ i, i < n → f i = 0) → sumN f n = 0
  | 0, _ => rfl
  | n + 1, h => by rw [sumN, sumN_zero (fun i hi => h i (by omega)), h n (by omega)]; rfl
theorem sumN_pos {f : Nat → Int} : ∀ {n}, (∀ i, i < n → 0 ≤ f i) → 0 ≤ sumN f n
  | 0, _ => Int.le_refl _
  | n + 1, h => by have h1 := sumN_pos (n := n) (fun i hi => h i (by omega)); have h2 := h n (by omega); rw [sumN]; omega
theorem sumN_one {f g : Nat → Int} {a : Nat} {d : Int} : ∀ {n}, a < n → (∀ i, i < n → i ≠ a → g i = f i) → g a = f a + d → sumN g n = sumN f n + d
  | 0, h, _, _ => by omega
  | n + 1, h, h1, h2 => by
    rw [sumN, sumN]
    by_cases e : a = n
    · subst e
      rw [sumN_congr (n := a) (f := g) (g := f) (fun i hi => h1 i (by omega) (by omega)), h2]
      omega
    · rw [sumN_one (n := n) (by omega) (fun i hi => h1 i (by omega)) h2, h1 n (by omega) (by omega)]
      omega
theorem sumN_ge {f : Nat → Int} {a n : Nat} (ha : a < n) (h : ∀ i, i < n → 0 ≤ f i) : f a ≤ sumN f n := by
  have h1 := sumN_one (f := fun i => if i = a then 0 else f i) (g := f) (a := a) (d := f a) ha (fun i _ hi => by simp [hi]) (by simp)
  have h2 := sumN_pos (f := fun i => if i = a then 0 else f i) (n := n) (fun i hi => by
    show 0 ≤ if i = a then 0 else f i
    split
    · omega
    · exact h i hi)
  omega
theorem upd1_same (f : Nat → Int) (a : Nat) (d : Int) : upd1 f a d a = f a + d := by simp [upd1]
theorem upd1_ne (f : Nat → Int) {a i : Nat} (d : Int) (h : i ≠ a) : upd1 f a d i = f i := by simp [upd1, h]
theorem upd2_same (u : Nat → Nat → Int) (a t : Nat) (d : Int) : upd2 u a t d a t = u a t + d := by simp [upd2]
theorem upd2_ne (u : Nat → Nat → Int) {a t j s : Nat} (d : Int) (h : ¬ (j = a ∧ s = t)) : upd2 u a t d j s = u j s := by simp [upd2, h]
theorem upd2_zero (u : Nat → Nat → Int) (a t : Nat) : upd2 u a t 0 = u := by
  funext j s
  unfold upd2
  split
  · omega
  · rfl
theorem upd1_zero (f : Nat → Int) (a : Nat) : upd1 f a 0 = f := by
  funext j
  unfold upd1
  split
  · omega
  · rfl
/-- one more at a place of the first rules -/
theorem sumR_upd {N a t k : Nat} {u V : Nat → Nat → Int} {d : Int} (ha : a < k) (ht : t < N) : sumR N (upd2 u a t d) V k = sumR N u V k + d * V a t := by
  unfold sumR
  refine sumN_one ha (fun i hi hne => sumN_congr (fun s hs => by rw [upd2_ne u d (fun h => hne h.1)])) ?_
  refine sumN_one ht (fun s hs hne => by rw [upd2_ne u d (fun h => hne h.2)]) ?_
  show upd2 u a t d a t * V a t = u a t * V a t + d * V a t
  rw [upd2_same, Int.add_mul]
theorem tailR_far {N a t r s : Nat} {u V : Nat → Nat → Int} {d : Int} (h : a ≠ r) : tailR N (upd2 u a t d) V r s = tailR N u V r s := by
  unfold tailR
  refine sumN_congr (fun i hi => ?_)
  rw [upd2_ne u d (fun e => h e.1.symm)]
theorem tailR_step {N r t : Nat} {u V : Nat → Nat → Int} (ht : t < N) : tailR N u V r t = tailR N u V r (t + 1) + u r t * V r t := by
  unfold tailR
  refine sumN_one (f := fun s => if t + 1 ≤ s then u r s * V r s else 0) ht (fun i hi hne => ?_) ?_
  · by_cases h : t ≤ i
    · rw [if_pos h, if_pos (by omega)]
    · rw [if_neg h, if_neg (by omega)]
  · show (if t ≤ t then u r t * V r t else 0) = (if t + 1 ≤ t then u r t * V r t else 0) + u r t * V r t
    rw [if_pos (Nat.le_refl t), if_neg (by omega)]
    omega
theorem tailR_end {N r : Nat} {u V : Nat → Nat → Int} : tailR N u V r N = 0 := by
  unfold tailR
  exact sumN_zero (fun i hi => by rw [if_neg (by omega)])
theorem tailR_zero {N r : Nat} {u V : Nat → Nat → Int} : tailR N u V r 0 = sumN (fun s => u r s * V r s) N := by
  unfold tailR
  exact sumN_congr (fun i hi => by rw [if_pos (Nat.zero_le _)])
/-- the start: the last rule is met once -/
theorem VcI.start {nx : List (List Int)} {gs : List Rl} {N go : Nat} (hg : go < N) : VcI nx gs N go (gs.length - 1) 0 (upd2 (fun _ _ => 0) (gs.length - 1) go 1) (fun _ => 0) := by
  refine ⟨fun j s => ?_, fun s => Int.le_refl _, fun V w hV => ?_⟩
  · unfold upd2
    show 0 ≤ if j = gs.length - 1 ∧ s = go then (0 : Int) + 1 else 0
    split <;> omega
  · rw [sumN_zero (fun i hi => by show w i * 0 = 0; rw [Int.mul_zero]), tailR_zero]
    have h1 : sumR N (upd2 (fun _ _ => 0) (gs.length - 1) go 1) V (gs.length - 1) = 0 := by
      unfold sumR
      refine sumN_zero (fun i hi => sumN_zero (fun s hs => ?_))
      rw [upd2_ne _ _ (fun h => by omega), Int.zero_mul]
    have h2 : sumN (fun s => upd2 (fun _ _ => (0 : Int)) (gs.length - 1) go 1 (gs.length - 1) s * V (gs.length - 1) s) N = sumN (fun _ => (0 : Int)) N + V (gs.length - 1) go := by
      refine sumN_one hg (fun i hi hne => ?_) ?_
      · rw [upd2_ne _ _ (fun h => hne h.2), Int.zero_mul]
      · rw [upd2_same]; omega
    rw [h1, h2, sumN_zero (fun _ _ => rfl)]
    omega
/-- the next rule -/
theorem VcI.down {nx : List (List Int)} {gs : List Rl} {N go r : Nat} {u : Nat → Nat → Int} {o : Nat → Int} (h : VcI nx gs N go (r + 1) N u o) : VcI nx gs N go r 0 u o := by
  refine ⟨h.1, h.2.1, fun V w hV => ?_⟩
  have := h.2.2 V w hV
  rw [tailR_end] at this
  rw [tailR_zero, ← this]
  unfold sumR
  rw [sumN]
  omega
/-- a letter in a state -/
theorem VcI.letter {nx : List (List Int)} {gs : List Rl} {N go r t : Nat} {u : Nat → Nat → Int} {o : Nat → Int} (h : VcI nx gs N go r t u o) (hr : r < gs.length) (ht : t < N) (hq : qAt nx gs r t < N) (hz : (gs.getD r ⟨ByteArray.empty, 0, 0⟩).L.size ≠ 0) : VcI nx gs N go r (t + 1) u (upd1 o (qAt nx gs r t) (u r t)) := by
  refine ⟨h.1, fun s => ?_, fun V w hV => ?_⟩
  · have h1 := h.2.1 s
    have h2 := h.1 r t
    unfold upd1
    split <;> omega
  · have h1 := h.2.2 V w hV
    rw [tailR_step ht, hV.2 r t hr ht hz] at h1
    have h2 : sumN (fun s => w s * upd1 o (qAt nx gs r t) (u r t) s) N = sumN (fun s => w s * o s) N + u r t * w (qAt nx gs r t) := by
      refine sumN_one hq (fun i hi hne => by rw [upd1_ne _ _ hne]) ?_
      rw [upd1_same, Int.mul_add, Int.mul_comm (u r t)]
    omega
/-- a pair in a state -/
theorem VcI.pair {nx : List (List Int)} {gs : List Rl} {N go r t a b : Nat} {u : Nat → Nat → Int} {o : Nat → Int} (h : VcI nx gs N go r t u o) (hr : r < gs.length) (ht : t < N) (hq : qAt nx gs a t < N) (hz : (gs.getD r ⟨ByteArray.empty, 0, 0⟩).L.size = 0) (ha : (gs.getD r ⟨ByteArray.empty, 0, 0⟩).l = (a : Int)) (hb : (gs.getD r ⟨ByteArray.empty, 0, 0⟩).r = (b : Int)) (har : a < r) (hbr : b < r) :
    VcI nx gs N go r (t + 1) (upd2 (upd2 u a t (u r t)) b (qAt nx gs a t) (u r t)) o := by
  have hn := h.1 r t
  refine ⟨fun j s => ?_, h.2.1, fun V w hV => ?_⟩
  · have h1 := h.1 j s
    unfold upd2
    split <;> split <;> omega
  · have h1 := h.2.2 V w hV
    rw [tailR_step ht, hV.1 r a b t hr ht hz ha hb, Int.mul_add] at h1
    rw [sumR_upd hbr hq, sumR_upd har ht, tailR_far (by omega), tailR_far (by omega)]
    omega
/-- behind all rules: what was counted -/
theorem VcI.done {nx : List (List Int)} {gs : List Rl} {N go : Nat} {u : Nat → Nat → Int} {o : Nat → Int} (h : VcI nx gs N go 0 N u o) {V : Nat → Nat → Int} {w : Nat → Int} (hV : VOk nx gs N V w) : sumN (fun s => w s * o s) N = V (gs.length - 1) go := by
  have := h.2.2 V w hV
  rw [tailR_end] at this
  have h0 : sumR N u V 0 = 0 := rfl
  omega
theorem getD_rl {gs : List Rl} {k : Nat} (hk : k < gs.length) : gs.getD k ⟨ByteArray.empty, 0, 0⟩ = gs[k] := by rw [List.getD_eq_getElem?_getD, List.getElem?_eq_getElem hk]; rfl
/-- the lengths are such a count, and so are the visits -/
theorem vok_lens {nx : List (List Int)} {gs : List Rl} {N : Nat} (hfit : fits gs = true) : VOk nx gs N (fun k _ => (lens gs).getD k 0) (fun _ => 1) := by
  refine ⟨fun k a b t hk _ hz ha hb => ?_, fun k t hk _ hz => ?_⟩
  · rw [getD_rl hk] at hz ha hb
    have := vals_pair (fun a b => a + b) gs k hk hz (fits_at hfit k hk)
    rw [ha, hb, Int.toNat_natCast, Int.toNat_natCast] at this
    exact this
  · rw [getD_rl hk] at hz
    exact vals_letter (fun a b => a + b) gs k hk hz
theorem vok_vis {nx : List (List Int)} {gs : List Rl} {N : Nat} (wa : Int → Bool) (hfit : fits gs = true) (hN : N ≤ 24) (hm : ∀ k t, k < gs.length → t < N → 0 ≤ at2 (mapsK nx gs gs.length) k t) : VOk nx gs N (fun k t => at2 (visK wa nx gs gs.length) k t) (fun s => if wa (s : Int) = true then 1 else 0) := by
  refine ⟨fun k a b t hk ht hz ha hb => ?_, fun k t hk ht hz => ?_⟩
  · rw [getD_rl hk] at hz ha hb
    obtain ⟨⟨a1, a2⟩, b1, b2⟩ := (ok_pair hz).1 (fits_at hfit k hk)
    exact vis_pair wa nx hk hz ha hb (by omega) (by omega) (by omega)
  · rw [getD_rl hk] at hz
    show at2 (visK wa nx gs gs.length) k t = if wa ((qAt nx gs k t : Nat) : Int) = true then 1 else 0
    rw [vis_letter wa nx hk hz (by omega)]
    unfold qAt
    rw [Int.toNat_of_nonneg (hm k t hk ht)]
/-- no count passes the length -/
theorem VcI.bound {nx : List (List Int)} {gs : List Rl} {N go r t : Nat} {u : Nat → Nat → Int} {o : Nat → Int} (h : VcI nx gs N go r t u o) (hfit : fits gs = true) (hr : r < gs.length) {s : Nat} (hs : s < N) :
    o s ≤ (lens gs).getD (gs.length - 1) 0 ∧ (∀ j, j < r → u j s ≤ (lens gs).getD (gs.length - 1) 0) ∧ (t ≤ s → u r s ≤ (lens gs).getD (gs.length - 1) 0) := by
  have h1 := h.2.2 _ _ (vok_lens (N := N) (nx := nx) hfit)
  have lp : ∀ j, j < gs.length → 1 ≤ (lens gs).getD j 0 := fun j hj => by
    have := lens_pos (gs := gs) (k := j) hj (fun j hj _ => fits_at hfit j hj); omega
  have up : ∀ j s', j < gs.length → u j s' ≤ u j s' * (lens gs).getD j 0 := fun j s' hj => by
    have h2 := Int.mul_le_mul_of_nonneg_left (lp j hj) (h.1 j s')
    rw [Int.mul_one] at h2
    exact h2
  have un : ∀ j s', j < gs.length → 0 ≤ u j s' * (lens gs).getD j 0 := fun j s' hj => by have := up j s' hj; have := h.1 j s'; omega
  have p1 : 0 ≤ sumN (fun s => (1 : Int) * o s) N := sumN_pos (fun i _ => by have := h.2.1 i; omega)
  have p2 : 0 ≤ sumR N u (fun k _ => (lens gs).getD k 0) r := sumN_pos (fun j hj => sumN_pos (fun i _ => un j i (by omega)))
  have p3 : 0 ≤ tailR N u (fun k _ => (lens gs).getD k 0) r t := sumN_pos (fun i _ => by
    show 0 ≤ if t ≤ i then u r i * (lens gs).getD r 0 else 0
    split
    · exact un r i hr
    · omega)
  refine ⟨?_, fun j hj => ?_, fun hts => ?_⟩
  · have := sumN_ge (f := fun s => (1 : Int) * o s) hs (fun i _ => by have := h.2.1 i; omega)
    have e : (1 : Int) * o s = o s := Int.one_mul _
    simp only [e] at this
    omega
  · have g1 : u j s * (lens gs).getD j 0 ≤ sumN (fun s => u j s * (lens gs).getD j 0) N := sumN_ge (f := fun s => u j s * (lens gs).getD j 0) hs (fun i _ => un j i (by omega))
    have g2 : sumN (fun s => u j s * (lens gs).getD j 0) N ≤ sumR N u (fun k _ => (lens gs).getD k 0) r := sumN_ge (f := fun j => sumN (fun s => u j s * (lens gs).getD j 0) N) hj (fun i hi => sumN_pos (fun i' _ => un i i' (by omega)))
    have := up j s (by omega)
    omega
  · have g1 : (if t ≤ s then u r s * (lens gs).getD r 0 else 0) ≤ tailR N u (fun k _ => (lens gs).getD k 0) r t := sumN_ge (f := fun s => if t ≤ s then u r s * (lens gs).getD r 0 else 0) hs (fun i _ => by
      show 0 ≤ if t ≤ i then u r i * (lens gs).getD r 0 else 0
      split
      · exact un r i hr
      · omega)
    rw [if_pos hts] at g1
    have := up r s hr
    omega
/-- how often a state is met -/
theorem VcI.count {nx : List (List Int)} {gs : List Rl} {N go : Nat} {u : Nat → Nat → Int} {o : Nat → Int} (h : VcI nx gs N go 0 N u o) (hfit : fits gs = true) (hN : N ≤ 24) (hm : ∀ k t, k < gs.length → t < N → 0 ≤ at2 (mapsK nx gs gs.length) k t) {s : Nat} (hs : s < N) :
    o s = at2 (visK (fun q => decide (q = (s : Int))) nx gs gs.length) (gs.length - 1) go := by
  have h1 := VcI.done h (vok_vis (fun q => decide (q = (s : Int))) hfit hN hm)
  rw [← h1]
  have h2 := sumN_one (f := fun _ => (0 : Int)) (g := fun s' => (if (fun q => decide (q = (s : Int))) (s' : Int) = true then (1 : Int) else 0) * o s') (a := s) (d := o s) hs (fun i _ hne => by
    show (if decide ((i : Int) = (s : Int)) = true then (1 : Int) else 0) * o i = 0
    rw [if_neg (by simp; omega), Int.zero_mul]) (by
    show (if decide ((s : Int) = (s : Int)) = true then (1 : Int) else 0) * o s = 0 + o s
    rw [if_pos (by simp)]; omega)
  rw [h2, sumN_zero (fun _ _ => rfl)]
  omega
end Go.Proofs.Ytaffachjopjbgaa
namespace Go.Proofs.Ytaffachjopjbgaa
open Go.RowKit
open Wd
set_option linter.unusedVariables false
def mv (m : List Int) : Value := .agg (iv m).toArray
theorem size_map : (Try.prog.info? 197).map (·.size) = some 24 := by kernel_rfl
theorem und_map : Try.prog.underlying 197 = some (.array 24 108) := by kernel_rfl
theorem index_map (m : List Int) (hm : m.length = 24) (k : Nat) (hk : k < 24) (w : World) : (Instr.index 197 (.agg (iv m).toArray) (.int .i64 (k : Int))).run Try.prog w = .ok (.int .i64 (m.getD k 0)) w := by
  have h1 : (Try.prog.info? 108).map (·.size) = some 1 := by kernel_rfl
  have hu : Try.prog.underlying 108 = some (.int .i64) := by kernel_rfl
  have hk' : k < m.length := by omega
  obtain ⟨i1, hi1, hs1⟩ : ∃ i, Try.prog.info? 108 = some i ∧ i.size = 1 := by
    cases hq : Try.prog.info? 108 with
    | none => simp [hq] at h1
    | some i => exact ⟨i, rfl, by simpa [hq] using h1⟩
  have hb : (0 : Int) ≤ (k : Int) ∧ (k : Int) < 24 := by omega
  have hc : (iv m)[k]? = some (.int .i64 (m[k]?.getD 0)) := by
    rw [iv_get m k hk', List.getElem?_eq_getElem hk']
    rfl
  simp [Instr.index, asIntOf, run_underlying und_map, sizeOf, typeInfo, part, isAgg, run_underlying hu, hi1, hs1, hk, hc]
/-- between two states of the map that is being made -/
def TSt (w : World) (R : Nat) (m f : List Int) (k : Nat) (wr : World) : Prop :=
  wr.heap[w.heap.size]? = some (.cells (iv (thenK m f k)).toArray 197 (0, 0)) ∧ wr.heap[w.heap.size + 1]? = some (.cells (iv f).toArray 197 (0, 0)) ∧ wr.heap[R]? = some (.cells (iv (List.replicate 24 0)).toArray 197 (0, 0)) ∧ Below w.heap.size w wr
set_option maxRecDepth 100000 in
set_option maxHeartbeats 1600000 in
theorem then_any (m f : List Int) (st : Int) (h24 : st ≤ 24) (hm : mapOk st m) (hf : mapOk st f) (w : World) :
    Calls Try.prog 202 #[.agg (iv m).toArray, .agg (iv f).toArray] w fun e w' => e = .returned (.agg (iv (thenRow m f)).toArray) ∧ Below w.heap.size w w' := by
  have hsm : (Try.prog.info? 197).map (·.size) = some (iv m).toArray.size := by rw [size_map]; simp [iv, hm.1]
  go_enter Try.func202, Try.ntmps202
  go_upto_region 1 with fail
  obtain ⟨hP, hF, hR, hB3, hs3⟩ := al3 w (.cells (iv m).toArray 197) (.cells (iv f).toArray 197) (.cells (iv (List.replicate 24 0)).toArray 197)
  change Code.wp _ _ _ _ (((w.alloc (.cells (iv m).toArray 197)).alloc (.cells (iv f).toArray 197)).alloc (.cells (iv (List.replicate 24 0)).toArray 197))
  generalize ((w.alloc (.cells (iv m).toArray 197)).alloc (.cells (iv f).toArray 197)).alloc (.cells (iv (List.replicate 24 0)).toArray 197) = w3 at *
  go_wp2_with (with_reducible refine wpList_load_row rfl 197 _ rfl w.heap.size rfl 197 _ _ _ hP und_map rfl hsm ?_)
  obtain ⟨R, hRe⟩ : ∃ R, R = w.heap.size + 1 + 1 := ⟨_, rfl⟩
  rw [show w.heap.size + 2 = R from hRe.symm] at hR
  rw [← hRe]
  have HRE := Lib.hid hRe
  have HST : Hid (TSt w R m f 0 w3) := Lib.hid ⟨by rw [thenK_zero]; exact hP, hF, hR, hB3⟩
  have HM := Lib.hid hm
  have HF := Lib.hid hf
  have HSM := Lib.hid hsm
  clear hRe hP hF hR hB3 hs3 hm hf hsm
  go_loopw [8] (fun i wr => ∃ k : Nat, k ≤ 24 ∧ i = .int .i64 k ∧ TSt w R m f k wr) (fun i _ => 24 - (intOf i).toNat)
  case atStart => exact ⟨0, by omega, rfl, HST.out⟩
  case round =>
    obtain ⟨k, hk, rfl, hst⟩ := hrel
    obtain ⟨wo, rfl⟩ : ∃ wo : World, wo = wr := ⟨_, rfl⟩
    have HS := Lib.hid hst
    obtain ⟨hP, hF, hR, hB⟩ := hst
    by_cases hlt : k < 24
    · have hkm : k < m.length := by rw [HM.out.1]; exact hlt
      have hq := HM.out.2 _ (List.getElem_mem hkm)
      obtain ⟨q, hqe⟩ : ∃ q : Nat, m[k] = q := ⟨m[k].toNat, by omega⟩
      have hq24 : q < 24 := by omega
      have hix := index_map m HM.out.1 k hlt
      rw [List.getD_eq_getElem?_getD, List.getElem?_eq_getElem hkm, Option.getD_some, hqe] at hix
      have hqf : q < f.length := by rw [HF.out.1]; exact hq24
      have c3 : wo.cell? ⟨w.heap.size + 1, q, none⟩ = some (.int .i64 (f.getD q 0)) := by
        rw [cell_of_row _ _ _ _ _ _ hF, List.getElem?_toArray, iv_get f q hqf, List.getD_eq_getElem?_getD, List.getElem?_eq_getElem hqf]; rfl
      have hkt : k < (thenK m f k).length := by rw [thenK_len m f k (by omega)]; exact hkm
      have c2 : wo.cell? ⟨w.heap.size, k, none⟩ = some (.int .i64 (thenK m f k)[k]) := by
        rw [cell_of_row _ _ _ _ _ _ hP, List.getElem?_toArray, iv_get _ k hkt]
      have f2 : wo.frozen? ⟨w.heap.size, k, none⟩ = false := frozen_of_row _ _ _ _ _ hP
      have HNX : Hid (TSt w R m f (k + 1) (wo.setCell ⟨w.heap.size, k, none⟩ (.int .i64 (f.getD q 0)))) := Lib.hid (by
        refine ⟨?_, (Below.heap_setCell wo _ _ _ (by simp)).trans hF, (Below.heap_setCell wo _ _ _ (by have := HRE.out; show R ≠ w.heap.size; omega)).trans hR, hB.setCell (by simp) _⟩
        rw [heap_setCell_same _ _ _ _ _ _ hP, ← thenK_set m f k hkm, hqe]
        simp [iv, List.map_set])
      generalize f.getD q 0 = z at *
      generalize (thenK m f k)[k] = u2 at *
      have hq0 : (0 : Int) ≤ (q : Int) := by omega
      have hq1 : (q : Int) < 24 := by omega
      have hk0 : (0 : Int) ≤ (k : Int) := by omega
      have hk1 : (k : Int) < 24 := by omega
      clear hP hF hR hB hq hqe hqf hkt hkm HS
      go_wp2_with fail
      go_roundw
      all_goals first | exact ⟨k + 1, by omega, by go_num, HNX.out⟩ | ((repeat apply Exists.intro); exact ⟨⟨k + 1, by omega, by go_num, HNX.out⟩, rfl⟩) | (simp [intOf]; done) | (simp [intOf]; omega) | omega
    · obtain rfl : k = 24 := by omega
      have hall : thenK m f 24 = thenRow m f := by rw [← HM.out.1]; exact thenK_all m f
      rw [hall] at hP
      have hsz : (iv (thenRow m f)).toArray.size = 24 := by simp [iv, thenRow, HM.out.1]
      have hsm : (Try.prog.info? 197).map (·.size) = some (iv (thenRow m f)).toArray.size := by rw [size_map, hsz]
      have hz : (iv (List.replicate 24 0)).toArray.size = (iv (thenRow m f)).toArray.size := by rw [hsz]; simp [iv]
      have h1 : (iv (thenRow m f)).toArray.all (·.oneCell') = true := all_oneCell_toArray (fun v hv => by obtain ⟨x, _, rfl⟩ := List.mem_map.1 hv; rfl)
      have HR9 : Hid ((wo.setRow R (iv (thenRow m f)).toArray).heap[R]? = some (.cells (iv (thenRow m f)).toArray 197 (0, 0))) := Lib.hid (setRow_heap wo R _ _ _ _ hR)
      have HB9 : Hid (Below w.heap.size w (wo.setRow R (iv (thenRow m f)).toArray)) := Lib.hid (bSetRow hB (by rw [HRE.out]; omega) _)
      have HSZ := Lib.hid hsm
      have HH := Lib.hid (And.intro hP (And.intro hR (And.intro hz h1)))
      clear hall hsz HS hF hB hP hR hz h1 hsm
      go_upto_region 6 with fail
      go_wp2_with (first
        | (with_reducible refine wpList_load_row rfl 197 _ rfl w.heap.size rfl 197 _ _ _ HH.out.1 und_map rfl HSZ.out ?_)
        | (with_reducible refine wpList_store_row rfl 197 _ _ rfl R _ rfl rfl 197 _ HH.out.2.1 HSZ.out HH.out.2.2.1 HH.out.2.2.2 ?_))
      refine bodyPost_ret (v := .agg (iv (thenRow m f)).toArray) (results_cell_row rfl _ _ R 197 _ (0, 0) _ rfl HR9.out und_map rfl HSZ.out) rfl ⟨rfl, HB9.out⟩
namespace Wd
def stAt (nx : List (List Int)) (s0 l0 : Nat) : List Int := (List.range 96).map fun c => if c % 24 < s0 ∨ (c % 24 = s0 ∧ c / 24 < l0) then (nx.getD (c % 24) []).getD (c / 24) 0 else 0
/-- ninety-six zeros -/
def Z96 : List Int := List.replicate 96 0
def stAll (nx : List (List Int)) : List Int := (List.range 96).map fun c => (nx.getD (c % 24) []).getD (c / 24) 0
end Wd
theorem stAt_len (nx : List (List Int)) (s l : Nat) : (stAt nx s l).length = 96 := by simp [stAt]
theorem stAll_len (nx : List (List Int)) : (stAll nx).length = 96 := by simp [stAll]
theorem stAt_zero (nx : List (List Int)) : stAt nx 0 0 = Z96 := by
  unfold Z96
  apply List.ext_getElem
  · simp [stAt]
  · intro i h1 h2
    rw [List.getElem_replicate]
    simp only [stAt, List.getElem_map, List.getElem_range]
    rw [if_neg (by omega)]
theorem stAt_next (nx : List (List Int)) (s : Nat) : stAt nx s 4 = stAt nx (s + 1) 0 := by
  unfold stAt
  apply List.map_congr_left
  intro c hc
  have hc := List.mem_range.1 hc
  by_cases h : c % 24 < s ∨ (c % 24 = s ∧ c / 24 < 4)
  · rw [if_pos h, if_pos (by omega)]
  · rw [if_neg h, if_neg (by omega)]
theorem stAt_all (nx : List (List Int)) : stAt nx nx.length 0 = stAll nx := by
  unfold stAt stAll
  apply List.map_congr_left
  intro c hc
  by_cases h : c % 24 < nx.length ∨ (c % 24 = nx.length ∧ c / 24 < 0)
  · rw [if_pos h]
  · rw [if_neg h, List.getD_eq_getElem?_getD (l := nx), List.getElem?_eq_none (by omega)]
    rfl
theorem stAt_set (nx : List (List Int)) (s l : Nat) (hs : s < 24) (hl : l < 4) : (stAt nx s l).set (l * 24 + s) ((nx.getD s []).getD l 0) = stAt nx s (l + 1) := by
  apply List.ext_getElem
  · simp [stAt]
  · intro i h1 h2
    have hi : i < 96 := by simpa [stAt] using h2
    rw [List.getElem_set]
    by_cases e : l * 24 + s = i
    · rw [if_pos e]
      simp only [stAt, List.getElem_map, List.getElem_range]
      rw [if_pos (by omega), show i % 24 = s from by omega, show i / 24 = l from by omega]
    · rw [if_neg e]
      simp only [stAt, List.getElem_map, List.getElem_range]
      by_cases h : i % 24 < s ∨ (i % 24 = s ∧ i / 24 < l)
      · rw [if_pos h, if_pos (by omega)]
      · rw [if_neg h, if_neg (by omega)]
theorem und_steps : Try.prog.underlying 239 = some (.array 4 197) := by kernel_rfl
theorem zero_steps : (Try.prog.info? 239).map (fun i => (i.zero, i.size)) = some (some (.agg (iv Z96).toArray), 96) := by kernel_rfl
/-- between two steps -/
def SSt (w : World) (nx : List (List Int)) (s l : Nat) (wr : World) : Prop :=
  wr.heap[w.heap.size + 1]? = some (.cells (iv (stAt nx s l)).toArray 239 (0, 0)) ∧ wr.heap[w.heap.size]? = some (.cells (iv Z96).toArray 239 (0, 0)) ∧ Below w.heap.size w wr
theorem SSt.start (w : World) (nx : List (List Int)) : SSt w nx 0 0 ((w.alloc (.cells (iv Z96).toArray 239)).alloc (.cells (iv Z96).toArray 239)) := by
  have h1 := heap_alloc_new (w.alloc (.cells (iv Z96).toArray 239)) (.cells (iv Z96).toArray 239)
  rw [show (w.alloc (.cells (iv Z96).toArray 239)).heap.size = w.heap.size + 1 from by simp] at h1
  have b2 := (Below.refl _ (w.alloc (.cells (iv Z96).toArray 239))).alloc (Nat.le_refl _) (.cells (iv Z96).toArray 239)
  exact ⟨by rw [stAt_zero]; exact h1, (b2.block _ (by simp)).trans (heap_alloc_new w _), ((Below.refl _ w).alloc (Nat.le_refl _) _).alloc (by simp) _⟩
theorem SSt.store {w wr : World} {nx : List (List Int)} {s l : Nat} (h : SSt w nx s l wr) (hs : s < 24) (hl : l < 4) :
    (∃ u, wr.cell? ⟨w.heap.size + 1, l * 24 + s, none⟩ = some u) ∧ wr.frozen? ⟨w.heap.size + 1, l * 24 + s, none⟩ = false ∧ SSt w nx s (l + 1) (wr.setCell ⟨w.heap.size + 1, l * 24 + s, none⟩ (.int .i64 ((nx.getD s []).getD l 0))) := by
  obtain ⟨h1, h2, h3⟩ := h
  refine ⟨?_, frozen_of_row _ _ _ _ _ h1, ?_, (Below.heap_setCell wr _ _ _ (by simp)).trans h2, h3.setCell (by simp) _⟩
  · rw [cell_of_row _ _ _ _ _ _ h1, List.getElem?_toArray]
    exact ⟨_, iv_get _ _ (by rw [stAt_len]; omega)⟩
  · rw [heap_setCell_same _ _ _ _ _ _ h1, ← stAt_set nx s l hs hl]
    simp [iv, List.map_set]
set_option maxRecDepth 100000 in
set_option maxHeartbeats 3200000 in
theorem stepsOf_any (v : Value) (nx : List (List Int)) (st : Int) (w : World) (hn : (nx.length : Int) = st) (h24 : st ≤ 24) (hrow : nx.all (rowOk st) = true) (h : IsLL w v nx) :
    Calls Try.prog 201 #[v] w fun e w' => e = .returned (.agg (iv (stAll nx)).toArray) ∧ Below w.heap.size w w' := by
  have hzv := (zero_of_info zero_steps).1
  have hN24 : nx.length ≤ 24 := by omega
  obtain ⟨A, c, rfl, hin⟩ := h
  have HI := Lib.hid hin
  have HROW := Lib.hid hrow
  obtain ⟨N, hNe⟩ : ∃ N, N = nx.length := ⟨_, rfl⟩
  rw [← hNe] at hN24 ⊢
  have HN := Lib.hid hNe
  clear hin hn hrow hNe
  go_enter Try.func201, Try.ntmps201
  go_upto_region 2 with fail
  have HST := Lib.hid (SSt.start w nx)
  generalize (w.alloc (.cells (iv Z96).toArray 239)).alloc (.cells (iv Z96).toArray 239) = w3 at *
  clear hzv
  go_wp2_with fail
  go_loopw [10] (fun i wr => ∃ s : Nat, s ≤ N ∧ i = .int .i64 s ∧ SSt w nx s 0 wr) (fun i _ => N - (intOf i).toNat)
  case atStart => exact ⟨0, Nat.zero_le _, rfl, HST.out⟩
  case round =>
    obtain ⟨s, hs, rfl, hst⟩ := hrel
    obtain ⟨wo, rfl⟩ : ∃ wo : World, wo = wr := ⟨_, rfl⟩
    have HS := Lib.hid hst
    by_cases hlt : s < N
    · have hsn : s < nx.length := by rw [← HN.out]; exact hlt
      rcases HI.out with hn | ⟨x, rfl, hc⟩
      · rw [hn] at hsn; simp at hsn
      obtain ⟨u, c0, hu⟩ := hc s hsn
      have d0 := (hst.2.2.cell (lt_of_cell c0)).trans c0
      have hr4 : nx[s].length = 4 := by
        have hq := List.all_eq_true.1 HROW.out _ (List.getElem_mem hsn)
        unfold rowOk at hq
        rw [Bool.and_eq_true, decide_eq_true_iff] at hq
        exact hq.1
      have HU := Lib.hid hu
      obtain ⟨A2, c2, rfl, hcx⟩ := hu
      rw [hr4] at d0
      rcases hcx with hn | ⟨y, rfl, hz⟩
      · rw [hn] at hr4; simp at hr4
      have HZ : Hid (∀ l, l < 4 → ∀ W, Below w.heap.size w W → W.cell? (y.add l) = some (.int .i64 ((nx.getD s []).getD l 0))) := Lib.hid (fun l hl W hb => by
        rw [List.getD_eq_getElem?_getD (l := nx), List.getElem?_eq_getElem hsn, Option.getD_some, List.getD_eq_getElem?_getD, List.getElem?_eq_getElem (by omega), Option.getD_some]
        exact (hb.cell (lt_of_cell (hz l (by omega)))).trans (hz l (by omega)))
      have hs0 : (0 : Int) ≤ (s : Int) := by omega
      have hs1 : (s : Int) < (N : Int) := by omega
      have hs24 : (s : Int) < 24 := by omega
      clear c0 hc hz hr4 hsn hst HU
      go_wp2_with fail
      go_loopw [17] (fun i wr => ∃ l : Nat, l ≤ 4 ∧ i = .int .i64 l ∧ SSt w nx s l wr) (fun i _ => 4 - (intOf i).toNat)
      case atStart => exact ⟨0, by omega, rfl, HS.out⟩
      case round =>
        obtain ⟨l, hl, rfl, hst⟩ := hrel
        obtain ⟨wu, rfl⟩ : ∃ wu : World, wu = wr := ⟨_, rfl⟩
        by_cases hl4 : l < 4
        · obtain ⟨⟨u0, e0⟩, f0, hnx⟩ := hst.store (by omega) hl4
          have HNX := Lib.hid hnx
          have z0 := HZ.out l hl4 wu hst.2.2
          generalize (nx.getD s []).getD l 0 = z at *
          have hl0 : (0 : Int) ≤ (l : Int) := by omega
          have hl1 : (l : Int) < 4 := by omega
          clear hst hnx
          go_wp2_with fail
          go_roundw
          all_goals first | exact ⟨l + 1, by omega, by go_num, HNX.out⟩ | ((repeat apply Exists.intro); exact ⟨⟨l + 1, by omega, by go_num, HNX.out⟩, rfl⟩) | (simp [intOf]; done) | (simp [intOf]; omega) | omega
        · obtain rfl : l = 4 := by omega
          have HS4 : Hid (SSt w nx (s + 1) 0 wu) := Lib.hid (by unfold SSt at hst ⊢; rw [← stAt_next]; exact hst)
          clear hst
          go_wp2_with fail
          go_roundw
          all_goals first | exact ⟨s + 1, by omega, by go_num, HS4.out⟩ | ((repeat apply Exists.intro); exact ⟨⟨s + 1, by omega, by go_num, HS4.out⟩, rfl⟩) | (simp [intOf]; done) | (simp [intOf]; omega) | omega
    · obtain rfl : s = N := by omega
      obtain ⟨hP, hR, hB⟩ := hst
      rw [show stAt nx s 0 = stAll nx from by rw [HN.out]; exact stAt_all nx] at hP
      have hsm : (Try.prog.info? 239).map (·.size) = some (iv (stAll nx)).toArray.size := by rw [(zero_of_info zero_steps).2]; simp [iv, stAll_len]
      have hz : (iv Z96).toArray.size = (iv (stAll nx)).toArray.size := by simp [iv, stAll_len, Z96]
      have h1 : (iv (stAll nx)).toArray.all (·.oneCell') = true := all_oneCell_toArray (fun v hv => by obtain ⟨x, _, rfl⟩ := List.mem_map.1 hv; rfl)
      have HR9 : Hid ((wo.setRow w.heap.size (iv (stAll nx)).toArray).heap[w.heap.size]? = some (.cells (iv (stAll nx)).toArray 239 (0, 0))) := Lib.hid (setRow_heap wo w.heap.size _ _ _ _ hR)
      have HB9 : Hid (Below w.heap.size w (wo.setRow w.heap.size (iv (stAll nx)).toArray)) := Lib.hid (bSetRow hB (Nat.le_refl _) _)
      have HSZ := Lib.hid hsm
      have HH := Lib.hid (And.intro hP (And.intro hR (And.intro hz h1)))
      clear HS hB hP hR hz h1 hsm
      go_upto_region 11 with fail
      go_wp2_with (first
        | (with_reducible refine wpList_load_row rfl 239 _ rfl (w.heap.size + 1) rfl 239 _ _ _ HH.out.1 und_steps rfl HSZ.out ?_)
        | (with_reducible refine wpList_store_row rfl 239 _ _ rfl w.heap.size _ rfl rfl 239 _ HH.out.2.1 HSZ.out HH.out.2.2.1 HH.out.2.2.2 ?_))
      refine bodyPost_ret (v := .agg (iv (stAll nx)).toArray) (results_cell_row rfl _ _ w.heap.size 239 _ (0, 0) _ rfl HR9.out und_steps rfl HSZ.out) rfl ⟨rfl, HB9.out⟩
end Go.Proofs.Ytaffachjopjbgaa
namespace Go.Proofs
open Go.Shelf
def Try.lays143_ren : Go.Shelf.Ren := ⟨fun | 143 => 183 | 219 => 218 | 217 => 228 | 225 => 229 | 224 => 230 | 267 => 231 | 266 => 234 | 314 => 235 | n => n, fun | 9 => 9 | 3 => 3 | 4 => 4 | 5 => 5 | 46 => 267 | 146 => 271 | 51 => 270 | n => n, fun | 1 => 0 | n => n⟩
theorem Try.lays143 : Go.Proofs.Lays.n143 Try.prog Try.lays143_ren := {
  mixed := by kernel_rfl
  f143 := Try.func183.trans (congrArg some (by kernel_rfl))
  f217 := Try.func228.trans (congrArg some (by kernel_rfl))
  f219 := Try.func218.trans (congrArg some (by kernel_rfl))
  f224 := Try.func230.trans (congrArg some (by kernel_rfl))
  f225 := Try.func229.trans (congrArg some (by kernel_rfl))
  f266 := Try.func234.trans (congrArg some (by kernel_rfl))
  f267 := Try.func231.trans (congrArg some (by kernel_rfl))
  f314 := Try.func235.trans (congrArg some (by kernel_rfl))
  t3 := Try.underlying3
  a3 := Try.isAgg3
  z3 := Try.sizeOf3
  v3 := Try.zeroValue3
  t4 := Try.underlying4
  a4 := Try.isAgg4
  z4 := Try.sizeOf4
  v4 := Try.zeroValue4
  t5 := Try.underlying5
  a5 := Try.isAgg5
  z5 := Try.sizeOf5
  v5 := Try.zeroValue5
  t9 := Try.underlying9
  a9 := Try.isAgg9
  z9 := Try.sizeOf9
  v9 := Try.zeroValue9
  t46 := Try.underlying267
  a46 := Try.isAgg267
  z46 := Try.sizeOf267
  v46 := Try.zeroValue267
  t51 := Try.underlying270
  a51 := Try.isAgg270
  z51 := Try.sizeOf270
  v51 := Try.zeroValue270
  t146 := Try.underlying271
  a146 := Try.isAgg271
  z146 := Try.sizeOf271
  v146 := Try.zeroValue271
  g1 := by kernel_rfl }
open Go.RowKit Go.Lib in
theorem Try.strings_Index_one (s : ByteArray) (c : UInt8) (w : World) :
    Calls Try.prog 183 #[.string s, .string ⟨#[c]⟩] w fun e w' => e = .returned (.int .i64 (Lib.indexByte s.data.toList c)) ∧ w' = w := Any.strings_Index_one Try.lays143 s c w
def Try.lays100_ren : Go.Shelf.Ren := ⟨fun | 100 => 166 | 207 => 207 | n => n, fun | 9 => 9 | 4 => 4 | 3 => 3 | n => n, fun | n => n⟩
theorem Try.lays100 : Go.Proofs.Lays.n100 Try.prog Try.lays100_ren := {
  mixed := by kernel_rfl
  f100 := Try.func166.trans (congrArg some (by kernel_rfl))
  f207 := Try.func207.trans (congrArg some (by kernel_rfl))
  t3 := Try.underlying3
  a3 := Try.isAgg3
  z3 := Try.sizeOf3
  v3 := Try.zeroValue3
  t4 := Try.underlying4
  a4 := Try.isAgg4
  z4 := Try.sizeOf4
  v4 := Try.zeroValue4
  t9 := Try.underlying9
  a9 := Try.isAgg9
  z9 := Try.sizeOf9
  v9 := Try.zeroValue9 }
open Go.RowKit Go.Lib in
theorem Try.strings_HasSuffix (s p : ByteArray) (w : World) (hs : s.size ≤ 9223372036854775807) :
    Calls Try.prog 166 #[.string s, .string p] w fun e w' => e = .returned (.bool (Lib.hasSuffix s.data.toList p.data.toList)) ∧ w' = w := Any.strings_HasSuffix Try.lays100 s p w hs

end Go.Proofs
namespace Go.Proofs.Ytaffachjopjbgaa
open Go.RowKit
open Wd
set_option linter.unusedVariables false
theorem idx_letter (b : UInt8) (d : Nat) (hb : (b.toNat : Int) = (d : Int) + 97) (hd : d < 4) (w : World) :
    Calls Try.prog 183 #[.string ⟨#[97, 98, 99, 100]⟩, .string ⟨#[b]⟩] w fun e w' => e = .returned (.int .i64 (d : Int)) ∧ w' = w := by
  refine (Try.strings_Index_one ⟨#[97, 98, 99, 100]⟩ b w).mono fun e w' he => ⟨he.1.trans (ret_int ?_), he.2⟩
  obtain rfl : b = UInt8.ofNat (d + 97) := by
    apply UInt8.toNat_inj.1
    simp
    omega
  match d, hd with
  | 0, _ => rfl
  | 1, _ => rfl
  | 2, _ => rfl
  | 3, _ => rfl
end Go.Proofs.Ytaffachjopjbgaa
namespace Go.Proofs.Ytaffachjopjbgaa
open Go.RowKit
open Wd
set_option linter.unusedVariables false
theorem step_load_mid {P : Program} {ops : Array Oper} {o : Oper} {a : Act} {w : World} {K : Act → World → Prop} {Q : Exit → Act → World → Prop} {E : Prop} (hgd : o.guard = none) (ty : TypeId) (x : Operand) (ho : o.op = .load ty x)
    (b off : Nat) (hx : a.eval x = .pointer (some ⟨b, off, none⟩)) (cs : List Value) (d : TypeDesc) (hc : w.rangeAt b off cs)
    (hu : P.underlying ty = some d) (hd : d.isRow = true) (hi : (P.info? ty).map (·.size) = some cs.length)
    (h : K (a.put o.dst (.agg cs.toArray)) w) : if Region.wanted o (yielded ops a.tmps) = true then Oper.wp P o a w K Q else E := by
  rw [if_pos (by simp [Region.wanted, hgd])]
  exact wp_load_mid ty x ho b off hx cs d hc hu hd hi h
theorem step_store_mid {P : Program} {ops : Array Oper} {o : Oper} {a : Act} {w : World} {K : Act → World → Prop} {Q : Exit → Act → World → Prop} {E : Prop} (hgd : o.guard = none) (ty : TypeId) (x y : Operand) (ho : o.op = .store ty x y)
    (b off : Nat) (cells : Array Value) (hx : a.eval x = .pointer (some ⟨b, off, none⟩)) (hy : a.eval y = .agg cells)
    (ht : w.there b off cells.size) (hi : (P.info? ty).map (·.size) = some cells.size) (h1 : cells.all (·.oneCell') = true)
    (h : K (a.put o.dst undef) (w.setCells b off cells.toList)) : if Region.wanted o (yielded ops a.tmps) = true then Oper.wp P o a w K Q else E := by
  rw [if_pos (by simp [Region.wanted, hgd])]
  exact wp_store_mid ty x y ho b off cells hx hy ht hi h1 h
theorem takeH {P : Program} {md : Region.Mode} {ops : Array Oper} {Q : Exit → Act → World → Prop} {S : World → Prop} {i : Nat} {dst : Option Tmp} {op : Op} {ty : TypeId} {pos : String} {aft : Array Edge} {v : Value} {fuel : Nat} {listed : Array Bool} {a : Act} {w : World}
    (hi : ops[i]? = some ⟨dst, op, ty, pos, aft, none⟩) (hs : Region.noSelect ops = true) (hf : Region.free md ops listed i = true) (hr : (Region.ready md ops listed).contains i = true)
    (hQ : ∀ c a w, Q (.panic c) (a.put dst v) w → Q (.panic c) a w) (hy : YieldsIf P ops S ⟨dst, op, ty, pos, aft, none⟩ v a) (hS : S w)
    (h : wpAnyH P md ops Q S fuel (listed.setIfInBounds i true) (a.put dst v) w) : wpAnyH P md ops Q S (fuel + 1) listed a w :=
  wpAnyH_take hi hs hf hr hQ hy hS h
def rowD (d : TypeDesc) : Bool := match d with | .struct _ | .array _ _ => true | _ => false
theorem load_row' {P : Program} (w : World) (g : Nat) (t ty : TypeId) (cs : Array Value) (fr : Nat × Nat) (d : TypeDesc) (hd : rowD d = true) (hg : w.heap[g]? = some (.cells cs t fr)) (hu : P.underlying ty = some d) (hi : (P.info? ty).map (·.size) = some cs.size) :
    (loadVar ty ⟨g, 0, none⟩).run P w = .ok (.agg cs) w := by
  refine run_loadVar_row w g t ty cs fr d hg hu ?_ hi
  cases d <;> simp_all [rowD]
theorem results_row_slot {P : Program} {fn : Func} {p q : Tmp} {ty : TypeId} (h : fn.results = #[.cell p ty, .tmp q]) (tmps : Array Value) (w : World) (g : Nat) (t : TypeId) (cs : Array Value) (fr : Nat × Nat) (d : TypeDesc)
    (hp : tmps.getD p undef = .pointer (some ⟨g, 0, none⟩)) (hg : w.heap[g]? = some (.cells cs t fr))
    (hu : P.underlying ty = some d) (hd : rowD d = true) (hi : (P.info? ty).map (·.size) = some cs.size) (b : Value) (hb : tmps.getD q undef = b) :
    (results fn tmps).run P w = .ok (.tuple #[.agg cs, b]) w := by
  have hp' : tmps[p]?.getD undef = .pointer (some ⟨g, 0, none⟩) := by simpa using hp
  have hb' : tmps[q]?.getD undef = b := by simpa using hb
  simp [results, h, hp', hb', asAddr, load_row' w g t ty cs fr d hd hg hu hi]
theorem wpList_load_rowD {P : Program} {ops : Array Oper} {rest : List Oper} {o : Oper} {a : Act} {w : World} {Q : Exit → Act → World → Prop} {d : TypeDesc} (hd : rowD d = true) (hgd : o.guard = none) (ty : TypeId) (x : Operand) (ho : o.op = .load ty x)
    (g : Nat) (hx : a.eval x = .pointer (some ⟨g, 0, none⟩)) (t : TypeId) (cs : Array Value) (fr : Nat × Nat) (hg : w.heap[g]? = some (.cells cs t fr))
    (hu : P.underlying ty = some d) (hi : (P.info? ty).map (·.size) = some cs.size)
    (h : wpList P ops Q rest (a.put o.dst (.agg cs)) w) : wpList P ops Q (o :: rest) a w := by
  refine wpList_load_row hgd ty x ho g hx t cs fr d hg hu ?_ hi h
  cases d <;> simp_all [rowD]
theorem grown_setRow (w : World) (R : Nat) (cs : Array Value) : w.grownBy (w.setRow R cs) (some R) :=
  ⟨rfl, rfl, rfl, by rw [size_setRow]; exact Nat.le_refl _, fun i hi hne => by
    show (w.heap.modify R _)[i]? = _
    rw [Array.getElem?_modify, if_neg (fun e => hne (by rw [e]))]⟩
theorem und_row {t : TypeId} (h : (Try.prog.underlying t).map rowD = some true) : ∃ d, Try.prog.underlying t = some d ∧ rowD d = true := by
  cases hq : Try.prog.underlying t with
  | none => simp [hq] at h
  | some d => exact ⟨d, rfl, by rw [hq] at h; simpa using h⟩
theorem step_append_fits {P : Program} {ops : Array Oper} {o : Oper} {a : Act} {w : World} {K : Act → World → Prop} {Q : Exit → Act → World → Prop} {E : Prop}
    (hg : o.guard = none) (s x : Operand) (t : TypeId) (hop : o.op = Op.call { callee := Callee.builtin Builtin.append, args := #[s, x], argTypes := #[t, t] })
    (base : Nat) (e : TypeId) (i : TypeInfo) (size : Nat) (h1 : P.underlying t = some (.slice e)) (h2 : P.info? e = some i) (h4 : i.size = size)
    (g k cap : Nat) (xs : List Value) (hs : a.eval s = .slice (some ⟨g, 0, none⟩) k cap) (hown : w.ownsRow base e size (.slice (some ⟨g, 0, none⟩) k cap) k xs) (ad : Addr) (m c : Nat) (news : List Value) (hx : a.eval x = .slice (some ad) m c) (hn : news.length = m * size)
    (hc : ∀ j u, news[j]? = some u → w.cell? (ad.add j) = some u) (h1c : ∀ u ∈ news, u.oneCell' = true) (b1 : k + m ≤ cap)
    (hK : ∀ w', w'.ownsRow base e size (.slice (some ⟨g, 0, none⟩) (k + m) cap) (k + m) (xs ++ news) → w.grownBy w' (some g) → K (a.put o.dst (.slice (some ⟨g, 0, none⟩) (k + m) cap)) w') :
    if Region.wanted o (yielded ops a.tmps) = true then Oper.wp P o a w K Q else E := by
  have hw : Region.wanted o (yielded ops a.tmps) = true := by simp [Region.wanted, hg]
  rw [if_pos hw]
  obtain ⟨w', hrun, r1, r2⟩ := run_append_fits (P := P) w base t o.type e i size h1 h2 h4 g k cap xs hown ad m c news hn hc h1c b1
  unfold Oper.wp
  simp [execOp, hop, resolve, invoke, builtin, hs, hx, hrun, Result.andThen]
  exact hK w' r1 r2
theorem cells_below {w w' : World} (hb : Below w.heap.size w w') : ∀ p v, w.cell? p = some v → w'.cell? p = some v := fun p v h => (hb.cell (lt_of_cell h)).trans h
theorem news4 (w : World) (a b c d : Int) (t : TypeId) : ∀ j u, [Value.int .i64 a, .int .i64 b, .int .i64 c, .int .i64 d][j]? = some u → (w.alloc (.cells #[.int .i64 a, .int .i64 b, .int .i64 c, .int .i64 d] t)).cell? ((⟨w.heap.size, 0, none⟩ : Addr).add j) = some u :=
  World.news_of_block (cs := #[.int .i64 a, .int .i64 b, .int .i64 c, .int .i64 d]) (t := t) (fr := (0, 0)) (heap_alloc_new w _)
theorem one4 (a b c d : Int) : ∀ u ∈ [Value.int .i64 a, .int .i64 b, .int .i64 c, .int .i64 d], u.oneCell' = true := by
  intro u hu
  simp only [List.mem_cons, List.not_mem_nil, or_false] at hu
  rcases hu with rfl | rfl | rfl | rfl <;> rfl
theorem tt_ll (v : Value) (w : World) : (Instr.typeAssert (.iface 211 v) 194 211 true).run Try.prog w = .ok (.tuple #[v, .bool true]) w := by kernel_rfl
theorem tt_pl (v : Value) (w : World) : (Instr.typeAssert (.iface 198 v) 194 211 true).run Try.prog w = .ok (.tuple #[.agg #[.string ⟨#[]⟩, .int .i64 0, .int .i64 0], .bool false]) w := by kernel_rfl
theorem tt_pp (v : Value) (w : World) : (Instr.typeAssert (.iface 198 v) 194 198 true).run Try.prog w = .ok (.tuple #[v, .bool true]) w := by kernel_rfl
theorem tt_lp (v : Value) (w : World) : (Instr.typeAssert (.iface 211 v) 194 198 true).run Try.prog w = .ok (.tuple #[.agg #[.string ⟨#[]⟩, .int .i64 0, .int .i64 0], .bool false]) w := by kernel_rfl
/-- a block of four that is written whole -/
theorem there4 {w : World} {V : Nat} {t : TypeId} {a b c d : Value} (h : w.heap[V]? = some (.cells #[a, b, c, d] t (0, 0))) : w.there V 0 4 := by
  intro j hj
  refine ⟨?_, frozen_of_row _ _ _ _ _ h⟩
  rw [cell_of_row _ _ _ _ _ _ h]
  obtain rfl | rfl | rfl | rfl : j = 0 ∨ j = 1 ∨ j = 2 ∨ j = 3 := by omega
  all_goals rfl
end Go.Proofs.Ytaffachjopjbgaa
namespace Go.Proofs.Ytaffachjopjbgaa.len
open Go.RowKit
open Wd
set_option linter.unusedVariables false

/-- the join of lengths -/
abbrev joinV : Value := .func (.func 211) #[] #[]

set_option maxRecDepth 100000 in
set_option maxHeartbeats 6400000 in
/-- a pair, out of its two rules -/
theorem meas_pair (B bm br bj bf M : Nat) (gs : List Rl) (V : Nat → Int) (k a b : Nat) (w : World) (hk : k < gs.length) (hn : gs.length ≤ 1048576) (hI : MInv B bm br bj bf M joinV gs V w)
    (h0 : gs[k].L.size = 0) (ha : gs[k].l = a) (hb : gs[k].r = b) (hak : a < k) (hbk : b < k)
    (hz : w.cell? ⟨M, k, none⟩ = some (.int .i64 0))
    (hA : ∀ W, MInv B bm br bj bf M joinV gs V W → MeasCalls B bm br bj bf M joinV gs V a W)
    (hB : ∀ W, MInv B bm br bj bf M joinV gs V W → MeasCalls B bm br bj bf M joinV gs V b W)
    (hJ : ∀ W, Calls Try.prog 211 #[.int .i64 (V a), .int .i64 (V b)] W fun e w' => e = .returned (.int .i64 (V k)) ∧ W = w') :
    MeasCalls B bm br bj bf M joinV gs V k w := by
  have hst := hI.1
  have hm1 := hst.m
  obtain ⟨v, hv, A, c, rfl, hr⟩ := hst.r
  rcases hr with hr | ⟨g, rfl, hg, hcc⟩
  · rw [hr] at hk; simp at hk
  obtain ⟨a0, a1, a2⟩ := rules_cells hcc hk
  have HK := Lib.hid (fun W => kind_pair gs[k] h0 W)
  have he := empty_arr h0
  rw [ha] at a1
  rw [hb] at a2
  have HX := Lib.hid (show agg3 gs[k] = .agg #[.string ⟨#[]⟩, .int .i64 a, .int .i64 b] by unfold agg3; rw [he, ha, hb])
  have HTP := ta_pp
  have HTL := ta_pl
  obtain ⟨n, hng⟩ : ∃ n, n = gs.length := ⟨_, rfl⟩
  have HN := Lib.hid hng
  have hkn : k < n := by omega
  rw [← hng] at hm1 hv hn
  rw [he] at a0
  rw [HX.out] at HK
  have HI := Lib.hid hI
  have HA := Lib.hid hA
  have HB := Lib.hid hB
  have HJ := Lib.hid hJ
  have HS := Lib.hid hst
  clear hng hcc ha hb he hI hst hA hB hJ
  go_enter Try.func226, Try.ntmps226
  go_wp2_with fail
  refine (HK.out _).mono ?_
  rintro e w1 ⟨rfl, hB1⟩
  have HI1 := Lib.hid (HI.out.below hB1)
  have hm2 := HI1.out.1.m
  rw [← HN.out] at hm2
  have hj2 := HI1.out.1.j
  have hf2 := HI1.out.1.f
  have l1 := lt_of_cell hm2
  have l2 := lt_of_cell hj2
  have l3 := lt_of_cell hf2
  clear a0 a1 a2 hv hm1 hz
  go_wp2_with fail
  have hB2 := hB1.alloc hB1.size (.cells #[.string ⟨#[]⟩, .int .i64 a, .int .i64 b] 198)
  have HI2 := Lib.hid (HI.out.below hB2)
  obtain ⟨K, hKe⟩ : ∃ K, K = w1.heap.size := ⟨_, rfl⟩
  have c1 : (w1.alloc (.cells #[.string ⟨#[]⟩, .int .i64 a, .int .i64 b] 198)).cell? ⟨K, 1, none⟩ = some (.int .i64 a) := by rw [hKe, cell_of_row _ _ _ _ _ _ (heap_alloc_new w1 _)]; rfl
  have c2 : (w1.alloc (.cells #[.string ⟨#[]⟩, .int .i64 a, .int .i64 b] 198)).cell? ⟨K, 2, none⟩ = some (.int .i64 b) := by rw [hKe, cell_of_row _ _ _ _ _ _ (heap_alloc_new w1 _)]; rfl
  have hKM : K ≠ M := by
    obtain ⟨z, hz⟩ := (HI1.out.slot hk).1
    have := lt_of_cell hz
    simp only at this
    omega
  rw [← hKe]
  generalize w1.alloc (.cells #[.string ⟨#[]⟩, .int .i64 a, .int .i64 b] 198) = w2 at *
  have HH := Lib.hid (fun w' (h : MInv B bm br bj bf M joinV gs V w') (hg : w2.grownBy w' (some M)) => h.held hg HN.out hKM c1 c2)
  have HS2 := Lib.hid (HH.out _ HI2.out (World.grownBy.refl _ _))
  clear hm2 hj2 hf2 l1 l2 l3 hKe
  obtain ⟨t1, t2, t3, t4, t5⟩ := HS2.out
  clear c1 c2
  go_region_held3 (fun w' => w'.cell? ⟨bm, 0, none⟩ = some (.slice (some ⟨M, 0, none⟩) n n) ∧ w'.cell? ⟨bj, 0, none⟩ = some (.func (.func 211) #[] #[]) ∧ w'.cell? ⟨bf, 0, none⟩ = some (measV bm br bj bf) ∧ w'.cell? ⟨K, 1, none⟩ = some (.int .i64 a) ∧ w'.cell? ⟨K, 2, none⟩ = some (.int .i64 b))
    (first | go_keep | exact hSA | exact hSB | exact HSC.out)
    (first
      | (go_at_call_of 226 (Value.int .i64 a); refine (HA.out _ (HI2.out.drewN _)).mono ?_; rintro e wA ⟨rfl, hIA, hgA⟩; have hSA := HH.out _ hIA (grownBy_undrew hgA))
      | (go_at_call_of 226 (Value.int .i64 b); refine (HB.out _ hIA).mono ?_; rintro e wB ⟨rfl, hIB, hgB⟩; have hSB := HH.out _ hIB (gbTrans (grownBy_undrew hgA) hgB); obtain ⟨⟨zB, hzB⟩, hfB⟩ := hIB.slot hk; have hstB := Lib.hid (hIB.store (k := k)); have hgB2 := Lib.hid (gbTrans (gbTrans (grownBy_undrew hgA) hgB) hstB.out.2); have HSC := Lib.hid (HH.out _ hstB.out.1 hgB2.out))
      | (go_at_call 211; refine (HJ.out _).mono ?_; rintro e wJ ⟨rfl, rfl⟩))
  have q1 := HSC.out.1
  have q2 : (wB.setCell ⟨M, k, none⟩ (.int .i64 (V k))).cell? ⟨M, k, none⟩ = some (.int .i64 (V k)) := World.cell?_setCell_same _ _ _ hzB
  have HF := Lib.hid (gbTrans (gbOf hB2 (some M)) hgB2.out)
  clear hSA hSB t1 t2 t3 t4 t5 hzB hfB hgA hgB hIA hIB
  go_wp2_with fail
  go_ret
  exact ⟨rfl, hstB.out.1, HF.out⟩

theorem join_any (a b : Int) (w : World) (h1 : 1 ≤ a) (h2 : a ≤ 1000000000000000) (h3 : 1 ≤ b) (h4 : b ≤ 1000000000000000) :
    Calls Try.prog 211 #[.int .i64 a, .int .i64 b] w fun e w' => e = .returned (.int .i64 (a + b)) ∧ w = w' := by
  go_enter Try.func211, Try.ntmps211
  go_wp2
  go_ret
  exact ⟨rfl, rfl⟩

/-- the length of a word, out of those below -/
def lenV (gs : List Rl) (j : Nat) : Int := (lens gs).getD j 0
theorem meas_any (B bm br bj bf M : Nat) (gs : List Rl) (hn : gs.length ≤ 1048576) : ∀ m k, k < m → (hk : k < gs.length) → UpTo gs k → gs[k].ok k = true → ∀ W, MInv B bm br bj bf M joinV gs (lenV gs) W → MeasCalls B bm br bj bf M joinV gs (lenV gs) k W
  | 0, k, hm, _, _, _, _, _ => by omega
  | m + 1, k, hm, hk, hu, hok, W, hI => by
    have hpos : 1 ≤ lenV gs k := lens_pos hk fun j hj hjk => by
      by_cases e : j = k
      · subst e; exact hok
      · exact (hu j hj (by omega)).1
    obtain ⟨hst, mem, hl, hmem, hown⟩ := hI
    rcases hmem k (by omega) with h2 | h2
    · by_cases h0 : gs[k].L.size = 0
      · obtain ⟨a, b, ha, hb, hak, hbk, hsum, pa1, pa2, pb1, pb2⟩ := lens_next hk hu hok h0
        have hz : W.cell? ⟨M, k, none⟩ = some (.int .i64 0) := by rw [hown.cellAt k (by omega), iv_at (by omega), h2]
        refine meas_pair B bm br bj bf M gs (lenV gs) k a b W hk hn ⟨hst, mem, hl, hmem, hown⟩ h0 ha hb hak hbk hz ?_ ?_ ?_
        · exact fun W' hI' => meas_any B bm br bj bf M gs hn m a (by omega) (by omega) (fun j hj hja => hu j hj (by omega)) (hu a (by omega) hak).1 W' hI'
        · exact fun W' hI' => meas_any B bm br bj bf M gs hn m b (by omega) (by omega) (fun j hj hjb => hu j hj (by omega)) (hu b (by omega) hbk).1 W' hI'
        · intro W'
          have := join_any (lenV gs a) (lenV gs b) W' pa1 pa2 pb1 pb2
          rw [← show lenV gs k = lenV gs a + lenV gs b from hsum] at this
          exact this
      · exact (meas_letter B bm br bj bf M joinV gs (lenV gs) k W hk hn hst mem hl hmem hown (vals_letter _ gs k hk h0) h2 h0).mono fun e w' h => h.inv hst
    · exact (meas_known B bm br bj bf M joinV gs (lenV gs) k W hk hn hst mem hl hmem hown (by omega) h2).mono fun e w' h => h.inv hst
end Go.Proofs.Ytaffachjopjbgaa.len
namespace Go.Proofs.Ytaffachjopjbgaa.len
open Go.RowKit
open Wd
set_option linter.unusedVariables false

theorem made_inv {w w1 : World} {B : Nat} {gs : List Rl} {A : Option Addr} {c n t1 t2 t3 t4 : Nat} (V : Nat → Int) (hn : n = gs.length) (hBs : B ≤ w.heap.size)
    (hr : gs = [] ∨ ∃ g, A = some ⟨g, 0, none⟩ ∧ g < B ∧ ∀ j u, (rv gs)[j]? = some u → w.cell? ⟨g, j, none⟩ = some u)
    (hown : w1.ownsRow w.heap.size 2 1 (.slice (some ⟨w.heap.size + 1 + 1, 0, none⟩) n n) n (iv (List.replicate n 0)))
    (hg : ((w.alloc (.cells #[.slice A n c] t1)).alloc (.cells #[joinV] t2)).grownBy w1 none) :
    w.heap.size + 1 + 1 < w1.heap.size ∧ Below w.heap.size w ((w1.alloc (.cells #[.slice (some ⟨w.heap.size + 1 + 1, 0, none⟩) n n] t3)).alloc (.cells #[measV w1.heap.size w.heap.size (w.heap.size + 1) (w1.heap.size + 1)] t4)) ∧
    MInv B w1.heap.size w.heap.size (w.heap.size + 1) (w1.heap.size + 1) (w.heap.size + 1 + 1) joinV gs V ((w1.alloc (.cells #[.slice (some ⟨w.heap.size + 1 + 1, 0, none⟩) n n] t3)).alloc (.cells #[measV w1.heap.size w.heap.size (w.heap.size + 1) (w1.heap.size + 1)] t4)) := by
  have hlt : w.heap.size + 1 + 1 < w1.heap.size := (hown.lt _ rfl).2
  have hB1 := below_of_grown hg
  have hBw : Below w.heap.size w w1 := (((Below.refl _ w).alloc (Nat.le_refl _) _).alloc (by simp) _).trans (hB1.mono (by simp; omega))
  obtain ⟨o1, ho1⟩ : ∃ o1, o1 = Obj.cells #[.slice (some ⟨w.heap.size + 1 + 1, 0, none⟩) n n] t3 := ⟨_, rfl⟩
  obtain ⟨o2, ho2⟩ : ∃ o2, o2 = Obj.cells #[measV w1.heap.size w.heap.size (w.heap.size + 1) (w1.heap.size + 1)] t4 := ⟨_, rfl⟩
  have hBf : Below w1.heap.size w1 ((w1.alloc o1).alloc o2) := ((Below.refl _ w1).alloc (Nat.le_refl _) _).alloc (by simp) _
  have c1 : ((w1.alloc o1).alloc o2).cell? ⟨w1.heap.size, 0, none⟩ = some (.slice (some ⟨w.heap.size + 1 + 1, 0, none⟩) n n) := by
    rw [((Below.refl _ (w1.alloc o1)).alloc (Nat.le_refl _) o2).cell (p := ⟨w1.heap.size, 0, none⟩) (by simp), ho1]; exact cell_new _ _ _
  have c2 : ((w1.alloc o1).alloc o2).cell? ⟨w1.heap.size + 1, 0, none⟩ = some (measV w1.heap.size w.heap.size (w.heap.size + 1) (w1.heap.size + 1)) := by
    have := cell_new (w1.alloc o1) (measV w1.heap.size w.heap.size (w.heap.size + 1) (w1.heap.size + 1)) t4
    rw [ho2]
    simp at this ⊢
  have c3 : ((w1.alloc o1).alloc o2).cell? ⟨w.heap.size, 0, none⟩ = some (.slice A n c) := by
    rw [hBf.cell (p := ⟨w.heap.size, 0, none⟩) (by simp; omega), hB1.cell (p := ⟨w.heap.size, 0, none⟩) (by simp; omega), ((Below.refl _ (w.alloc _)).alloc (Nat.le_refl _) _).cell (p := ⟨w.heap.size, 0, none⟩) (by simp)]; exact cell_new _ _ _
  have c4 : ((w1.alloc o1).alloc o2).cell? ⟨w.heap.size + 1, 0, none⟩ = some joinV := by
    rw [hBf.cell (p := ⟨w.heap.size + 1, 0, none⟩) (by simp; omega), hB1.cell (p := ⟨w.heap.size + 1, 0, none⟩) (by simp)]
    have := cell_new (w.alloc (.cells #[.slice A n c] t1)) joinV t2
    simp at this ⊢
  have hBa := hBw.trans (hBf.mono (by omega))
  have hoF := own_below (own_below hown ((Below.refl _ w1).alloc (Nat.le_refl _) o1) (Nat.le_refl _)) ((Below.refl _ (w1.alloc o1)).alloc (Nat.le_refl _) o2) (Nat.le_refl _)
  rw [← ho1, ← ho2]
  refine ⟨hlt, hBa, ⟨by rw [← hn]; exact c1, ⟨_, c3, A, c, by rw [hn], ?_⟩, c4, c2, by omega, by omega, by omega, by omega, by omega, Nat.le_trans hBs hBa.size⟩, List.replicate n 0, by simp [hn], MemOk.zero _ _, by rw [← hn]; exact own_lower hoF hBs⟩
  rcases hr with hr | ⟨g, hA, hg', hc⟩
  · exact .inl hr
  · exact .inr ⟨g, hA, hg', fun j u hu => (hBa.cell (p := ⟨g, j, none⟩) (Nat.lt_of_lt_of_le hg' hBs)).trans (hc j u hu)⟩
theorem made_i64 (n : Nat) : (madeCells #[.int .i64 0] n).toList = iv (List.replicate n 0) := by
  apply List.ext_getElem
  · simp [madeCells, iv]
  · intro i h1 h2
    simp [madeCells, iv, Nat.mod_one]

set_option maxRecDepth 100000 in
set_option maxHeartbeats 3200000 in
/-- impl.measured at the join of lengths -/
theorem measured_any (B : Nat) (v : Value) (gs : List Rl) (w : World) (hn : gs.length ≤ 1048576) (hBs : B ≤ w.heap.size) (hr : RulesU B w v gs) :
    Calls Try.prog 210 #[v, joinV] w fun e w' => ∃ bm br bj bf M, e = .returned (measV bm br bj bf) ∧ (w.heap.size ≤ bm ∧ w.heap.size ≤ br ∧ w.heap.size ≤ bj ∧ w.heap.size ≤ bf ∧ w.heap.size ≤ M) ∧ MInv B bm br bj bf M joinV gs (lenV gs) w' ∧ Below w.heap.size w w' := by
  obtain ⟨i0, hi, hz0, hz1, hz2⟩ := info_parts Try.info_i64
  obtain ⟨A, c, rfl, hr⟩ := hr
  obtain ⟨n, hng⟩ : ∃ n, n = gs.length := ⟨_, rfl⟩
  rw [← hng] at hn ⊢
  have HN := Lib.hid hng
  have HR := Lib.hid hr
  have HBS := Lib.hid hBs
  clear hng hr hBs
  go_enter Try.func210, Try.ntmps210
  go_wp2_with (refine wpList_make_full _ rfl _ _ 22 rfl w.heap.size 2 i0 (.int .i64 0) 1 Try.underlying22 hi hz0 hz1 .i64 .i64 _ _ n rfl rfl rfl rfl (by rw [hz2]; omega) (by unfold maxLen; omega) (by simp; omega) ?_)
  intro w1 hown hg
  rw [made_i64] at hown
  have hm := made_inv (t3 := 22) (t4 := 120) (lenV gs) HN.out HBS.out HR.out hown hg
  have HM := Lib.hid hm
  clear hown hg hm
  go_wp2
  go_ret
  obtain ⟨h1, h2, h3⟩ := HM.out
  exact ⟨_, _, _, _, _, rfl, ⟨by omega, by omega, by omega, by omega, by omega⟩, h3, h2⟩

theorem mt_p (v : Value) (w : World) : (method 391 198 v "loop.example/g01133/impl.fits").run Try.prog w = .ok (254, v) w := by kernel_rfl
theorem mt_l (v : Value) (w : World) : (method 391 211 v "loop.example/g01133/impl.fits").run Try.prog w = .ok (256, v) w := by kernel_rfl
/-- a store elsewhere -/
theorem MInv.far {B bm br bj bf M : Nat} {jv : Value} {gs : List Rl} {V : Nat → Int} {w : World} (h : MInv B bm br bj bf M jv gs V w) (L k : Nat) (u : Value) (hL : B ≤ L) (h1 : L < bm) (h2 : L < br) (h3 : L < bj) (h4 : L < bf) (h5 : L < M) :
    MInv B bm br bj bf M jv gs V (w.setCell ⟨L, k, none⟩ u) := by
  obtain ⟨hs, mem, hl, hm, ho⟩ := h
  have hc : ∀ (b o : Nat) v, L ≠ b → w.cell? ⟨b, o, none⟩ = some v → (w.setCell ⟨L, k, none⟩ u).cell? ⟨b, o, none⟩ = some v := fun b o v hne hc => by
    rw [World.cell?_setCell_other _ _ _ _ (fun e => hne (congrArg Addr.block e))]; exact hc
  obtain ⟨v, hv, A, c, rfl, hr⟩ := hs.r
  refine ⟨⟨hc _ _ _ (by omega) hs.m, ⟨_, hc _ _ _ (by omega) hv, A, c, rfl, ?_⟩, hc _ _ _ (by omega) hs.j, hc _ _ _ (by omega) hs.f, hs.nm, hs.nr, hs.nj, hs.nf, hs.hB, by simpa [World.setCell] using hs.hs⟩, mem, hl, hm, ?_⟩
  · rcases hr with hr | ⟨g, hA, hg', hcc⟩
    · exact .inl hr
    · exact .inr ⟨g, hA, hg', fun j u' hu => hc _ _ _ (by omega) (hcc j u' hu)⟩
  · exact World.ownsRow.kept ho (only_setCell (World.grownBy.refl w (some L)) (.inl rfl) u) (.inr (by simp [Value.ownBlock]; omega))
/-- the lengths so far, and zeros behind them -/
def lensK (gs : List Rl) (k : Nat) : List Int := lens (gs.take k) ++ List.replicate (gs.length - k) 0
theorem lensK_len (gs : List Rl) (k : Nat) (h : k ≤ gs.length) : (lensK gs k).length = gs.length := by
  simp [lensK, lens_len]; omega
theorem lensK_set (gs : List Rl) (k : Nat) (h : k < gs.length) : (lensK gs k).set k (lenV gs k) = lensK gs (k + 1) := by
  unfold lensK
  have h1 : (lens (gs.take k)).length = k := by rw [lens_len]; simp; omega
  rw [List.set_append_right _ _ (by omega), h1, Nat.sub_self, show gs.length - k = (gs.length - (k + 1)) + 1 from by omega, List.replicate_succ, List.set_cons_zero, lens_snoc h, List.append_assoc]
  rfl
theorem lensK_all (gs : List Rl) : lensK gs gs.length = lens gs := by simp [lensK]
theorem lensK_zero (gs : List Rl) : lensK gs 0 = List.replicate gs.length 0 := by simp [lensK, lens, vals, valsOn]
/-- all rules fit up to a number -/
def FitTo (gs : List Rl) (k : Nat) : Prop := ∀ j (h : j < gs.length), j < k → gs[j].ok j = true

set_option maxRecDepth 100000 in
set_option maxHeartbeats 3200000 in
theorem vlen_any (v : Value) (gs : List Rl) (w : World) (hf : FewR gs) (hr : Rules w v gs) :
    Calls Try.prog 173 #[.agg #[v]] w (LensPost gs w) := by
  have hR0 := hr
  obtain ⟨A, c, rfl, hr⟩ := hr
  have hn := hf.len
  by_cases hlong : 400 < gs.length
  · have HP : Hid (∀ x w', Below w.heap.size w w' → LensPost gs w (.returned (.tuple #[x, .bool false])) w') := Lib.hid fun x w' hb => ⟨x, by rw [gOk_long hlong], fun h' => by (rw [gOk_long hlong] at h'; cases h'), hb⟩
    clear hr hR0
    go_enter Try.func173, Try.ntmps173
    go_wp2
    go_ret2
    exact HP.out _ _ ((Below.refl _ _).alloc (Nat.le_refl _) _)
  · have h4 : gs.length ≤ 400 := by omega
    have HG := Lib.hid (gOk_short h4)
    obtain ⟨n, hng⟩ : ∃ n, n = gs.length := ⟨_, rfl⟩
    rw [← hng] at hn h4 ⊢
    have HN := Lib.hid hng
    have HR := Lib.hid hr
    have HR0 := Lib.hid hR0
    have HF := Lib.hid hf
    clear hr hR0 hf hlong hng
    go_enter Try.func173, Try.ntmps173
    go_wp2
    go_loopw [4, 5, 16] (fun _ _ i wr => ∃ k : Nat, k ≤ n ∧ i = .int .i64 k ∧ Below w.heap.size w wr ∧ FitTo gs k ∧ wr.cell? ⟨w.heap.size, 0, none⟩ = some (.slice A n c)) (fun _ _ i _ => n - (intOf i).toNat)
    case atStart => exact ⟨0, Nat.zero_le _, rfl, (Below.refl _ _).alloc (Nat.le_refl _) _, fun _ _ h => by omega, cell_new _ _ _⟩
    case round =>
      obtain ⟨k, hk, rfl, hB, hu, hc0⟩ := hrel
      obtain ⟨wo, rfl⟩ : ∃ wo : World, wo = wr := ⟨_, rfl⟩
      by_cases hlt : k < n
      · have hkg : k < gs.length := by rw [← HN.out]; exact hlt
        rcases HR.out with hn | ⟨g, rfl, hg, hc⟩
        · rw [hn] at hkg; simp at hkg
        obtain ⟨a0, a1, a2⟩ := rules_cells hc hkg
        rw [← hB.cell (p := ⟨g, k * 3, none⟩) hg] at a0
        rw [← hB.cell (p := ⟨g, k * 3 + 1, none⟩) hg] at a1
        rw [← hB.cell (p := ⟨g, k * 3 + 2, none⟩) hg] at a2
        clear hc
        by_cases h0 : gs[k].L.size = 0
        · have HK := Lib.hid (fun W => kind_pair gs[k] h0 W)
          have HQ := Lib.hid (fun W => pair_fits gs[k] h0 k W)
          have HM := mt_p
          have hB0 := hB
          have hs0 := hB.size
          cases hok : gs[k].ok k
          · have HBD := Lib.hid (bad_fit hkg hok)
            rw [hok] at HQ
            have HBB := Lib.hid hB
            clear hok hu hB hB0 h0
            go_wp2_with fail
            refine (HK.out _).mono ?_
            rintro e w1 ⟨rfl, hB1⟩
            go_wp2_with fail
            refine (HQ.out _).mono ?_
            rintro e w2 ⟨rfl, hB2⟩
            have HF2 : Hid (∀ x, LensPost gs w (.returned (.tuple #[x, .bool false])) w2) := Lib.hid fun x => ⟨x, by rw [HG.out, HBD.out], fun h' => by (rw [HG.out, HBD.out] at h'; cases h'), ((HBB.out.alloc hs0 _).trans (hB1.mono (by simp; omega))).trans (hB2.mono (Nat.le_trans (by simp; omega) hB1.size))⟩
            clear hB1 hB2
            go_wp2_with fail
            go_ret2
            exact HF2.out _
          · have HU : Hid (FitTo gs (k + 1)) := Lib.hid fun j hj hjk => by
              by_cases e : j = k
              · subst e; exact hok
              · exact hu j hj (by omega)
            rw [hok] at HQ
            have HBB := Lib.hid hB
            have HC0 := Lib.hid hc0
            clear hok hu hB hB0 h0
            go_wp2_with fail
            refine (HK.out _).mono ?_
            rintro e w1 ⟨rfl, hB1⟩
            go_wp2_with fail
            refine (HQ.out _).mono ?_
            rintro e w2 ⟨rfl, hB2⟩
            have hB3 := ((HBB.out.alloc hs0 (.cells #[.string gs[k].L, .int .i64 gs[k].l, .int .i64 gs[k].r] 127)).trans (hB1.mono (by simp; omega))).trans (hB2.mono (Nat.le_trans (by simp; omega) hB1.size))
            have hlc := lt_of_cell HC0.out
            have hc3 : w2.cell? ⟨w.heap.size, 0, none⟩ = some (.slice (some ⟨g, 0, none⟩) n c) := by
              rw [hB2.cell (p := ⟨w.heap.size, 0, none⟩) (Nat.lt_of_lt_of_le (by simp; omega) hB1.size), hB1.cell (p := ⟨w.heap.size, 0, none⟩) (by simp; omega), ((Below.refl _ wo).alloc (Nat.le_refl _) _).cell (p := ⟨w.heap.size, 0, none⟩) hlc]; exact HC0.out
            have HB3 := Lib.hid hB3
            have HC3 := Lib.hid hc3
            clear hB1 hB2 hB3 hc3 hlc
            go_wp2_with fail
            go_roundw
            case rel => first | exact ⟨k + 1, by omega, by go_num, HB3.out, HU.out, HC3.out⟩ | ((repeat apply Exists.intro); exact ⟨⟨k + 1, by omega, by go_num, HB3.out, HU.out, HC3.out⟩, rfl⟩)
            case measure => simp [intOf]; omega
        · have HK := Lib.hid (fun W => kind_letter gs[k] h0 W)
          have HQ := Lib.hid (fun W => letter_fits gs[k] h0 k W)
          have HM := mt_l
          have hB0 := hB
          have hs0 := hB.size
          cases hok : gs[k].ok k
          · have HBD := Lib.hid (bad_fit hkg hok)
            rw [hok] at HQ
            have HBB := Lib.hid hB
            clear hok hu hB hB0 h0
            go_wp2_with fail
            refine (HK.out _).mono ?_
            rintro e w1 ⟨rfl, hB1⟩
            go_wp2_with fail
            refine (HQ.out _).mono ?_
            rintro e w2 ⟨rfl, hB2⟩
            have HF2 : Hid (∀ x, LensPost gs w (.returned (.tuple #[x, .bool false])) w2) := Lib.hid fun x => ⟨x, by rw [HG.out, HBD.out], fun h' => by (rw [HG.out, HBD.out] at h'; cases h'), ((HBB.out.alloc hs0 _).trans (hB1.mono (by simp; omega))).trans (hB2.mono (Nat.le_trans (by simp; omega) hB1.size))⟩
            clear hB1 hB2
            go_wp2_with fail
            go_ret2
            exact HF2.out _
          · have HU : Hid (FitTo gs (k + 1)) := Lib.hid fun j hj hjk => by
              by_cases e : j = k
              · subst e; exact hok
              · exact hu j hj (by omega)
            rw [hok] at HQ
            have HBB := Lib.hid hB
            have HC0 := Lib.hid hc0
            clear hok hu hB hB0 h0
            go_wp2_with fail
            refine (HK.out _).mono ?_
            rintro e w1 ⟨rfl, hB1⟩
            go_wp2_with fail
            refine (HQ.out _).mono ?_
            rintro e w2 ⟨rfl, hB2⟩
            have hB3 := ((HBB.out.alloc hs0 (.cells #[.string gs[k].L, .int .i64 gs[k].l, .int .i64 gs[k].r] 127)).trans (hB1.mono (by simp; omega))).trans (hB2.mono (Nat.le_trans (by simp; omega) hB1.size))
            have hlc := lt_of_cell HC0.out
            have hc3 : w2.cell? ⟨w.heap.size, 0, none⟩ = some (.slice (some ⟨g, 0, none⟩) n c) := by
              rw [hB2.cell (p := ⟨w.heap.size, 0, none⟩) (Nat.lt_of_lt_of_le (by simp; omega) hB1.size), hB1.cell (p := ⟨w.heap.size, 0, none⟩) (by simp; omega), ((Below.refl _ wo).alloc (Nat.le_refl _) _).cell (p := ⟨w.heap.size, 0, none⟩) hlc]; exact HC0.out
            have HB3 := Lib.hid hB3
            have HC3 := Lib.hid hc3
            clear hB1 hB2 hB3 hc3 hlc
            go_wp2_with fail
            go_roundw
            case rel => first | exact ⟨k + 1, by omega, by go_num, HB3.out, HU.out, HC3.out⟩ | ((repeat apply Exists.intro); exact ⟨⟨k + 1, by omega, by go_num, HB3.out, HU.out, HC3.out⟩, rfl⟩)
            case measure => simp [intOf]; omega
      · have hall : FitTo gs gs.length := fun j hj hjk => hu j hj (by have := HN.out; omega)
        have hn' : gs.length ≤ 1048576 := by have := HN.out; omega
        obtain ⟨i0, hi, hz0, hz1, hz2⟩ := info_parts Try.info_i64
        have hsz := hB.size
        have HALL := Lib.hid hall
        have HB := Lib.hid hB
        have HC0 := Lib.hid hc0
        have hk2 : k = n := by omega
        clear hall hu hB
        obtain rfl : k = n := hk2
        go_wp2_with (refine wpList_make_full _ rfl _ _ 22 rfl w.heap.size 2 i0 (.int .i64 0) 1 Try.underlying22 hi hz0 hz1 .i64 .i64 _ _ k rfl rfl rfl rfl (by rw [hz2]; omega) (by unfold maxLen; omega) hsz ?_)
        intro w1 hown hg
        have hB1 := below_of_grown hg
        have hlo := (hown.lt _ rfl).2
        have hBw := HB.out.trans (hB1.mono hsz)
        have c1 : w1.cell? ⟨w.heap.size, 0, none⟩ = some (.slice A k c) := (hB1.cell (p := ⟨w.heap.size, 0, none⟩) (lt_of_cell HC0.out)).trans HC0.out
        have hmd := measured_any w.heap.size (.slice A k c) gs w1 hn' hBw.size (by have := HR0.out.under hBw; rw [← HN.out] at this; exact this)
        have HMD := Lib.hid hmd
        have HO := Lib.hid hown
        have HBW := Lib.hid hBw
        clear hmd hown hg hB1 hBw hc0
        obtain ⟨L, hLe⟩ : ∃ L, L = wo.heap.size := ⟨_, rfl⟩
        rw [← hLe] at hlo HO ⊢
        have HLE := Lib.hid hLe
        clear hLe
        go_wp2_with fail
        refine HMD.out.mono ?_
        rintro e w2 ⟨bm, br, bj, bf, M, rfl, ⟨b1, b2, b3, b4, b5⟩, hI, hB2⟩
        have hB3 := HBW.out.trans (hB2.mono HBW.out.size)
        have hown2 := own_below HO.out hB2 (Nat.le_refl _)
        have hst0 : ∃ j : Nat, j ≤ k ∧ Value.int .i64 0 = .int .i64 j ∧ w2.ownsRow w.heap.size 2 1 (.slice (some ⟨L, 0, none⟩) k k) k (iv (lensK gs j)) ∧ Below w.heap.size w w2 ∧ MInv w.heap.size bm br bj bf M joinV gs (lenV gs) w2 ∧ UpTo gs j :=
          ⟨0, Nat.zero_le _, rfl, by rw [lensK_zero, ← HN.out, ← made_i64]; exact hown2, hB3, hI, upTo_zero _⟩
        have HST0 := Lib.hid hst0
        have hLw : w.heap.size ≤ L := by rw [HLE.out]; exact hsz
        clear hst0 hown2 hB3 hI hB2
        go_wp2_with fail
        go_loopw [8, 36] (fun _ i wr => ∃ j : Nat, j ≤ k ∧ i = .int .i64 j ∧ wr.ownsRow w.heap.size 2 1 (.slice (some ⟨L, 0, none⟩) k k) k (iv (lensK gs j)) ∧ Below w.heap.size w wr ∧ MInv w.heap.size bm br bj bf M joinV gs (lenV gs) wr ∧ UpTo gs j) (fun _ i _ => k - (intOf i).toNat)
        case atStart => exact HST0.out
        case round =>
          obtain ⟨j, hj, rfl, hown, hB, hI, hu⟩ := hrel
          obtain ⟨wp, rfl⟩ : ∃ wp : World, wp = wr := ⟨_, rfl⟩
          by_cases hjk : j < k
          · have hjg : j < gs.length := by rw [← HN.out]; exact hjk
            have hok := HALL.out j hjg hjg
            have HMS := Lib.hid (meas_any w.heap.size bm br bj bf M gs hn' (j + 1) j (by omega) hjg hu hok wp hI)
            have HU := Lib.hid hu
            have HB := Lib.hid hB
            have HO := Lib.hid hown
            have HOK := Lib.hid hok
            clear hu hB hown hok hI
            go_wp2_with fail
            refine HMS.out.mono ?_
            rintro e w3 ⟨rfl, hI3, hg3⟩
            have hown3 := World.ownsRow.kept HO.out hg3 (.inr (by simp [Value.ownBlock]; omega))
            have hB3 := HB.out.grown hg3 HB.out.size (fun q hq => by injection hq with hq; omega)
            have hc3 : w3.cell? ⟨L, j, none⟩ = some (.int .i64 ((lensK gs j).getD j 0)) := by rw [hown3.cellAt j (by omega)]; exact iv_at (by rw [lensK_len _ _ (by omega)]; exact hjg)
            have hf3 : w3.frozen? ⟨L, j, none⟩ = false := hown3.frozenAt _
            generalize (lensK gs j).getD j 0 = zz at hc3
            have hc4 : (w3.setCell ⟨L, j, none⟩ (.int .i64 (lenV gs j))).cell? ⟨L, j, none⟩ = some (.int .i64 (lenV gs j)) := World.cell?_setCell_same _ _ _ hc3
            have hst := (hown3.stored j (.int .i64 (lenV gs j))).1
            rw [← iv_setk, lensK_set gs j hjg] at hst
            have hI4 := MInv.far hI3 L j (.int .i64 (lenV gs j)) hLw (by omega) (by omega) (by omega) (by omega) (by omega)
            have hB4 := hB3.setCell (p := ⟨L, j, none⟩) hLw (.int .i64 (lenV gs j))
            by_cases hbig : 1000000000000000 < lenV gs j
            · have HF2 : Hid (∀ x, LensPost gs w (.returned (.tuple #[x, .bool false])) (w3.setCell ⟨L, j, none⟩ (.int .i64 (lenV gs j)))) := Lib.hid fun x => ⟨x, by rw [HG.out, bad_long hjg hbig], fun h' => by (rw [HG.out, bad_long hjg hbig] at h'; cases h'), hB4⟩
              clear hst hI4 hB4 hB3 hown3 hI3 hg3
              go_wp2_with fail
              go_ret2
              exact HF2.out _
            · have HNW : Hid (∃ j' : Nat, j' ≤ k ∧ Value.int .i64 ((j + 1 : Nat) : Int) = .int .i64 j' ∧ (w3.setCell ⟨L, j, none⟩ (.int .i64 (lenV gs j))).ownsRow w.heap.size 2 1 (.slice (some ⟨L, 0, none⟩) k k) k (iv (lensK gs j')) ∧ Below w.heap.size w (w3.setCell ⟨L, j, none⟩ (.int .i64 (lenV gs j))) ∧ MInv w.heap.size bm br bj bf M joinV gs (lenV gs) (w3.setCell ⟨L, j, none⟩ (.int .i64 (lenV gs j))) ∧ UpTo gs j') :=
                Lib.hid ⟨j + 1, by omega, rfl, hst, hB4, hI4, upTo_succ HU.out hjg HOK.out (by unfold lenV at hbig; omega)⟩
              clear hst hI4 hB4 hB3 hown3 hI3 hg3
              go_wp2_with fail
              go_roundw
              case rel => first | exact HNW.out | ((repeat apply Exists.intro); exact ⟨HNW.out, rfl⟩)
              case measure => simp [intOf]; omega
          · have hjn : j = gs.length := by have := HN.out; omega
            have hfs := upTo_all hu (by omega)
            rw [hjn, lensK_all] at hown
            have HY : Hid (LensPost gs w (.returned (.tuple #[.slice (some ⟨L, 0, none⟩) k k, .bool true])) wp) := Lib.hid ⟨_, by rw [HG.out, hfs], fun _ => by unfold OwnsI; rw [lens_len, ← HN.out]; exact hown, hB⟩
            clear hown hB hI hu hfs hjn
            go_wp2_with fail
            go_ret2
            exact HY.out
end Go.Proofs.Ytaffachjopjbgaa.len
namespace Go.Proofs.Ytaffachjopjbgaa
open Go.RowKit
open Wd
set_option linter.unusedVariables false

theorem eqI_zero (a b : Option Addr) (c d : Nat) (w : World) :
    Calls Try.prog 35 #[.slice a 0 c, .slice b 0 d] w fun e w' => e = .returned (.bool true) ∧ Drawn w w' := by
  go_enter Try.func35, Try.ntmps35
  go_wp2
  refine wp_loop_rounds 1 ?_
  rw [rounds_succ]
  go_wp2
  go_ret
  exact ⟨rfl, Drawn.refl _⟩

set_option maxHeartbeats 400000 in
theorem eqI_some (g1 g2 c d n : Nat) (zs : List Int) (hn : zs.length = n) (hn' : n ≤ 1000000) (w : World) (h1 : ∀ j (hj : j < zs.length), w.cell? ⟨g1, j, none⟩ = some (.int .i64 zs[j])) (h2 : ∀ j (hj : j < zs.length), w.cell? ⟨g2, j, none⟩ = some (.int .i64 zs[j])) :
    Calls Try.prog 35 #[.slice (some ⟨g1, 0, none⟩) n c, .slice (some ⟨g2, 0, none⟩) n d] w fun e w' => e = .returned (.bool true) ∧ Drawn w w' := by
  have H1 := Lib.hid h1
  have H2 := Lib.hid h2
  have HN := Lib.hid hn
  clear h1 h2 hn
  go_enter Try.func35, Try.ntmps35
  go_wp2
  go_loopw [5] (fun i wr => ∃ k : Nat, k ≤ n ∧ i = .int .i64 k ∧ Drawn w wr) (fun i _ => n - (intOf i).toNat)
  case atStart => exact ⟨0, Nat.zero_le _, rfl, Drawn.refl _⟩
  case round =>
    obtain ⟨k, hk, rfl, hD⟩ := hrel
    by_cases hlt : k < n
    · have hkz : k < zs.length := by rw [HN.out]; exact hlt
      have c1 : wr.cell? ⟨g1, k, none⟩ = some (.int .i64 zs[k]) := by obtain ⟨m, rfl⟩ := hD; exact H1.out k hkz
      have c2 : wr.cell? ⟨g2, k, none⟩ = some (.int .i64 zs[k]) := by obtain ⟨m, rfl⟩ := hD; exact H2.out k hkz
      generalize zs[k] = z at c1 c2
      clear hkz
      go_wp2
      go_quiet (fail)
      go_wp2
      go_roundw
      case rel => exact ⟨k + 1, by omega, by go_num, hD.drewN _⟩
      case measure => simp [intOf]; omega
    · go_wp2
      go_ret
      exact ⟨rfl, hD⟩

theorem eqI (a b : Value) (zs : List Int) (B C : Nat) (w : World) (h1 : OwnsI w B a zs) (h2 : OwnsI w C b zs) (hn : zs.length ≤ 1000000) :
    Calls Try.prog 35 #[a, b] w fun e w' => e = .returned (.bool true) ∧ Drawn w w' := by
  by_cases h0 : zs.length = 0
  · have hz := List.eq_nil_of_length_eq_zero h0
    subst hz
    have sh : ∀ {v B}, OwnsI w B v [] → ∃ a c, v = .slice a 0 c := fun h => by
      rcases h.shape with ⟨rfl, _⟩ | ⟨g, cap, rfl, _⟩
      · exact ⟨_, _, rfl⟩
      · exact ⟨_, _, rfl⟩
    obtain ⟨_, _, rfl⟩ := sh h1
    obtain ⟨_, _, rfl⟩ := sh h2
    exact eqI_zero _ _ _ _ _
  · rcases h1.shape with ⟨_, rfl⟩ | ⟨g1, c1, rfl, _⟩
    · simp at h0
    rcases h2.shape with ⟨_, rfl⟩ | ⟨g2, c2, rfl, _⟩
    · simp at h0
    exact eqI_some g1 g2 c1 c2 _ zs rfl hn w (fun j hj => h1.cell j hj) (fun j hj => h2.cell j hj)

theorem markI_zero (a : Option Addr) (c : Nat) (k : Int) (w : World) :
    Calls Try.prog 38 #[.slice a 0 c, .int .i64 k] w fun e w' => e = .returned (.int .i64 k) ∧ w = w' := by
  go_enter Try.func38, Try.ntmps38
  go_wp2
  refine wp_loop_rounds 1 ?_
  rw [rounds_succ]
  go_wp2
  go_ret
  exact ⟨rfl, rfl⟩

set_option maxHeartbeats 400000 in
theorem markI_some (g c n B : Nat) (zs : List Int) (hn : zs.length = n) (hn' : n ≤ 1048576) (k : Int) (hk0 : 0 ≤ k) (hk1 : k ≤ 8796093022208) (w : World) (h : w.ownsRow B 2 1 (.slice (some ⟨g, 0, none⟩) n c) n (iv zs)) :
    Calls Try.prog 38 #[.slice (some ⟨g, 0, none⟩) n c, .int .i64 k] w fun e w' => e = .returned (.int .i64 (k + n)) ∧
      w'.ownsRow B 2 1 (.slice (some ⟨g, 0, none⟩) n c) n (iv (marks k n)) ∧ w.grownBy w' (some g) := by
  have HN := Lib.hid hn
  clear hn
  go_enter Try.func38, Try.ntmps38
  go_wp2
  go_loopw [1, 5] (fun q i wr => ∃ j : Nat, j ≤ n ∧ i = .int .i64 j ∧ q = .int .i64 (k + j) ∧ wr.ownsRow B 2 1 (.slice (some ⟨g, 0, none⟩) n c) n (iv (marks k j ++ zs.drop j)) ∧ w.grownBy wr (some g))
    (fun _ i _ => n - (intOf i).toNat)
  case atStart => exact ⟨0, Nat.zero_le _, rfl, by simp, by simpa [marks] using h, World.grownBy.refl _ _⟩
  case round =>
    obtain ⟨j, hj, rfl, rfl, hown, hgr⟩ := hrel
    by_cases hlt : j < n
    · have hjz : j < zs.length := by rw [HN.out]; exact hlt
      have hc : wr.cell? ⟨g, j, none⟩ = some (.int .i64 zs[j]) := by
        have hw : (marks k j ++ zs.drop j)[j]? = some zs[j] := by
          rw [List.getElem?_append_right (by rw [marks_len]; omega), marks_len, Nat.sub_self, List.getElem?_drop]; simp [hjz]
        rw [hown.cellAt j (by omega)]
        simp only [iv, List.getElem?_map, hw, Option.map_some]
      have hf : wr.frozen? ⟨g, j, none⟩ = false := hown.frozenAt j
      have hst := hown.stored j (.int .i64 (k + j))
      rw [iv_set k zs j hjz] at hst
      obtain ⟨hst1, hst2⟩ := hst
      have hg2 : w.grownBy (wr.setCell ⟨g, j, none⟩ (.int .i64 (k + j))) (some g) := ⟨hst2.os.trans hgr.os, hst2.tape.trans hgr.tape, hst2.output.trans hgr.output, Nat.le_trans hgr.size hst2.size, fun q hq hne => (hst2.block q (Nat.lt_of_lt_of_le hq hgr.size) hne).trans (hgr.block q hq hne)⟩
      generalize zs[j] = z at hc
      clear hst2 hgr hown hjz
      go_wp2
      go_roundw
      case rel => exact ⟨j + 1, by omega, by go_num, by go_num, hst1, hg2⟩
      case measure => simp [intOf]; omega
    · have hjn : j = n := by omega
      have hown' : wr.ownsRow B 2 1 (.slice (some ⟨g, 0, none⟩) n c) n (iv (marks k n)) := by
        rw [hjn, List.drop_of_length_le (by rw [HN.out]; omega), List.append_nil] at hown; exact hown
      have HJ := Lib.hid hjn
      clear hjn hown
      go_wp2
      go_ret
      exact ⟨ret_int (by have := HJ.out; omega), hown', hgr⟩

theorem markI (v : Value) (zs : List Int) (B : Nat) (k : Int) (hk0 : 0 ≤ k) (hk1 : k ≤ 8796093022208) (w : World) (h : OwnsI w B v zs) (hn : zs.length ≤ 1048576) :
    Calls Try.prog 38 #[v, .int .i64 k] w fun e w' => e = .returned (.int .i64 (k + zs.length)) ∧ OwnsI w' B v (marks k zs.length) ∧ w.grownBy w' v.ownBlock := by
  rcases h.shape with ⟨rfl, rfl⟩ | ⟨g, c, rfl, _⟩
  · refine (markI_zero none 0 k w).mono fun e w' ⟨he, hw⟩ => ?_
    subst hw
    exact ⟨by rw [he]; simp, World.ownsRow_nil _ _ _ _, World.grownBy.refl _ _⟩
  · refine (markI_some g c _ B zs rfl hn k hk0 hk1 w h).mono fun e w' ⟨he, hw, hg⟩ => ⟨he, ?_, hg⟩
    unfold OwnsI
    rw [marks_len]
    exact hw

theorem heldI_zero (a : Option Addr) (c : Nat) (k : Int) (w : World) :
    Calls Try.prog 39 #[.slice a 0 c, .int .i64 k] w fun e w' => e = .returned (.int .i64 k) ∧ w = w' := by
  go_enter Try.func39, Try.ntmps39
  go_wp2
  refine wp_loop_rounds 1 ?_
  rw [rounds_succ]
  go_wp2
  go_ret
  exact ⟨rfl, rfl⟩

set_option maxHeartbeats 400000 in
theorem heldI_some (g c n : Nat) (hn' : n ≤ 1048576) (k : Int) (hk0 : 0 ≤ k) (hk1 : k ≤ 8796093022208) (w : World) (h : ∀ j, j < n → w.cell? ⟨g, j, none⟩ = some (.int .i64 (k + j))) :
    Calls Try.prog 39 #[.slice (some ⟨g, 0, none⟩) n c, .int .i64 k] w fun e w' => e = .returned (.int .i64 (k + n)) ∧ w = w' := by
  have H := Lib.hid h
  clear h
  go_enter Try.func39, Try.ntmps39
  go_wp2
  go_loop [1, 5] (fun q i => ∃ j : Nat, j ≤ n ∧ i = .int .i64 j ∧ q = .int .i64 (k + j)) (fun _ i => n - (intOf i).toNat)
  case atStart => exact ⟨0, Nat.zero_le _, rfl, by simp⟩
  case round =>
    obtain ⟨j, hj, rfl, rfl⟩ := hrel
    by_cases hlt : j < n
    · have hc := H.out j hlt
      go_wp2
      go_round
      case rel => exact ⟨j + 1, by omega, by go_num, by go_num⟩
      case measure => simp [intOf]; omega
    · have hjn : j = n := by omega
      have HJ := Lib.hid hjn
      clear hjn
      go_wp2
      go_ret
      exact ⟨ret_int (by have := HJ.out; omega), rfl⟩

theorem heldI (v : Value) (n B : Nat) (k : Int) (hk0 : 0 ≤ k) (hk1 : k ≤ 8796093022208) (w : World) (h : OwnsI w B v (marks k n)) (hn : n ≤ 1048576) :
    Calls Try.prog 39 #[v, .int .i64 k] w fun e w' => e = .returned (.int .i64 (k + n)) ∧ w = w' := by
  rcases h.shape with ⟨rfl, h0⟩ | ⟨g, c, rfl, _⟩
  · have : n = 0 := by have := congrArg List.length h0; rw [marks_len] at this; simpa using this
    subst this
    refine (heldI_zero none 0 k w).mono fun e w' ⟨he, hw⟩ => ⟨by rw [he]; simp, hw⟩
  · have hc : ∀ j, j < n → w.cell? ⟨g, j, none⟩ = some (.int .i64 (k + j)) := fun j hj => by
      have := h.cell j (by rw [marks_len]; exact hj)
      rw [this]
      simp [marks]
    rw [marks_len]
    exact heldI_some g c n hn k hk0 hk1 w hc
end Go.Proofs.Ytaffachjopjbgaa
namespace Go.Proofs.Ytaffachjopjbgaa
open Go.RowKit
open Wd
set_option linter.unusedVariables false
namespace Wd
/-- how many numbers lie in the first rows -/
def pre (rs : List (List Int)) (j : Nat) : Nat := ((rs.take j).map List.length).sum
theorem pre_zero (rs : List (List Int)) : pre rs 0 = 0 := by simp [pre]
theorem pre_succ (rs : List (List Int)) (j : Nat) (h : j < rs.length) : pre rs (j + 1) = pre rs j + (rs[j]).length := by
  unfold pre
  rw [List.take_succ_eq_append_getElem h, List.map_append, List.sum_append]
  simp
theorem pre_le (rs : List (List Int)) (m : Nat) (hr : ∀ r ∈ rs, r.length ≤ m) : ∀ j, j ≤ rs.length → pre rs j ≤ j * m
  | 0, _ => by simp [pre_zero]
  | j + 1, h => by
    rw [pre_succ rs j (by omega), Nat.succ_mul]
    have h1 := pre_le rs m hr j (by omega)
    have h2 := hr _ (List.getElem_mem (show j < rs.length by omega))
    omega
/-- the first rows marked -/
def mkF (j : Nat) (k : Int) (rs : List (List Int)) : List (List Int) := (List.range rs.length).map fun i => if i < j then marks (k + pre rs i) (rs.getD i []).length else rs.getD i []
theorem mkF_len (j : Nat) (k : Int) (rs : List (List Int)) : (mkF j k rs).length = rs.length := by simp [mkF]
theorem mkF_get (j : Nat) (k : Int) (rs : List (List Int)) (i : Nat) (h : i < rs.length) : (mkF j k rs)[i]? = some (if i < j then marks (k + pre rs i) (rs[i]).length else rs[i]) := by
  unfold mkF
  rw [List.getElem?_map, List.getElem?_range h]
  simp [h]
theorem mkF_zero (k : Int) (rs : List (List Int)) : mkF 0 k rs = rs := by
  apply List.ext_getElem?
  intro i
  by_cases h : i < rs.length
  · rw [mkF_get 0 k rs i h, if_neg (by omega), List.getElem?_eq_getElem h]
  · rw [List.getElem?_eq_none (by rw [mkF_len]; omega), List.getElem?_eq_none (by omega)]
theorem mkF_set (j : Nat) (k : Int) (rs : List (List Int)) (h : j < rs.length) : (mkF j k rs).set j (marks (k + pre rs j) (rs[j]).length) = mkF (j + 1) k rs := by
  apply List.ext_getElem?
  intro i
  by_cases hi : i < rs.length
  · rw [mkF_get _ k rs i hi]
    by_cases e : j = i
    · subst e
      rw [List.getElem?_set_self (by rw [mkF_len]; exact h), if_pos (by omega)]
    · rw [List.getElem?_set_ne e, mkF_get _ k rs i hi]
      by_cases h1 : i < j
      · rw [if_pos h1, if_pos (by omega)]
      · rw [if_neg h1, if_neg (by omega)]
  · rw [List.getElem?_eq_none (by rw [List.length_set, mkF_len]; omega), List.getElem?_eq_none (by rw [mkF_len]; omega)]
end Wd
theorem OwnM.isLL {w : World} {lo : Nat} {v : Value} {U : List Value} {Z : List (List Int)} (h : OwnM w lo v U Z) : IsLL w v Z := by
  rcases h.shape with ⟨rfl, h0⟩ | ⟨g, c, rfl, _⟩
  · have hz : Z = [] := List.eq_nil_of_length_eq_zero (by rw [← h.len, h0]; rfl)
    subst hz
    exact ⟨none, 0, rfl, .inl rfl⟩
  · refine ⟨_, c, by rw [h.len], .inr ⟨_, rfl, fun j hj => ?_⟩⟩
    have hju : j < U.length := by rw [h.len]; exact hj
    refine ⟨U[j], ?_, IsL.of_own (h.rows.row j _ _ (List.getElem?_eq_getElem hju) (List.getElem?_eq_getElem hj))⟩
    rw [add_zero', h.outer.cellAt j (by omega), List.getElem?_eq_getElem hju]
theorem mkF_all (k : Int) (rs : List (List Int)) : mkF rs.length k rs = (List.range rs.length).map fun i => marks (k + pre rs i) (rs.getD i []).length := by
  unfold mkF
  apply List.map_congr_left
  intro i hi
  rw [if_pos (List.mem_range.1 hi)]
theorem Rws.rowAt {w : World} {lo : Nat} {U : List Value} {Z : List (List Int)} (h : Rws w lo U Z) {j : Nat} {u : Value} {zs : List Int} (hu : U[j]? = some u) (hz : Z[j]? = some zs) : OwnsI w lo u zs := h.row j u zs hu hz
/-- an automaton's value that the call owns -/
structure OwnA (w : World) (lo : Nat) (f n : Value) (U : List Value) (fin : List Int) (nx : List (List Int)) : Prop where
  fin : OwnsI w lo f fin
  nx : OwnM w lo n U nx
  ne : ∀ u ∈ U, f.ownBlock = none ∨ f.ownBlock ≠ u.ownBlock
theorem OwnA.kept {w w' : World} {lo : Nat} {f n : Value} {U : List Value} {fin : List Int} {nx : List (List Int)} (h : OwnA w lo f n U fin nx) (hb : Below w.heap.size w w') : OwnA w' lo f n U fin nx :=
  ⟨own_below h.fin hb (Nat.le_refl _), h.nx.kept hb, h.ne⟩
theorem OwnA.lower {w : World} {lo B : Nat} {f n : Value} {U : List Value} {fin : List Int} {nx : List (List Int)} (h : OwnA w lo f n U fin nx) (hb : B ≤ lo) : OwnA w B f n U fin nx :=
  ⟨own_lower h.fin hb, h.nx.lower hb, h.ne⟩
theorem OwnA.blocks {w : World} {lo : Nat} {f n : Value} {U : List Value} {fin : List Int} {nx : List (List Int)} (h : OwnA w lo f n U fin nx) : ∀ u ∈ f :: U, ∀ q, u.ownBlock = some q → lo ≤ q ∧ q < w.heap.size := by
  intro u hu q hq
  rcases List.mem_cons.1 hu with rfl | hu
  · exact h.fin.lt q hq
  · exact h.nx.rows.ge u hu q hq
theorem OwnA.only {w w' : World} {lo : Nat} {f n : Value} {U V : List Value} {fin : List Int} {nx : List (List Int)} (h : OwnA w lo f n U fin nx) (ho : OnlyIn V w w') (hV : ∀ u ∈ V, ∀ q, u.ownBlock = some q → q < lo) : OwnA w' lo f n U fin nx := by
  refine ⟨own_only h.fin ho (fun u hu => ?_), h.nx.only ho hV, h.ne⟩
  cases hq : u.ownBlock with
  | none => exact .inl rfl
  | some q =>
    refine .inr fun e => ?_
    have h1 := hV u hu q hq
    have h2 := (h.fin.lt q e.symm).1
    omega
theorem OwnA.isAu {w : World} {lo : Nat} {f n : Value} {U : List Value} {x : Au} (h : OwnA w lo f n U x.fin x.nx) : IsAu w (.agg #[.int .i64 x.st, .int .i64 x.go, f, n]) x :=
  ⟨f, n, rfl, IsL.of_own h.fin, h.nx.isLL⟩
/-- how many numbers an automaton holds -/
def auN (x : Au) : Int := x.fin.length + pre x.nx x.nx.length
end Go.Proofs.Ytaffachjopjbgaa
namespace Go.Proofs.Ytaffachjopjbgaa
open Go.RowKit
open Wd
set_option linter.unusedVariables false

theorem run_append_of_nil {P : Program} (w : World) (base : Nat) (t ty e : TypeId) (i : TypeInfo) (size : Nat) (ht : P.underlying t = some (.slice e)) (hi : P.info? e = some i)
    (v : Value) (n : Nat) (xs : List Value) (hown : w.ownsRow base e size v n xs) (c : Nat) : (Builtin.append_ #[t, t] ty #[v, .slice none 0 c]).run P w = .ok v w := by
  rcases hown.2 with ⟨rfl, rfl⟩ | ⟨g, cap, cur, rfl, _, _, hnc, _⟩
  · simp [Builtin.append_, run_underlying ht, sizeOf, typeInfo, hi, Builtin.lenOf, Builtin.firstCells]
  · simp [Builtin.append_, run_underlying ht, sizeOf, typeInfo, hi, Builtin.lenOf, Builtin.firstCells, hnc, storeCells]
theorem wpList_append_nilc {P : Program} {w : World} {ops : Array Oper} {rest : List Oper} {o : Oper} {a : Act} {Q : Exit → Act → World → Prop} (hgd : o.guard = none) (s x : Operand) (t : TypeId)
    (ho : o.op = .call { callee := .builtin .append, args := #[s, x], argTypes := #[t, t] })
    (base : Nat) (e : TypeId) (i : TypeInfo) (size : Nat) (ht : P.underlying t = some (.slice e)) (hi : P.info? e = some i)
    (v : Value) (n : Nat) (xs : List Value) (hs : a.eval s = v) (hown : w.ownsRow base e size v n xs) (c : Nat) (hx : a.eval x = .slice none 0 c)
    (h : wpList P ops Q rest (a.put o.dst v) w) : wpList P ops Q (o :: rest) a w := by
  refine wpList_plain hgd fun K hK => ?_
  have hrun := run_append_of_nil (P := P) w base t o.type e i size ht hi v n xs hown c
  unfold Oper.wp
  simp [execOp, ho, resolve, invoke, builtin, hs, hx, hrun, Result.andThen]
  exact hK _ _ h

end Go.Proofs.Ytaffachjopjbgaa
namespace Go.Proofs.Ytaffachjopjbgaa
open Go.RowKit
open Wd
set_option linter.unusedVariables false
theorem Try.info_int64 : (Try.prog.info? 2).map (fun i => (i.zero, i.size, i.bytes)) = some (some (.int .i64 0), 1, 8) := by kernel_rfl
theorem isL_cases {w : World} {v : Value} {zs : List Int} (h : IsL w v zs) :
    (∃ c, v = .slice none 0 c ∧ zs = []) ∨ ∃ a c, v = .slice (some a) zs.length c ∧ ∀ j u, (iv zs)[j]? = some u → w.cell? (a.add j) = some u := by
  obtain ⟨A, c, rfl, h⟩ := h
  cases A with
  | none =>
    rcases h with h | ⟨a, ha, _⟩
    · subst h; exact .inl ⟨c, rfl, rfl⟩
    · cases ha
  | some a =>
    refine .inr ⟨a, c, rfl, fun j u hu => ?_⟩
    rcases h with h | ⟨b, hb, hc⟩
    · subst h; simp [iv] at hu
    · injection hb with hb
      subst hb
      have hj : j < zs.length := by have := (List.getElem?_eq_some_iff.1 hu).1; rwa [iv_len] at this
      rw [iv_get zs j hj] at hu
      injection hu with hu
      subst hu
      exact hc j hj
theorem iv_cell (zs : List Int) : ∀ u ∈ iv zs, u.oneCell' = true := by
  intro u hu
  obtain ⟨x, _, rfl⟩ := List.mem_map.1 hu
  rfl
namespace Wd
/-- whether a number is in a list -/
def hasN (zs : List Int) (n : Int) : Bool := decide (n ∈ zs)
end Wd
theorem hasN_yes {zs : List Int} {n : Int} {k : Nat} (hk : k < zs.length) (h : zs[k] = n) : hasN zs n = true := decide_eq_true (h ▸ List.getElem_mem hk)
theorem hasN_no {zs : List Int} {n : Int} (h : ∀ j (hj : j < zs.length), zs[j] ≠ n) : hasN zs n = false := decide_eq_false (fun hm => by
  obtain ⟨j, hj, e⟩ := List.getElem_of_mem hm
  exact h j hj e)
end Go.Proofs.Ytaffachjopjbgaa
namespace Go.Proofs.Ytaffachjopjbgaa
open Go.RowKit
open Wd
set_option linter.unusedVariables false
namespace Wd
/-- the numbers below k that are wanted -/
def finK (p : Nat → Bool) (k : Nat) : List Int := ((List.range k).filter p).map fun (s : Nat) => (s : Int)
theorem finK_zero (p : Nat → Bool) : finK p 0 = [] := rfl
theorem finK_yes {p : Nat → Bool} {k : Nat} (h : p k = true) : finK p (k + 1) = finK p k ++ [(k : Int)] := by simp [finK, List.range_succ, List.filter_append, h]
theorem finK_no {p : Nat → Bool} {k : Nat} (h : p k = false) : finK p (k + 1) = finK p k := by simp [finK, List.range_succ, List.filter_append, h]
theorem finK_len (p : Nat → Bool) (k : Nat) : (finK p k).length ≤ k := by
  unfold finK
  rw [List.length_map]
  have := List.length_filter_le p (List.range k)
  rwa [List.length_range] at this
def notP (x : Au) (s : Nat) : Bool := !hasN x.fin (s : Int)
def notA (x : Au) : Au := ⟨x.st, x.go, finK (notP x) x.st.toNat, x.nx⟩
def zeroA : Au := ⟨0, 0, [], []⟩
def autNotAuto (x : Au) : Au × Int := if aOk x = true then (notA x, 0) else (zeroA, 1)
end Wd
theorem zeroA_few : FewA zeroA := ⟨by decide, by decide, by intro r hr; simp [zeroA] at hr⟩
theorem autNotAuto_few {x : Au} (hf : FewA x) : FewA (autNotAuto x).1 := by
  unfold autNotAuto
  by_cases h : aOk x = true
  · rw [if_pos h]
    have h1 := (aOk_parts h).1
    refine ⟨?_, hf.nx, hf.row⟩
    have := finK_len (notP x) x.st.toNat
    show (finK (notP x) x.st.toNat).length ≤ 1048576
    omega
  · rw [if_neg h]; exact zeroA_few
theorem zeroA_is (w : World) : IsAu w (.agg #[.int .i64 0, .int .i64 0, .slice none 0 0, .slice none 0 0]) zeroA :=
  ⟨_, _, rfl, ⟨none, 0, rfl, .inl rfl⟩, ⟨none, 0, rfl, .inl rfl⟩⟩
/-- the zero answer is the call's own -/
theorem zeroA_own (w : World) (lo : Nat) : OwnA w lo (.slice none 0 0) (.slice none 0 0) [] zeroA.fin zeroA.nx :=
  ⟨World.ownsRow_nil _ _ _ _, ⟨World.ownsRow_nil _ _ _ _, Rws.nil _ _⟩, fun u hu => by simp at hu⟩
/-- four cells of a block -/
abbrev B4 (w : World) (b : Nat) (c0 c1 c2 c3 : Value) (t : TypeId) : Prop := w.heap[b]? = some (.cells #[c0, c1, c2, c3] t (0, 0))
theorem B4.lt {w : World} {b : Nat} {c0 c1 c2 c3 : Value} {t : TypeId} (h : B4 w b c0 c1 c2 c3 t) : b < w.heap.size := (Array.getElem?_eq_some_iff.1 h).1
theorem B4.kept {w w' : World} {b : Nat} {c0 c1 c2 c3 : Value} {t : TypeId} (h : B4 w b c0 c1 c2 c3 t) (hb : Below w.heap.size w w') : B4 w' b c0 c1 c2 c3 t := (hb.block b h.lt).trans h
theorem B4.alloc {w : World} {b : Nat} {c0 c1 c2 c3 : Value} {t : TypeId} (h : B4 w b c0 c1 c2 c3 t) (o : Obj) : B4 (w.alloc o) b c0 c1 c2 c3 t := h.kept ((Below.refl _ w).alloc (Nat.le_refl _) o)
theorem B4.far {w : World} {b : Nat} {c0 c1 c2 c3 : Value} {t : TypeId} (h : B4 w b c0 c1 c2 c3 t) (p : Addr) (u : Value) (hp : b ≠ p.block) : B4 (w.setCell p u) b c0 c1 c2 c3 t := (Below.heap_setCell w p u b hp).trans h
theorem B4.grown {w w' : World} {b : Nat} {c0 c1 c2 c3 : Value} {t : TypeId} {row : Option Nat} (h : B4 w b c0 c1 c2 c3 t) (hg : w.grownBy w' row) (hne : row ≠ some b) : B4 w' b c0 c1 c2 c3 t := (hg.block b h.lt (fun e => hne e.symm)).trans h
theorem B4.new (w : World) (c0 c1 c2 c3 : Value) (t : TypeId) : B4 (w.alloc (.cells #[c0, c1, c2, c3] t)) w.heap.size c0 c1 c2 c3 t := heap_alloc_new w _
/-- an automaton whose final states are being found: it lies in block X, its rows before B, its finals from B on -/
structure FSt (w : World) (X : Nat) (st go : Int) (nx : List (List Int)) (fin : List Int) (f n : Value) (wr : World) : Prop where
  out : B4 wr X (.int .i64 st) (.int .i64 go) f n 33
  own : ∃ (U : List Value) (B : Nat), OwnM wr w.heap.size n U nx ∧ (∀ u ∈ U, ∀ q, u.ownBlock = some q → q < B) ∧ (∀ q, n.ownBlock = some q → q < B) ∧ X < B ∧ B ≤ wr.heap.size ∧ OwnsI wr B f fin
  x : w.heap.size ≤ X
  below : Below w.heap.size w wr
theorem FSt.drewN {w wr : World} {X : Nat} {st go : Int} {nx : List (List Int)} {fin : List Int} {f n : Value} (h : FSt w X st go nx fin f n wr) (q : Nat) : FSt w X st go nx fin f n (wr.drewN q) := by
  obtain ⟨U, B, h1, h2, h3, h4, h5, h6⟩ := h.own
  exact ⟨h.out, ⟨U, B, h1.kept (below_drewN (Below.refl _ wr) q), h2, h3, h4, h5, h6⟩, h.x, below_drewN h.below q⟩
theorem grownBy_set (w : World) (p : Addr) (u : Value) : w.grownBy (w.setCell p u) (some p.block) :=
  ⟨rfl, rfl, rfl, by simp, fun i hi hne => Below.heap_setCell w p u i (fun e => hne (by rw [e]))⟩
theorem OwnM.apart {w w' : World} {lo B : Nat} {v : Value} {U : List Value} {Z : List (List Int)} {row : Option Nat} (h : OwnM w lo v U Z) (hU : ∀ u ∈ U, ∀ q, u.ownBlock = some q → q < B) (hv : ∀ q, v.ownBlock = some q → q < B) (hg : w.grownBy w' row) (hrow : ∀ q, row = some q → B ≤ q) : OwnM w' lo v U Z := by
  have key : ∀ y : Value, (∀ q, y.ownBlock = some q → q < B) → y.ownBlock = none ∨ y.ownBlock ≠ row := fun y hy => by
    cases e : y.ownBlock with
    | none => exact .inl rfl
    | some q => exact .inr fun e' => by have h1 := hy q e; have h2 := hrow q e'.symm; omega
  exact ⟨World.ownsRow.kept h.outer hg (key v hv), h.rows.len, fun j u zs h1 h2 => World.ownsRow.kept (h.rows.row j u zs h1 h2) hg (key u (hU u (List.mem_iff_getElem?.2 ⟨j, h1⟩))), h.rows.ne⟩
theorem own_b4_ne {w : World} {B e s n X : Nat} {v : Value} {xs : List Value} {c0 c1 c2 c3 : Value} {t : TypeId} (h : w.ownsRow B e s v n xs) (hx : B4 w X c0 c1 c2 c3 t) (hne : e ≠ t) : v.ownBlock = none ∨ v.ownBlock ≠ some X := by
  rcases h.2 with ⟨rfl, _⟩ | ⟨g, cap, cur, rfl, _, hg, _⟩
  · exact .inl rfl
  · refine .inr fun e => ?_
    have : g = X := by simpa [Value.ownBlock] using e
    subst this
    rw [hx] at hg
    injection hg with h1
    injection h1 with _ h2
    exact hne h2.symm
theorem OwnM.setB4 {w : World} {lo X : Nat} {v : Value} {U : List Value} {Z : List (List Int)} {c0 c1 c2 c3 : Value} (h : OwnM w lo v U Z) (hx : B4 w X c0 c1 c2 c3 33) (i : Nat) (u : Value) : OwnM (w.setCell ⟨X, i, none⟩ u) lo v U Z :=
  ⟨World.ownsRow.kept h.outer (grownBy_set w ⟨X, i, none⟩ u) (own_b4_ne h.outer hx (by decide)), h.rows.len, fun j y zs h1 h2 => World.ownsRow.kept (h.rows.row j y zs h1 h2) (grownBy_set w ⟨X, i, none⟩ u) (own_b4_ne (h.rows.row j y zs h1 h2) hx (by decide)), h.rows.ne⟩
theorem FSt.append {w wr w5 : World} {X : Nat} {st go : Int} {nx : List (List Int)} {fin : List Int} {f n f' : Value} {k : Int} {o : Obj} {U : List Value} {B : Nat} (h : FSt w X st go nx fin f n wr)
    (h' : OwnM wr w.heap.size n U nx ∧ (∀ u ∈ U, ∀ q, u.ownBlock = some q → q < B) ∧ (∀ q, n.ownBlock = some q → q < B) ∧ X < B ∧ B ≤ wr.heap.size ∧ OwnsI wr B f fin)
    (hown : w5.ownsRow B 2 1 f' (fin.length + 1) (iv fin ++ [.int .i64 k])) (hg : (wr.alloc o).grownBy w5 f.ownBlock) : FSt w X st go nx (fin ++ [k]) f' n (w5.setCell ⟨X, 2, none⟩ f') := by
  obtain ⟨h1, h2, h3, h4, h5, h6⟩ := h'
  have hrow : ∀ q, f.ownBlock = some q → B ≤ q := fun q hq => (h6.lt q hq).1
  have ho5 : B4 w5 X (.int .i64 st) (.int .i64 go) f n 33 := (h.out.alloc o).grown hg (fun e => by have := hrow X e; omega)
  have hs := hg.size
  refine ⟨blk4_2 ho5, ⟨U, B, (((h1.kept ((Below.refl _ wr).alloc (Nat.le_refl _) o)).apart h2 h3 hg hrow).setB4 ho5 2 f'), h2, h3, h4, ?_, ?_⟩, h.x, ?_⟩
  · simp at hs ⊢; omega
  · have e1 : OwnsI w5 B f' (fin ++ [k]) := by
      unfold OwnsI
      rw [List.length_append, iv_app]
      exact hown
    exact own_setLow e1 ⟨X, 2, none⟩ f' h4
  · have := h.x
    exact ((h.below.alloc h.below.size o).grown hg (by have := h.below.size; simp; omega) (fun q hq => by have := hrow q hq; omega)).setCell (by simpa using h.x) _
theorem FSt.start1 {w w7 : World} {st go : Int} {nx : List (List Int)} {y : Value} (h : ∃ U, OwnM w7 w.heap.size y U nx) (hb : Below w.heap.size w w7) : FSt w w7.heap.size st go nx [] (.slice none 0 0) y (w7.alloc (.cells #[.int .i64 st, .int .i64 go, .slice none 0 0, y] 33)) := by
  obtain ⟨U, h⟩ := h
  have h' := h.kept ((Below.refl _ w7).alloc (Nat.le_refl _) (.cells #[.int .i64 st, .int .i64 go, .slice none 0 0, y] 33))
  exact ⟨B4.new _ _ _ _ _ _, ⟨U, w7.heap.size + 1, h', fun u hu q hq => by have := (h.rows.ge u hu q hq).2; omega, fun q hq => by have := (h.outer.lt q hq).2; omega, by omega, by simp, World.ownsRow_nil _ _ _ _⟩, hb.size, hb.alloc hb.size _⟩
theorem FSt.start2 {w w7 : World} {st go : Int} {nx : List (List Int)} {y : Value} {c0 c1 c2 c3 : Value} (h : ∃ U, OwnM w7 w.heap.size y U nx) (hb : Below w.heap.size w w7) (hx : B4 w7 w.heap.size c0 c1 c2 c3 33) : FSt w w.heap.size st go nx [] (.slice none 0 0) y ((((w7.setCell ⟨w.heap.size, 0, none⟩ (.int .i64 st)).setCell ⟨w.heap.size, 1, none⟩ (.int .i64 go)).setCell ⟨w.heap.size, 2, none⟩ (.slice none 0 0)).setCell ⟨w.heap.size, 3, none⟩ y) := by
  obtain ⟨U, h⟩ := h
  have hX := hx.lt
  have b1 := blk4_01 (a' := .int .i64 st) (b' := c1) hx
  have g1 : w7.grownBy ((((w7.setCell ⟨w.heap.size, 0, none⟩ (.int .i64 st)).setCell ⟨w.heap.size, 1, none⟩ (.int .i64 go)).setCell ⟨w.heap.size, 2, none⟩ (.slice none 0 0)).setCell ⟨w.heap.size, 3, none⟩ y) (some w.heap.size) := by
    refine ⟨rfl, rfl, rfl, by simp, fun i hi hne => ?_⟩
    have hne' : i ≠ w.heap.size := fun e => hne (by rw [e])
    rw [Below.heap_setCell _ _ _ _ hne', Below.heap_setCell _ _ _ _ hne', Below.heap_setCell _ _ _ _ hne', Below.heap_setCell _ _ _ _ hne']
  have hk : OwnM ((((w7.setCell ⟨w.heap.size, 0, none⟩ (.int .i64 st)).setCell ⟨w.heap.size, 1, none⟩ (.int .i64 go)).setCell ⟨w.heap.size, 2, none⟩ (.slice none 0 0)).setCell ⟨w.heap.size, 3, none⟩ y) w.heap.size y U nx :=
    ⟨World.ownsRow.kept h.outer g1 (own_b4_ne h.outer hx (by decide)), h.rows.len, fun j y zs h1 h2 => World.ownsRow.kept (h.rows.row j y zs h1 h2) g1 (own_b4_ne (h.rows.row j y zs h1 h2) hx (by decide)), h.rows.ne⟩
  exact ⟨blk4_all hx, ⟨U, w7.heap.size, hk, fun u hu q hq => (h.rows.ge u hu q hq).2, fun q hq => (h.outer.lt q hq).2, hX, by simp, World.ownsRow_nil _ _ _ _⟩, Nat.le_refl _, (((hb.setCell (Nat.le_refl _) _).setCell (Nat.le_refl _) _).setCell (Nat.le_refl _) _).setCell (Nat.le_refl _) _⟩
end Go.Proofs.Ytaffachjopjbgaa
namespace Go.Proofs.Ytaffachjopjbgaa
open Go.RowKit
open Wd
set_option linter.unusedVariables false
/-- cells of a row of one's own, stored one behind the other -/
theorem own_setCells {B e s g c n : Nat} : ∀ (vs : List Value) (o : Nat) (w : World) (xs : List Value), w.ownsRow B e s (.slice (some ⟨g, 0, none⟩) n c) n xs → o + vs.length ≤ xs.length →
    (w.setCells g o vs).ownsRow B e s (.slice (some ⟨g, 0, none⟩) n c) n (xs.take o ++ vs ++ xs.drop (o + vs.length))
  | [], o, w, xs, h, ho => by
    have : xs.take o ++ [] ++ xs.drop (o + ([] : List Value).length) = xs := by simp
    rw [this]; exact h
  | v :: r, o, w, xs, h, ho => by
    have h1 := (h.stored o v).1
    have ho' : o < xs.length := by simp at ho; omega
    have h2 := own_setCells r (o + 1) _ _ h1 (by simp at ho ⊢; omega)
    have e1 : (xs.set o v).take (o + 1) ++ r ++ (xs.set o v).drop (o + 1 + r.length) = xs.take o ++ v :: r ++ xs.drop (o + (v :: r).length) := by
      rw [List.take_succ_eq_append_getElem (by simpa using ho'), List.take_set_of_le (Nat.le_refl _), List.drop_set_of_lt (by omega)]
      simp [Nat.add_assoc, Nat.add_comm 1]
    rw [e1] at h2
    exact h2
theorem below_setCells {B : Nat} {w : World} : ∀ (vs : List Value) (g o : Nat) (w' : World), B ≤ g → Below B w w' → Below B w (w'.setCells g o vs)
  | [], g, o, w', hg, h => h
  | v :: r, g, o, w', hg, h => below_setCells r g (o + 1) _ hg (h.setCell (p := ⟨g, o, none⟩) hg v)
theorem heap_setCells (b : Nat) : ∀ (vs : List Value) (g o : Nat) (w : World), b ≠ g → (w.setCells g o vs).heap[b]? = w.heap[b]?
  | [], g, o, w, h => rfl
  | v :: r, g, o, w, h => (heap_setCells b r g (o + 1) _ h).trans (Below.heap_setCell w ⟨g, o, none⟩ v b h)
namespace Wd
/-- all rows of maps are 24 wide -/
def wide (ms : List (List Int)) : Prop := ∀ r ∈ ms, r.length = 24
/-- the maps so far, and zeros -/
def flK (ms : List (List Int)) (n : Nat) : List Int := ms.flatten ++ List.replicate ((n - ms.length) * 24) 0
end Wd
theorem flat_len : ∀ (ms : List (List Int)), wide ms → ms.flatten.length = ms.length * 24
  | [], _ => rfl
  | r :: ms, h => by
    rw [List.flatten_cons, List.length_append, h r (by simp), flat_len ms (fun x hx => h x (by simp [hx])), List.length_cons]
    omega
theorem flat_get : ∀ (ms : List (List Int)), wide ms → ∀ j i, j < ms.length → i < 24 → ms.flatten[j * 24 + i]? = some ((ms.getD j []).getD i 0)
  | [], _, j, i, hj, _ => by simp at hj
  | r :: ms, h, j, i, hj, hi => by
    have hr := h r (by simp)
    rw [List.flatten_cons]
    cases j with
    | zero =>
      rw [List.getElem?_append_left (by omega)]
      simp only [Nat.zero_mul, Nat.zero_add, List.getD_cons_zero]
      rw [List.getD_eq_getElem?_getD, List.getElem?_eq_getElem (by omega)]
      rfl
    | succ j =>
      rw [List.getElem?_append_right (by omega), hr, show (j + 1) * 24 + i - 24 = j * 24 + i from by omega, List.getD_cons_succ]
      exact flat_get ms (fun x hx => h x (by simp [hx])) j i (by simpa using hj) hi
theorem flK_len (ms : List (List Int)) (n : Nat) (h : wide ms) (hn : ms.length ≤ n) : (flK ms n).length = n * 24 := by
  unfold flK
  rw [List.length_append, flat_len ms h, List.length_replicate]
  omega
theorem flK_store (ms : List (List Int)) (n : Nat) (r : List Int) (h : wide ms) (hr : r.length = 24) (hn : ms.length < n) : (iv (flK ms n)).take (ms.length * 24) ++ iv r ++ (iv (flK ms n)).drop (ms.length * 24 + (iv r).length) = iv (flK (ms ++ [r]) n) := by
  have hf := flat_len ms h
  unfold flK
  rw [iv_app, List.take_append_of_le_length (by rw [iv_len]; omega), List.take_of_length_le (by rw [iv_len]; omega), List.drop_append, iv_len, iv_len, hf, hr, List.drop_of_length_le (by rw [iv_len]; omega)]
  rw [List.flatten_append, iv_app, iv_app]
  simp only [List.flatten_cons, List.flatten_nil, List.append_nil, List.nil_append, List.length_append, List.length_cons, List.length_nil]
  congr 1
  rw [show ms.length * 24 + 24 - ms.length * 24 = 24 from by omega, show (n - ms.length) * 24 = 24 + (n - (ms.length + 1)) * 24 from by omega]
  simp [iv, List.map_replicate, List.drop_replicate]
/-- maps in a slice, in a block from lo on -/
def IsMs (w : World) (lo : Nat) (v : Value) (ms : List (List Int)) : Prop :=
  ∃ (A : Option Addr) (c : Nat), v = .slice A ms.length c ∧ (ms = [] ∨ ∃ g, A = some ⟨g, 0, none⟩ ∧ (lo ≤ g ∧ g < w.heap.size) ∧ ∀ j i, j < ms.length → i < 24 → w.cell? ⟨g, j * 24 + i, none⟩ = some (.int .i64 ((ms.getD j []).getD i 0)))
theorem IsMs.kept {w w' : World} {lo : Nat} {v : Value} {ms : List (List Int)} (h : IsMs w lo v ms) (hb : Below w.heap.size w w') : IsMs w' lo v ms := by
  obtain ⟨A, c, hv, h | ⟨g, hA, hg, hc⟩⟩ := h
  · exact ⟨A, c, hv, .inl h⟩
  · exact ⟨A, c, hv, .inr ⟨g, hA, ⟨hg.1, Nat.lt_of_lt_of_le hg.2 hb.size⟩, fun j i hj hi => (hb.cell (p := ⟨g, j * 24 + i, none⟩) hg.2).trans (hc j i hj hi)⟩⟩
theorem IsMs.lower {w : World} {lo B : Nat} {v : Value} {ms : List (List Int)} (h : IsMs w lo v ms) (hB : B ≤ lo) : IsMs w B v ms := by
  obtain ⟨A, c, hv, h | ⟨g, hA, hg, hc⟩⟩ := h
  · exact ⟨A, c, hv, .inl h⟩
  · exact ⟨A, c, hv, .inr ⟨g, hA, ⟨by omega, hg.2⟩, hc⟩⟩
theorem IsMs.far {w : World} {lo : Nat} {v : Value} {ms : List (List Int)} (h : IsMs w lo v ms) (p : Addr) (u : Value) (hp : p.block < lo) : IsMs (w.setCell p u) lo v ms := by
  obtain ⟨A, c, hv, h | ⟨g, hA, hg, hc⟩⟩ := h
  · exact ⟨A, c, hv, .inl h⟩
  · exact ⟨A, c, hv, .inr ⟨g, hA, ⟨hg.1, by simpa using hg.2⟩, fun j i hj hi => (World.cell?_of_block (a := ⟨g, j * 24 + i, none⟩) (Below.heap_setCell w p u g (by omega))).trans (hc j i hj hi)⟩⟩
theorem isMs_of_own {w : World} {B e g c n : Nat} {ms : List (List Int)} (h : w.ownsRow B e 24 (.slice (some ⟨g, 0, none⟩) n c) n (iv (flK ms n))) (hw : wide ms) (hn : ms.length = n) : IsMs w B (.slice (some ⟨g, 0, none⟩) n c) ms := by
  refine ⟨_, c, by rw [hn], .inr ⟨g, rfl, h.lt g rfl, fun j i hj hi => ?_⟩⟩
  have hf := flat_get ms hw j i hj hi
  have hl := flat_len ms hw
  have hlt : j * 24 + i < (flK ms n).length := by rw [flK_len ms n hw (by omega)]; omega
  rw [h.cellAt (j * 24 + i) (by rw [flK_len ms n hw (by omega)] at hlt; omega), iv_get _ _ hlt]
  have e : (flK ms n)[j * 24 + i]? = some ((ms.getD j []).getD i 0) := by
    unfold flK
    rw [List.getElem?_append_left (by rw [hl]; omega)]
    exact hf
  rw [List.getElem?_eq_getElem hlt] at e
  injection e with e
  rw [e]
/-- a map of a row of one's own, as a range -/
theorem range_of_own {w : World} {B e g c n : Nat} {ms : List (List Int)} (h : w.ownsRow B e 24 (.slice (some ⟨g, 0, none⟩) n c) n (iv (flK ms n))) (hw : wide ms) (hn : ms.length ≤ n) (j : Nat) (hj : j < ms.length) : w.rangeAt g (j * 24) (iv (ms.getD j [])) := by
  intro i v hv
  have hrow : (ms.getD j []).length = 24 := by rw [List.getD_eq_getElem?_getD, List.getElem?_eq_getElem hj]; exact hw _ (List.getElem_mem hj)
  have hi : i < 24 := by have := (List.getElem?_eq_some_iff.1 hv).1; rw [iv_len, hrow] at this; exact this
  rw [iv_get _ i (by omega)] at hv
  injection hv with hv
  subst hv
  have hf := flat_get ms hw j i hj hi
  have hl := flat_len ms hw
  have hlt : j * 24 + i < (flK ms n).length := by rw [flK_len ms n hw hn]; omega
  rw [h.cellAt (j * 24 + i) (by rw [flK_len ms n hw hn] at hlt; omega), iv_get _ _ hlt]
  have e : (flK ms n)[j * 24 + i]? = some ((ms.getD j []).getD i 0) := by
    unfold flK
    rw [List.getElem?_append_left (by rw [hl]; omega)]
    exact hf
  rw [List.getElem?_eq_getElem hlt] at e
  injection e with e
  rw [e, List.getD_eq_getElem?_getD, List.getElem?_eq_getElem (by omega)]
  rfl
theorem there_of_own {w : World} {B e g c n : Nat} {ms : List (List Int)} (h : w.ownsRow B e 24 (.slice (some ⟨g, 0, none⟩) n c) n (iv (flK ms n))) (hw : wide ms) (hn : ms.length < n) : w.there g (ms.length * 24) 24 := by
  intro i hi
  have hlt : ms.length * 24 + i < (flK ms n).length := by rw [flK_len ms n hw (by omega)]; omega
  refine ⟨?_, h.frozenAt _⟩
  rw [h.cellAt _ (by rw [flK_len ms n hw (by omega)] at hlt; omega), iv_get _ _ hlt]
  rfl
theorem Try.info_map : (Try.prog.info? 197).map (fun i => (i.zero, i.size, i.bytes)) = some (some (.agg (iv (List.replicate 24 0)).toArray), 24, 192) := by kernel_rfl
theorem made_map (n : Nat) : (madeCells (Value.agg (iv (List.replicate 24 0)).toArray).cells (n * 24)).toList = iv (flK [] n) := by
  apply List.ext_getElem
  · simp [madeCells, iv, flK]
  · intro i h1 h2
    have : (i % 24) < 24 := Nat.mod_lt _ (by omega)
    simp only [madeCells, iv, flK, Value.cells]
    simp
    show (List.replicate 24 (Value.int .i64 0))[i % 24]?.getD default = _
    rw [List.getElem?_replicate, if_pos this]
    rfl
theorem tm_ll (v : Value) (w : World) : (Instr.typeAssert (.iface 211 v) 194 211 true).run Try.prog w = .ok (.tuple #[v, .bool true]) w := by kernel_rfl
theorem tm_pl (v : Value) (w : World) : (Instr.typeAssert (.iface 198 v) 194 211 true).run Try.prog w = .ok (.tuple #[.agg #[.string ⟨#[]⟩, .int .i64 0, .int .i64 0], .bool false]) w := by kernel_rfl
theorem tm_pp (v : Value) (w : World) : (Instr.typeAssert (.iface 198 v) 194 198 true).run Try.prog w = .ok (.tuple #[v, .bool true]) w := by kernel_rfl
theorem range_steps {w : World} {T : Nat} {nx : List (List Int)} {t : TypeId} (h : w.heap[T]? = some (.cells (iv (stAll nx)).toArray t (0, 0))) (d : Nat) (hd : d < 4) : w.rangeAt T (d * 24) (iv (stepsRow nx d)) := by
  intro i v hv
  have hi : i < 24 := by have := (List.getElem?_eq_some_iff.1 hv).1; rw [iv_len, stepsRow_len] at this; exact this
  rw [iv_get _ i (by rw [stepsRow_len]; exact hi)] at hv
  injection hv with hv
  subst hv
  rw [cell_of_row _ _ _ _ _ _ h, List.getElem?_toArray, iv_get _ _ (by rw [stAll_len]; omega)]
  simp only [stAll, stepsRow, List.getElem_map, List.getElem_range]
  rw [show (d * 24 + i) % 24 = i from by omega, show (d * 24 + i) / 24 = d from by omega]
theorem mapsK_wide {nx : List (List Int)} {st : Int} {gs : List Rl} (h : nx.all (rowOk st) = true) (hl : (nx.length : Int) = st) (h1 : 1 ≤ st) (h24 : st ≤ 24) (hfit : fits gs = true) (k : Nat) (hk : k ≤ gs.length) : wide (mapsK nx gs k) := by
  intro r hr
  obtain ⟨j, hj, rfl⟩ := List.mem_iff_getElem.1 hr
  have hjk : j < k := by rwa [mapsK_len] at hj
  have := (mapsK_ok h hl h1 h24 hfit k hk j hjk).1
  rwa [List.getD_eq_getElem?_getD, List.getElem?_eq_getElem hj, Option.getD_some] at this
/-- what holds between two rules: w is the world ahead of the maps, which lie in block M -/
def WkRel (nx : List (List Int)) (gs : List Rl) (w : World) (M n : Nat) (i : Value) (wr : World) : Prop :=
  ∃ k : Nat, k ≤ n ∧ i = .int .i64 k ∧ wr.ownsRow M 197 24 (.slice (some ⟨M, 0, none⟩) n n) n (iv (flK (mapsK nx gs k) n)) ∧ Below M w wr
theorem wk_store {w : World} {M n : Nat} {ms : List (List Int)} {row : List Int} (h : w.ownsRow M 197 24 (.slice (some ⟨M, 0, none⟩) n n) n (iv (flK ms n))) (hw : wide ms) (hr : row.length = 24) (hn : ms.length < n) :
    (w.setCells M (ms.length * 24) (iv row)).ownsRow M 197 24 (.slice (some ⟨M, 0, none⟩) n n) n (iv (flK (ms ++ [row]) n)) := by
  have := own_setCells (iv row) (ms.length * 24) w _ h (by rw [iv_len, iv_len, hr, flK_len ms n hw (by omega)]; omega)
  rwa [flK_store ms n row hw hr hn] at this
theorem mapsK_next (nx : List (List Int)) (gs : List Rl) (k : Nat) (h : k < gs.length) : mapsK nx gs (k + 1) = mapsK nx gs k ++ [rowM nx (mapsK nx gs k) gs[k]] := by
  rw [mapsK, List.getD_eq_getElem?_getD, List.getElem?_eq_getElem h]
  rfl
/-- a walk's value over rules that came in; its lengths and maps lie in blocks from lo on -/
def IsW (w : World) (lo : Nat) (wv gv : Value) (gs : List Rl) (nx : List (List Int)) (go : Int) : Prop :=
  ∃ lv mv, wv = .agg #[gv, lv, mv, .int .i64 go] ∧ OwnsI w lo lv (lens gs) ∧ IsMs w lo mv (mapsK nx gs gs.length)
theorem IsW.kept {w w' : World} {lo : Nat} {wv gv : Value} {gs : List Rl} {nx : List (List Int)} {go : Int} (h : IsW w lo wv gv gs nx go) (hb : Below w.heap.size w w') : IsW w' lo wv gv gs nx go := by
  obtain ⟨lv, mv, h0, h2, h3⟩ := h
  exact ⟨lv, mv, h0, own_below h2 hb (Nat.le_refl _), h3.kept hb⟩
theorem IsW.lower {w : World} {lo B : Nat} {wv gv : Value} {gs : List Rl} {nx : List (List Int)} {go : Int} (h : IsW w lo wv gv gs nx go) (hB : B ≤ lo) : IsW w B wv gv gs nx go := by
  obtain ⟨lv, mv, h0, h2, h3⟩ := h
  exact ⟨lv, mv, h0, own_lower h2 hB, h3.lower hB⟩
theorem IsW.far {w : World} {lo : Nat} {wv gv : Value} {gs : List Rl} {nx : List (List Int)} {go : Int} (h : IsW w lo wv gv gs nx go) (p : Addr) (u : Value) (hp : p.block < lo) : IsW (w.setCell p u) lo wv gv gs nx go := by
  obtain ⟨lv, mv, h0, h2, h3⟩ := h
  exact ⟨lv, mv, h0, own_setLow h2 p u hp, h3.far p u hp⟩
theorem IsW.shape {w : World} {lo : Nat} {wv gv : Value} {gs : List Rl} {nx : List (List Int)} {go : Int} (h : IsW w lo wv gv gs nx go) : ∃ A2 c2 A3 c3, wv = .agg #[gv, .slice A2 (lens gs).length c2, .slice A3 gs.length c3, .int .i64 go] := by
  obtain ⟨lv, mv, rfl, h2, h3⟩ := h
  obtain ⟨A2, c2, rfl⟩ := own_slice h2
  obtain ⟨A3, c3, rfl, h3'⟩ := h3
  exact ⟨A2, c2, A3, c3, by rw [mapsK_len]⟩
def zeroW : Value := .agg #[.slice none 0 0, .slice none 0 0, .slice none 0 0, .int .i64 0]
set_option maxRecDepth 100000 in
set_option maxHeartbeats 12800000 in
theorem walkOf_any (go st : Int) (nv : Value) (nx : List (List Int)) (v : Value) (gs : List Rl) (w : World) (h1 : 1 ≤ st) (h24 : st ≤ 24) (hrow : nx.all (rowOk st) = true) (hlen : (nx.length : Int) = st) (hN : IsLL w nv nx) (hf : FewR gs) (hr : Rules w v gs) :
    Calls Try.prog 155 #[.int .i64 go, nv, .agg #[v]] w fun e w' => ∃ wv, e = .returned (.tuple #[wv, .bool (gOk gs)]) ∧ (gOk gs = true → IsW w' w.heap.size wv v gs nx go) ∧ (gOk gs = false → wv = zeroW) ∧ Below w.heap.size w w' := by
  obtain ⟨i0, hi, hz0, hz1, hz2⟩ := info_parts Try.info_map
  have hzv := (zero_of_info (P := Try.prog) zero_steps).1
  have hb : Below w.heap.size w ((w.alloc (.cells #[v] 37)).alloc (.cells #[.slice none 0 0, .slice none 0 0, .slice none 0 0, .int .i64 0] 110)) := ((Below.refl _ w).alloc (Nat.le_refl _) _).alloc (by simp) _
  have hG : ((w.alloc (.cells #[v] 37)).alloc (.cells #[.slice none 0 0, .slice none 0 0, .slice none 0 0, .int .i64 0] 110)).cell? ⟨w.heap.size, 0, none⟩ = some v := by
    have b2 := (Below.refl _ (w.alloc (.cells #[v] 37))).alloc (Nat.le_refl _) (.cells #[.slice none 0 0, .slice none 0 0, .slice none 0 0, .int .i64 0] 110)
    exact (b2.cell (p := ⟨w.heap.size, 0, none⟩) (by simp)).trans (cell_new w v _)
  have hR : B4 ((w.alloc (.cells #[v] 37)).alloc (.cells #[.slice none 0 0, .slice none 0 0, .slice none 0 0, .int .i64 0] 110)) (w.heap.size + 1) (.slice none 0 0) (.slice none 0 0) (.slice none 0 0) (.int .i64 0) 110 := by
    have := B4.new (w.alloc (.cells #[v] 37)) (.slice none 0 0) (.slice none 0 0) (.slice none 0 0) (.int .i64 0) 110
    rwa [show (w.alloc (.cells #[v] 37)).heap.size = w.heap.size + 1 from by simp] at this
  have hl1 := len.vlen_any v gs _ hf (hr.kept hb)
  unfold LensPost at hl1
  have HL := Lib.hid hl1
  have HB := Lib.hid hb
  have HG := Lib.hid hG
  have HR := Lib.hid hR
  have HRU := Lib.hid (fun W (hb : Below w.heap.size w W) => hr.kept hb)
  have HS := Lib.hid (fun W (hb : Below w.heap.size w W) => stepsOf_any nv nx st W hlen h24 hrow (hN.kept hb))
  have HROW := Lib.hid hrow
  have HLEN := Lib.hid hlen
  obtain ⟨An, cn, rfl, _⟩ := hN
  obtain ⟨Av, cv, rfl, _⟩ := hr
  clear hb hR hl1 hrow hlen
  cases hok : gOk gs
  · rw [hok] at HL
    clear hok
    go_enter Try.func155, Try.ntmps155
    go_wp2_with fail
    refine HL.out.mono ?_
    rintro e w3 ⟨x, rfl, _, hB3⟩
    have HB3 := Lib.hid (HB.out.trans (hB3.mono HB.out.size))
    have HR3 := Lib.hid (HR.out.kept hB3)
    obtain ⟨⟨r0, r1, r2, r3⟩, g0, g1, g2, g3⟩ := blk4_cells HR3.out
    have HE := Lib.hid (blk4_cells (blk4_all (a' := .slice none 0 0) (b' := .slice none 0 0) (c' := .slice none 0 0) (d' := .int .i64 0) HR3.out)).1
    clear hB3
    go_wp2_with fail
    obtain ⟨y0, y1, y2, y3⟩ := HE.out
    refine bodyPost_ret (v := .tuple #[zeroW, .bool false]) (by simp [results, Try.results155, go_sem, y0, y1, y2, y3, zeroW]) rfl ⟨_, rfl, fun h => (by cases h), fun _ => rfl, ?_⟩
    exact (((HB3.out.setCell (by simp) _).setCell (by simp) _).setCell (by simp) _).setCell (by simp) _
  · rw [hok] at HL
    have HOK := Lib.hid hok
    have HFIT := Lib.hid (gOk_iff.1 hok).2.1
    have hn400 := gOk_len hok
    clear hok
    go_enter Try.func155, Try.ntmps155
    go_wp2_with fail
    refine HL.out.mono ?_
    rintro e w3 ⟨x, rfl, ho3, hB3⟩
    have ho3 := ho3 trivial
    have HO3 : Hid (OwnsI w3 (w.heap.size + 2) x (lens gs)) := Lib.hid (by have := ho3; simpa using this)
    obtain ⟨Ax, cx, rfl⟩ := own_slice ho3
    have HB3 := Lib.hid (HB.out.trans (hB3.mono HB.out.size))
    have HR3 := Lib.hid (HR.out.kept hB3)
    have HG3 := Lib.hid ((hB3.cell (p := ⟨w.heap.size, 0, none⟩) (lt_of_cell HG.out)).trans HG.out)
    clear hB3 ho3 hG
    go_wp2_with fail
    refine (HS.out _ HB3.out).mono ?_
    rintro e w4 ⟨rfl, hB4⟩
    have HB4 := Lib.hid (HB3.out.trans (hB4.mono HB3.out.size))
    have HR4 := Lib.hid (HR3.out.kept hB4)
    have HO4 := Lib.hid (own_below HO3.out hB4 (Nat.le_refl _))
    have HG4 := Lib.hid ((hB4.cell (p := ⟨w.heap.size, 0, none⟩) (lt_of_cell HG3.out)).trans HG3.out)
    clear hB4
    obtain ⟨T, hT⟩ : ∃ T, T = w4.heap.size := ⟨_, rfl⟩
    have hsm : (Try.prog.info? 239).map (·.size) = some (iv (stAll nx)).toArray.size := by rw [(zero_of_info zero_steps).2]; simp [iv, stAll_len]
    have hz : (iv Z96).toArray.size = (iv (stAll nx)).toArray.size := by simp [iv, stAll_len, Z96]
    have ho1 : (iv (stAll nx)).toArray.all (·.oneCell') = true := all_oneCell_toArray (fun v hv => by obtain ⟨x, _, rfl⟩ := List.mem_map.1 hv; rfl)
    have HSM := Lib.hid (And.intro hsm (And.intro hz ho1))
    have hT4 := heap_alloc_new w4 (.cells (iv Z96).toArray 239)
    have HTC := Lib.hid (setRow_heap _ w4.heap.size _ (iv (stAll nx)).toArray _ _ hT4)
    have hb5 : Below w4.heap.size w4 ((w4.alloc (.cells (iv Z96).toArray 239)).setRow w4.heap.size (iv (stAll nx)).toArray) := bSetRow ((Below.refl _ w4).alloc (Nat.le_refl _) _) (Nat.le_refl _) _
    have HT4 := Lib.hid hT4
    have HB5 := Lib.hid (HB4.out.trans (hb5.mono HB4.out.size))
    have HR5 := Lib.hid (HR4.out.kept hb5)
    have HO5 := Lib.hid (own_below HO4.out hb5 (Nat.le_refl _))
    have HG5 := Lib.hid ((hb5.cell (p := ⟨w.heap.size, 0, none⟩) (lt_of_cell HG4.out)).trans HG4.out)
    have HTL : Hid (w.heap.size + 1 < T) := Lib.hid (by rw [hT]; exact HR4.out.lt)
    clear hsm hz ho1 hT4 hb5
    go_upto_region 5 with (with_reducible refine wpList_store_row rfl 239 _ _ rfl w4.heap.size _ rfl rfl 239 _ HT4.out HSM.out.1 HSM.out.2.1 HSM.out.2.2 ?_)
    rw [← hT] at HTC HB5 HR5 HO5 HG5 ⊢
    clear HT4 HSM
    generalize (w4.alloc (.cells (iv Z96).toArray 239)).setRow T (iv (stAll nx)).toArray = w5 at *
    clear hT hzv
    have hg5 := HG5.out
    have hs5 := HB5.out.size
    obtain ⟨n, hne⟩ : ∃ n, n = gs.length := ⟨_, rfl⟩
    rw [← hne] at hn400 hg5
    rw [← hne]
    have HN := Lib.hid hne
    clear hne
    go_wp2_with (refine wpList_make_full _ rfl _ _ 107 rfl w5.heap.size 197 i0 (.agg (iv (List.replicate 24 0)).toArray) 24 Try.underlying107 hi hz0 hz1 .i64 .i64 _ _ n rfl rfl rfl rfl (by rw [hz2]; omega) (by unfold maxLen; omega) (Nat.le_refl _) ?_)
    intro w6 hown hgr
    have hown : w6.ownsRow w5.heap.size 197 24 (.slice (some ⟨w5.heap.size, 0, none⟩) n n) n (iv (flK [] n)) := by rw [← made_map]; exact hown
    have hB6 := below_of_grown hgr
    obtain ⟨M, hM⟩ : ∃ M, M = w5.heap.size := ⟨_, rfl⟩
    rw [← hM] at hown hB6 ⊢
    have HST : Hid (WkRel nx gs w5 M n (.int .i64 0) w6) := Lib.hid ⟨0, Nat.zero_le _, rfl, hown, hB6⟩
    have HME := Lib.hid hM
    have hTM : T < M := by rw [hM]; exact (Array.getElem?_eq_some_iff.1 HTC.out).1
    have hg6 := (hB6.cell (p := ⟨w.heap.size, 0, none⟩) (by rw [hM]; exact lt_of_cell HG5.out)).trans HG5.out
    rw [← HN.out] at hg6
    clear hown hgr hB6 hM hg5 hs5
    go_wp2_with fail
    clear hg6
    go_loopw [12, 13, 14, 15, 33] (fun _ _ _ _ i wr => WkRel nx gs w5 M n i wr) (fun _ _ _ _ i _ => n - (intOf i).toNat)
    case atStart => exact HST.out
    case round =>
      obtain ⟨k, hk, rfl, hown, hB⟩ := hrel
      obtain ⟨wo, rfl⟩ : ∃ wo : World, wo = wr := ⟨_, rfl⟩
      have hB' : Below w5.heap.size w5 wo := by rw [← HME.out]; exact hB
      have hBw := HB5.out.trans (hB'.mono HB5.out.size)
      by_cases hkn : k < n
      · have hkg : k < gs.length := by rw [← HN.out]; exact hkn
        obtain ⟨Ay, cy, hvy, hcy⟩ := HRU.out wo hBw
        injection hvy with hvA _ hvc
        subst hvA hvc
        rcases hcy with hn0 | ⟨g, rfl, hg, hc⟩
        · rw [hn0] at hkg; simp at hkg
        obtain ⟨a0, a1, a2⟩ := rules_cells hc hkg
        have hfit := fits_at HFIT.out k hkg
        have hml := mapsK_len nx gs k
        have hw := mapsK_wide HROW.out HLEN.out h1 h24 HFIT.out k (by omega)
        have hnx := mapsK_next nx gs k hkg
        have hok := mapsK_ok HROW.out HLEN.out h1 h24 HFIT.out k (by omega)
        have HOW := Lib.hid hown
        have HBo := Lib.hid hB
        have HW := Lib.hid hw
        have HML := Lib.hid hml
        have hMl : M < wo.heap.size := (hown.lt M rfl).2
        have HTo := Lib.hid ((hB'.block T (by rw [← HME.out]; exact hTM)).trans HTC.out)
        generalize hms : mapsK nx gs k = ms at *
        have k0 : (0 : Int) ≤ (k : Int) := by omega
        have k1 : (k : Int) < (n : Int) := by omega
        clear hc hB hB' hBw hms
        by_cases h0 : gs[k].L.size = 0
        · have hp := (ok_pair h0).1 hfit
          have HK := Lib.hid (fun W => kind_pair gs[k] h0 W)
          have HT1 := tm_pl
          have HT2 := tm_pp
          have hrw : rowM nx ms gs[k] = thenRow (ms.getD gs[k].l.toNat []) (ms.getD gs[k].r.toNat []) := by unfold rowM; rw [if_pos h0]
          generalize gs[k] = R at *
          obtain ⟨L, l, r⟩ := R
          simp only at hp hrw a0 a1 a2 HK
          obtain ⟨a, rfl⟩ : ∃ a : Nat, l = a := ⟨l.toNat, by omega⟩
          obtain ⟨b, rfl⟩ : ∃ b : Nat, r = b := ⟨r.toNat, by omega⟩
          rw [Int.toNat_natCast, Int.toNat_natCast] at hrw
          have ha : a < k := by omega
          have hb : b < k := by omega
          have hoa := hok a ha
          have hob := hok b hb
          have HRA := Lib.hid (fun w8 (hb8 : Below wo.heap.size wo w8) => range_of_own (own_below HOW.out hb8 (Nat.le_refl _)) HW.out (by omega) a (by omega))
          have HRB := Lib.hid (fun w8 (hb8 : Below wo.heap.size wo w8) => range_of_own (own_below HOW.out hb8 (Nat.le_refl _)) HW.out (by omega) b (by omega))
          have HTHR := Lib.hid (fun w8 (hb8 : Below wo.heap.size wo w8) => by
            have := there_of_own (own_below HOW.out hb8 (Nat.le_refl _)) HW.out (by rw [HML.out]; exact hkn)
            rw [HML.out] at this
            exact this)
          generalize ms.getD a [] = ma at *
          generalize ms.getD b [] = mb at *
          have hT24 := thenRow_ok h24 hoa hob
          have HTHEN := Lib.hid (fun W => then_any ma mb st h24 hoa hob W)
          have hsa : (Try.prog.info? 197).map (·.size) = some (iv ma).length := by rw [size_map, iv_len, hoa.1]
          have hsb : (Try.prog.info? 197).map (·.size) = some (iv mb).length := by rw [size_map, iv_len, hob.1]
          have hsr : (Try.prog.info? 197).map (·.size) = some (iv (thenRow ma mb)).length := by rw [size_map, iv_len, hT24.1]
          have hlr : (iv (thenRow ma mb)).length = 24 := by rw [iv_len, hT24.1]
          have ho1 : ∀ v ∈ iv (thenRow ma mb), v.oneCell' = true := fun v hv => by obtain ⟨x, _, rfl⟩ := List.mem_map.1 hv; rfl
          have HZR : Hid ((Try.prog.info? 197).map (·.size) = some (iv (thenRow ma mb)).toArray.size) := Lib.hid (by rw [hsr]; simp)
          have HONE : Hid ((iv (thenRow ma mb)).toArray.all (·.oneCell') = true) := Lib.hid (all_oneCell_toArray ho1)
          have HNX : Hid (∀ w8, Below wo.heap.size wo w8 → WkRel nx gs w5 M n (.int .i64 ((k + 1 : Nat) : Int)) (w8.setCells M (k * 24) (iv (thenRow ma mb)))) := Lib.hid (fun w8 hb8 => by
            refine ⟨k + 1, hkn, rfl, ?_, below_setCells _ _ _ _ (Nat.le_refl _) (HBo.out.trans (hb8.mono (by omega)))⟩
            have := wk_store (row := thenRow ma mb) (own_below HOW.out hb8 (Nat.le_refl _)) HW.out hT24.1 (by rw [HML.out]; exact hkn)
            rw [hnx, hrw, ← HML.out]
            exact this)
          have a0' : (0 : Int) ≤ (a : Int) := by omega
          have a1' : (a : Int) < (n : Int) := by omega
          have b0' : (0 : Int) ≤ (b : Int) := by omega
          have b1' : (b : Int) < (n : Int) := by omega
          have hu := und_map
          clear hnx hrw hok hown hfit h0 hml hw hp hoa hob hT24
          go_wp2_with fail
          refine (HK.out _).mono ?_
          rintro e w7 ⟨rfl, hB7⟩
          have hb7 := ((Below.refl _ wo).alloc (Nat.le_refl _) (.cells #[.string L, .int .i64 a, .int .i64 b] 127)).trans (hB7.mono (by simp))
          have hb8 := hb7.alloc hb7.size (.cells #[.string L, .int .i64 a, .int .i64 b] 198)
          have kcs := heap_alloc_new w7 (.cells #[.string L, .int .i64 a, .int .i64 b] 198)
          have kc1 : (w7.alloc (.cells #[.string L, .int .i64 a, .int .i64 b] 198)).cell? ⟨w7.heap.size, 1, none⟩ = some (.int .i64 a) := by rw [cell_of_row _ _ _ _ _ _ kcs]; rfl
          have kc2 : (w7.alloc (.cells #[.string L, .int .i64 a, .int .i64 b] 198)).cell? ⟨w7.heap.size, 2, none⟩ = some (.int .i64 b) := by rw [cell_of_row _ _ _ _ _ _ kcs]; rfl
          have HB8 := Lib.hid hb8
          obtain ⟨Kp, hKp⟩ : ∃ Kp, Kp = w7.heap.size := ⟨_, rfl⟩
          have hM7 : M < w7.heap.size := by have := hb7.size; omega
          have hKl : w7.heap.size < (w7.alloc (.cells #[.string L, .int .i64 a, .int .i64 b] 198)).heap.size := by simp
          clear a0 a1 a2 hB7 hb7 hb8 kcs
          go_upto_region 15 with fail
          have hKM : Kp ≠ M := by have := HB8.out.size; rw [hKp]; omega
          rw [← hKp] at kc1 kc2 hKl ⊢
          generalize w7.alloc (.cells #[.string L, .int .i64 a, .int .i64 b] 198) = w8 at *
          clear hKp
          have hb8d : Below wo.heap.size wo w8.drew := below_drewN HB8.out 1
          have hS0 : (fun w' : World => w'.cell? ⟨Kp, 1, none⟩ = some (.int .i64 (a : Int)) ∧ w'.cell? ⟨Kp, 2, none⟩ = some (.int .i64 (b : Int)) ∧ w'.rangeAt M (a * 24) (iv ma) ∧ w'.rangeAt M (b * 24) (iv mb)) w8.drew := ⟨kc1, kc2, HRA.out w8.drew hb8d, HRB.out w8.drew hb8d⟩
          refine wp_region_held_drew (S := fun w' : World => w'.cell? ⟨Kp, 1, none⟩ = some (.int .i64 (a : Int)) ∧ w'.cell? ⟨Kp, 2, none⟩ = some (.int .i64 (b : Int)) ∧ w'.rangeAt M (a * 24) (iv ma) ∧ w'.rangeAt M (b * 24) (iv mb)) (by kernel_rfl) hS0 (fun hHeld => ?_)
          refine takeH (i := 0) (dst := some 54) (v := ?_) rfl (by kernel_rfl) (by kernel_rfl) (by kernel_rfl) (fun _ _ _ h => h) (Or.inl ⟨by rfl, ?_⟩) (by assumption) ?_
          rotate_left 1
          · (intro w hSw; (try dsimp only at hSw); go_simp; try (with_reducible rfl))
          simp only [Act.put, List.setIfInBounds_toArray, List.set_cons_zero, List.set_cons_succ]
          refine takeH (i := 1) (dst := some 55) (v := ?_) rfl (by kernel_rfl) (by kernel_rfl) (by kernel_rfl) (fun _ _ _ h => h) (Or.inl ⟨by rfl, ?_⟩) (by assumption) ?_
          rotate_left 1
          · (intro w hSw; (try dsimp only at hSw); go_simp; try (with_reducible rfl))
          simp only [Act.put, List.setIfInBounds_toArray, List.set_cons_zero, List.set_cons_succ]
          refine takeH (i := 2) (dst := some 56) (v := ?_) rfl (by kernel_rfl) (by kernel_rfl) (by kernel_rfl) (fun _ _ _ h => h) (Or.inl ⟨by rfl, ?_⟩) (by assumption) ?_
          rotate_left 1
          · (intro w hSw; (try dsimp only at hSw); go_simp; try (with_reducible rfl))
          simp only [Act.put, List.setIfInBounds_toArray, List.set_cons_zero, List.set_cons_succ]
          refine takeH (i := 3) (dst := some 57) (v := ?_) rfl (by kernel_rfl) (by kernel_rfl) (by kernel_rfl) (fun _ _ _ h => h) (Or.inl ⟨by rfl, ?_⟩) (by assumption) ?_
          rotate_left 1
          · (intro w hSw; (try dsimp only at hSw); go_simp; try (with_reducible rfl))
          simp only [Act.put, List.setIfInBounds_toArray, List.set_cons_zero, List.set_cons_succ]
          refine takeH (i := 4) (dst := some 58) (v := ?_) rfl (by kernel_rfl) (by kernel_rfl) (by kernel_rfl) (fun _ _ _ h => h) (Or.inl ⟨by rfl, ?_⟩) (by assumption) ?_
          rotate_left 1
          · (intro w hSw; (try dsimp only at hSw); go_simp; try (with_reducible rfl))
          simp only [Act.put, List.setIfInBounds_toArray, List.set_cons_zero, List.set_cons_succ]
          refine takeH (i := 5) (dst := some 59) (v := ?_) rfl (by kernel_rfl) (by kernel_rfl) (by kernel_rfl) (fun _ _ _ h => h) (Or.inl ⟨by rfl, ?_⟩) (by assumption) ?_
          rotate_left 1
          · (intro w hSw; (try dsimp only at hSw); go_simp; try (with_reducible rfl))
          simp only [Act.put, List.setIfInBounds_toArray, List.set_cons_zero, List.set_cons_succ]
          refine takeH (i := 6) (dst := some 60) (v := .agg (iv ma).toArray) rfl (by kernel_rfl) (by kernel_rfl) (by kernel_rfl) (fun _ _ _ h => h) (yieldsIf_load_mid (by rfl) _ _ rfl M (a * 24) rfl (iv ma) _ (fun w hw => hw.2.2.1) und_map rfl hsa) (by assumption) ?_
          simp only [Act.put, List.setIfInBounds_toArray, List.set_cons_zero, List.set_cons_succ]
          refine takeH (i := 7) (dst := some 61) (v := ?_) rfl (by kernel_rfl) (by kernel_rfl) (by kernel_rfl) (fun _ _ _ h => h) (Or.inl ⟨by rfl, ?_⟩) (by assumption) ?_
          rotate_left 1
          · (intro w hSw; (try dsimp only at hSw); go_simp; try (with_reducible rfl))
          simp only [Act.put, List.setIfInBounds_toArray, List.set_cons_zero, List.set_cons_succ]
          refine takeH (i := 8) (dst := some 62) (v := ?_) rfl (by kernel_rfl) (by kernel_rfl) (by kernel_rfl) (fun _ _ _ h => h) (Or.inl ⟨by rfl, ?_⟩) (by assumption) ?_
          rotate_left 1
          · (intro w hSw; (try dsimp only at hSw); go_simp; try (with_reducible rfl))
          simp only [Act.put, List.setIfInBounds_toArray, List.set_cons_zero, List.set_cons_succ]
          refine takeH (i := 9) (dst := some 63) (v := ?_) rfl (by kernel_rfl) (by kernel_rfl) (by kernel_rfl) (fun _ _ _ h => h) (Or.inl ⟨by rfl, ?_⟩) (by assumption) ?_
          rotate_left 1
          · (intro w hSw; (try dsimp only at hSw); go_simp; try (with_reducible rfl))
          simp only [Act.put, List.setIfInBounds_toArray, List.set_cons_zero, List.set_cons_succ]
          refine takeH (i := 10) (dst := some 64) (v := ?_) rfl (by kernel_rfl) (by kernel_rfl) (by kernel_rfl) (fun _ _ _ h => h) (Or.inl ⟨by rfl, ?_⟩) (by assumption) ?_
          rotate_left 1
          · (intro w hSw; (try dsimp only at hSw); go_simp; try (with_reducible rfl))
          simp only [Act.put, List.setIfInBounds_toArray, List.set_cons_zero, List.set_cons_succ]
          refine takeH (i := 11) (dst := some 65) (v := .agg (iv mb).toArray) rfl (by kernel_rfl) (by kernel_rfl) (by kernel_rfl) (fun _ _ _ h => h) (yieldsIf_load_mid (by rfl) _ _ rfl M (b * 24) rfl (iv mb) _ (fun w hw => hw.2.2.2) und_map rfl hsb) (by assumption) ?_
          simp only [Act.put, List.setIfInBounds_toArray, List.set_cons_zero, List.set_cons_succ]
          refine wpAnyH_ready (rs := [12]) (by kernel_rfl) (by simp) ?_
          refine AllReadyH.cons (o := ⟨some 66, _, _, _, _, none⟩) rfl (fun K hK => ?_) AllReadyH.nil
          go_simp
          go_at_call 202
          refine (HTHEN.out _).mono ?_
          rintro e w9 ⟨rfl, hB9⟩
          have hB9 := below_undrew hB9
          have hb89 := HB8.out.trans (hB9.mono HB8.out.size)
          have HN9 := Lib.hid (HNX.out w9 hb89)
          have TH : w9.there M (k * 24) (iv (thenRow ma mb)).toArray.size := by
            have := HTHR.out w9 hb89
            rw [show (iv (thenRow ma mb)).toArray.size = 24 from by simpa using hlr]
            exact this
          have RA9 := HRA.out w9 hb89
          have RB9 := HRB.out w9 hb89
          have la : (iv ma).length = 24 := by rw [size_map] at hsa; injection hsa with h; exact h.symm
          have lb : (iv mb).length = 24 := by rw [size_map] at hsb; injection hsb with h; exact h.symm
          refine hK.out _ _ ⟨(hB9.cell (p := ⟨Kp, 1, none⟩) hKl).trans kc1, (hB9.cell (p := ⟨Kp, 2, none⟩) hKl).trans kc2, RA9, RB9⟩ (fun hHeld => ?_)
          clear hK K
          try simp only [Act.put, List.setIfInBounds_toArray, List.set_cons_zero, List.set_cons_succ]
          refine takeH (i := 13) (dst := some 67) (v := ?_) rfl (by kernel_rfl) (by kernel_rfl) (by kernel_rfl) (fun _ _ _ h => h) (Or.inl ⟨by rfl, ?_⟩) (by assumption) ?_
          rotate_left 1
          · (intro w hSw; (try dsimp only at hSw); go_simp; try (with_reducible rfl))
          simp only [Act.put, List.setIfInBounds_toArray, List.set_cons_zero, List.set_cons_succ]
          refine wpAnyH_ready (rs := [14]) (by kernel_rfl) (by simp) ?_
          refine AllReadyH.cons (o := ⟨none, _, _, _, _, none⟩) rfl (fun K hK => ?_) AllReadyH.nil
          refine step_store_mid (by rfl) 197 _ _ (by rfl) M (k * 24) (iv (thenRow ma mb)).toArray (by rfl) (by rfl) TH HZR.out HONE.out ?_
          refine hK.out _ _ ⟨(World.cell?_of_block (a := ⟨Kp, 1, none⟩) (heap_setCells Kp _ M _ w9 hKM)).trans ((hB9.cell (p := ⟨Kp, 1, none⟩) hKl).trans kc1), (World.cell?_of_block (a := ⟨Kp, 2, none⟩) (heap_setCells Kp _ M _ w9 hKM)).trans ((hB9.cell (p := ⟨Kp, 2, none⟩) hKl).trans kc2), World.rangeAt_setCells_apart RA9 _ _ _ (by rw [la]; right; left; omega), World.rangeAt_setCells_apart RB9 _ _ _ (by rw [lb]; right; left; omega)⟩ (fun hHeld => ?_)
          clear hK K
          refine wpAnyH_done (by kernel_rfl) ?_ _
          go_wp2_with fail
          go_roundw
          all_goals first | exact HN9.out | ((repeat apply Exists.intro); exact ⟨HN9.out, rfl⟩) | (simp [intOf]; done) | (simp [intOf]; omega) | omega
        · have hst4 : ∀ l, l < 4 → mapOk st (stepsRow nx l) := fun l hl => stepsRow_ok HROW.out HLEN.out h1 hl
          obtain ⟨b, hL, hb1, hb2, hno⟩ := letter_byte h0 hfit
          have HK := Lib.hid (fun W => kind_letter gs[k] h0 W)
          have HT := tm_ll
          obtain ⟨d, hd⟩ : ∃ d : Nat, d = b.toNat - 97 := ⟨_, rfl⟩
          have hd1 : (b.toNat : Int) = (d : Int) + 97 := by omega
          have hd4 : d < 4 := by omega
          have HIX := Lib.hid (fun W => idx_letter b d hd1 hd4 W)
          have hrow : rowM nx ms gs[k] = stepsRow nx d := by unfold rowM; rw [if_neg h0, hno, hd]
          have hS24 := (hst4 d hd4).1
          have HNX : Hid (∀ w8, Below wo.heap.size wo w8 → WkRel nx gs w5 M n (.int .i64 ((k + 1 : Nat) : Int)) (w8.setCells M (k * 24) (iv (stepsRow nx d)))) := Lib.hid (fun w8 hb8 => by
            refine ⟨k + 1, hkn, rfl, ?_, below_setCells _ _ _ _ (Nat.le_refl _) (HBo.out.trans (hb8.mono (by omega)))⟩
            have := wk_store (row := stepsRow nx d) (own_below HOW.out hb8 (Nat.le_refl _)) HW.out hS24 (by rw [HML.out]; exact hkn)
            rw [hnx, hrow, ← HML.out]
            exact this)
          have HLB := Lib.hid hL
          generalize gs[k] = R at *
          clear hnx hrow hok hst4 hown hfit h0 hd hno hL hd1 hb1 hb2 hml hw
          go_wp2_with fail
          refine (HK.out _).mono ?_
          rintro e w7 ⟨rfl, hB7⟩
          have hb7 := ((Below.refl _ wo).alloc (Nat.le_refl _) (.cells #[.string R.L, .int .i64 R.l, .int .i64 R.r] 127)).trans (hB7.mono (by simp))
          have hb8 := hb7.alloc hb7.size (.cells #[.string R.L, .int .i64 R.l, .int .i64 R.r] 211)
          have hM7 : M < w7.heap.size := by have := hb7.size; omega
          have kc : (w7.alloc (.cells #[.string R.L, .int .i64 R.l, .int .i64 R.r] 211)).cell? ⟨w7.heap.size, 0, none⟩ = some (.string ⟨#[b]⟩) := by rw [cell_of_row _ _ _ _ _ _ (heap_alloc_new w7 _), ← HLB.out]; rfl
          have HB8 := Lib.hid hb8
          clear a0 a1 a2 hB7 hb7 hb8
          go_upto_region 12 with fail
          generalize w7.alloc (.cells #[.string R.L, .int .i64 R.l, .int .i64 R.r] 211) = w8 at *
          have hsz : (Try.prog.info? 197).map (·.size) = some (iv (stepsRow nx d)).length := by rw [size_map, iv_len, hS24]
          have HSZ := Lib.hid hsz
          have HRT := Lib.hid (range_steps (nx := nx) ((HB8.out.block T (by omega)).trans HTo.out) d hd4)
          have HTH : Hid (w8.there M (k * 24) (iv (stepsRow nx d)).toArray.size) := Lib.hid (by
            have := there_of_own (own_below HOW.out HB8.out (Nat.le_refl _)) HW.out (by rw [HML.out]; exact hkn)
            rw [HML.out] at this
            rw [show (iv (stepsRow nx d)).toArray.size = 24 from by simp [iv, hS24]]
            exact this)
          have HZA : Hid ((Try.prog.info? 197).map (·.size) = some (iv (stepsRow nx d)).toArray.size) := Lib.hid (by rw [hsz]; simp)
          have HONE : Hid ((iv (stepsRow nx d)).toArray.all (·.oneCell') = true) := Lib.hid (all_oneCell_toArray (fun v hv => by obtain ⟨x, _, rfl⟩ := List.mem_map.1 hv; rfl))
          have HN8 := Lib.hid (HNX.out w8 HB8.out)
          have hd0 : (0 : Int) ≤ (d : Int) := by omega
          have hd5 : (d : Int) < 4 := by omega
          clear hsz hS24 hM7 hMl
          go_wp2_with fail
          refine (HIX.out _).mono ?_
          rintro e w9 ⟨rfl, rfl⟩
          go_wp2_with (first
            | (with_reducible refine wpList_load_mid rfl 197 _ rfl T (d * 24) rfl (iv (stepsRow nx d)) _ HRT.out und_map rfl HSZ.out ?_)
            | (with_reducible refine wpList_store_mid rfl 197 _ _ rfl M (k * 24) (iv (stepsRow nx d)).toArray rfl rfl HTH.out HZA.out HONE.out ?_))
          go_roundw
          all_goals first | exact HN8.out | ((repeat apply Exists.intro); exact ⟨HN8.out, rfl⟩) | (simp [intOf]; done) | (simp [intOf]; omega) | omega
      · obtain rfl : k = n := by omega
        have HR9 := Lib.hid (HR5.out.kept hB')
        have HI9 := Lib.hid (own_below HO5.out hB' (Nat.le_refl _))
        have hg9 := (hB'.cell (p := ⟨w.heap.size, 0, none⟩) (lt_of_cell HG5.out)).trans HG5.out
        rw [← HN.out] at hg9
        have HRR := Lib.hid (HRU.out wo hBw)
        have HMS := Lib.hid (isMs_of_own hown (mapsK_wide HROW.out HLEN.out h1 h24 HFIT.out k (by have := HN.out; omega)) (mapsK_len nx gs k))
        have HBW := Lib.hid hBw
        have hR1 : w.heap.size + 1 < wo.heap.size := HR9.out.lt
        obtain ⟨⟨r0, r1, r2, r3⟩, g0, g1, g2, g3⟩ := blk4_cells HR9.out
        have HE := Lib.hid (blk4_cells (blk4_all (a' := .slice Av k cv) (b' := .slice Ax (lens gs).length cx) (c' := .slice (some ⟨M, 0, none⟩) k k) (d' := .int .i64 go) HR9.out)).1
        have HFIN : Hid (Below wo.heap.size wo wo) := Lib.hid (Below.refl _ _)
        have HMR : Hid (M ≠ w.heap.size + 1) := Lib.hid (by have := HTL.out; omega)
        have HSET : Hid (∀ d0 d1 d2 d3, IsW ((((wo.setCell ⟨w.heap.size + 1, 0, none⟩ d0).setCell ⟨w.heap.size + 1, 1, none⟩ d1).setCell ⟨w.heap.size + 1, 2, none⟩ d2).setCell ⟨w.heap.size + 1, 3, none⟩ d3) w.heap.size (.agg #[.slice Av k cv, .slice Ax (lens gs).length cx, .slice (some ⟨M, 0, none⟩) k k, .int .i64 go]) (.slice Av gs.length cv) gs nx go) := Lib.hid (fun d0 d1 d2 d3 => by
          have gk : wo.grownBy ((((wo.setCell ⟨w.heap.size + 1, 0, none⟩ d0).setCell ⟨w.heap.size + 1, 1, none⟩ d1).setCell ⟨w.heap.size + 1, 2, none⟩ d2).setCell ⟨w.heap.size + 1, 3, none⟩ d3) (some (w.heap.size + 1)) := by
            refine ⟨rfl, rfl, rfl, by simp, fun i hi hne => ?_⟩
            have hne' : i ≠ w.heap.size + 1 := fun e => hne (by rw [e])
            rw [Below.heap_setCell _ _ _ _ hne', Below.heap_setCell _ _ _ _ hne', Below.heap_setCell _ _ _ _ hne', Below.heap_setCell _ _ _ _ hne']
          have hwd := mapsK_wide HROW.out HLEN.out h1 h24 HFIT.out k (by have := HN.out; omega)
          have hms := isMs_of_own (World.ownsRow.kept hown gk (.inr (by simp [Value.ownBlock]; exact HMR.out))) hwd (mapsK_len nx gs k)
          rw [HN.out] at hms ⊢
          exact ⟨_, _, rfl, own_lower (own_setLow (own_setLow (own_setLow (own_setLow HI9.out _ _ (by simp)) _ _ (by simp)) _ _ (by simp)) _ _ (by simp)) (by omega), hms.lower (by rw [HME.out]; exact HB5.out.size)⟩)
        clear hown hB hB' hBw
        go_wp2_with fail
        obtain ⟨y0, y1, y2, y3⟩ := HE.out
        refine bodyPost_ret (v := .tuple #[.agg #[.slice Av k cv, .slice Ax (lens gs).length cx, .slice (some ⟨M, 0, none⟩) k k, .int .i64 go], .bool true]) (by simp [results, Try.results155, go_sem, y0, y1, y2, y3]) rfl ⟨_, rfl, fun _ => HSET.out _ _ _ _, fun h => (by cases h), ?_⟩
        exact (((HBW.out.setCell (by simp) _).setCell (by simp) _).setCell (by simp) _).setCell (by simp) _
end Go.Proofs.Ytaffachjopjbgaa
namespace Go.Proofs.Ytaffachjopjbgaa
open Go.RowKit
open Wd
set_option linter.unusedVariables false
theorem letterN_any (d : Nat) (hd : d < 4) (w : World) :
    Calls Try.prog 160 #[.int .u8 ((97 + d : Nat) : Int)] w fun e w' => e = .returned (.int .i64 (d : Int)) ∧ w' = w := by
  match d, hd with
  | 0, _ =>
    go_enter Try.func160, Try.ntmps160
    go_wp2
    go_ret
    exact ⟨rfl, rfl⟩
  | 1, _ =>
    go_enter Try.func160, Try.ntmps160
    go_wp2
    go_ret
    exact ⟨rfl, rfl⟩
  | 2, _ =>
    go_enter Try.func160, Try.ntmps160
    go_wp2
    go_ret
    exact ⟨rfl, rfl⟩
  | 3, _ =>
    go_enter Try.func160, Try.ntmps160
    go_wp2
    go_ret
    exact ⟨rfl, rfl⟩
end Go.Proofs.Ytaffachjopjbgaa
namespace Go.Proofs.Ytaffachjopjbgaa
open Go.RowKit
open Wd
set_option linter.unusedVariables false
namespace Wd
/-- the next state -/
def stepA (nx : List (List Int)) (t : Int) (c : UInt8) : Int := (nx.getD t.toNat []).getD (c.toNat - 97) 0
/-- the state behind k letters -/
def rdK (nx : List (List Int)) (t : Int) (l : List UInt8) : Nat → Int
  | 0 => t
  | k + 1 => stepA nx (rdK nx t l k) (l.getD k 97)
theorem row_facts {nx : List (List Int)} {st : Int} (h : nx.all (rowOk st) = true) {i : Nat} (hi : i < nx.length) : nx[i].length = 4 ∧ ∀ j (hj : j < nx[i].length), 0 ≤ nx[i][j] ∧ nx[i][j] < st := by
  have h1 := List.all_eq_true.1 h nx[i] (List.getElem_mem hi)
  unfold rowOk at h1
  rw [Bool.and_eq_true, decide_eq_true_iff] at h1
  refine ⟨h1.1, fun j hj => ?_⟩
  have := List.all_eq_true.1 h1.2 nx[i][j] (List.getElem_mem hj)
  rwa [decide_eq_true_iff] at this
theorem step_in {nx : List (List Int)} {st t : Int} {c : UInt8} (h : nx.all (rowOk st) = true) (hl : (nx.length : Int) = st) (h0 : 0 ≤ t ∧ t < st) (hc : lt c = true) : 0 ≤ stepA nx t c ∧ stepA nx t c < st := by
  have h1 := of_lt hc
  have hi : t.toNat < nx.length := by omega
  obtain ⟨h4, hr⟩ := row_facts h hi
  unfold stepA
  rw [List.getD_eq_getElem?_getD (l := nx), List.getElem?_eq_getElem hi, Option.getD_some, List.getD_eq_getElem?_getD, List.getElem?_eq_getElem (by omega), Option.getD_some]
  exact hr _ (by omega)
theorem rdK_in {nx : List (List Int)} {st t : Int} {l : List UInt8} (h : nx.all (rowOk st) = true) (hl : (nx.length : Int) = st) (h0 : 0 ≤ t ∧ t < st) (hc : okL l = true) : ∀ k, k ≤ l.length → 0 ≤ rdK nx t l k ∧ rdK nx t l k < st
  | 0, _ => h0
  | k + 1, hk => by
    have ih := rdK_in h hl h0 hc k (by omega)
    rw [rdK]
    refine step_in h hl ih ?_
    rw [List.getD_eq_getElem?_getD, List.getElem?_eq_getElem (by omega), Option.getD_some]
    exact okL_at hc (by omega)
end Wd
end Go.Proofs.Ytaffachjopjbgaa
namespace Go.Proofs.Ytaffachjopjbgaa
open Go.RowKit
open Wd
set_option linter.unusedVariables false
/-- the maps of all rules, as wide as there are states -/
def mapsN (nx : List (List Int)) (gs : List Rl) (N k : Nat) : List (List Int) := (mapsK nx gs k).map (·.take N)
theorem mapsN_len (nx : List (List Int)) (gs : List Rl) (N k : Nat) : (mapsN nx gs N k).length = k := by unfold mapsN; rw [List.length_map, mapsK_len]
theorem mapsN_get {nx : List (List Int)} {gs : List Rl} {N k j : Nat} (h : j < k) : (mapsN nx gs N k)[j]? = some (((mapsK nx gs k).getD j []).take N) := by
  unfold mapsN
  rw [List.getElem?_map, List.getElem?_eq_getElem (by rw [mapsK_len]; exact h)]
  rw [List.getD_eq_getElem?_getD, List.getElem?_eq_getElem (by rw [mapsK_len]; exact h)]
  rfl
/-- between two states of a rule -/
def InS (w : World) (y : Value) (U : List Value) (Z : List (List Int)) (B : Nat) (row : List Int) (s : Nat) (tv : Value) (wr : World) : Prop :=
  OwnM wr w.heap.size y U Z ∧ OwnsI wr B tv (row.take s) ∧ Below w.heap.size w wr ∧ B ≤ wr.heap.size
theorem InS.kept {w wr w1 : World} {y tv : Value} {U : List Value} {Z : List (List Int)} {B s : Nat} {row : List Int} (h : InS w y U Z B row s tv wr) (hb : Below wr.heap.size wr w1) : InS w y U Z B row s tv w1 :=
  ⟨h.1.kept hb, own_below h.2.1 hb (Nat.le_refl _), h.2.2.1.trans (hb.mono h.2.2.1.size), Nat.le_trans h.2.2.2 hb.size⟩
theorem InS.append {w wr w5 : World} {y tv tv' : Value} {U : List Value} {Z : List (List Int)} {B s : Nat} {row : List Int} {o : Obj} (h : InS w y U Z B row s tv wr) (hwB : w.heap.size ≤ B)
    (hU : ∀ u ∈ U, ∀ q, u.ownBlock = some q → q < B) (hy : ∀ q, y.ownBlock = some q → q < B) (hs : s < row.length)
    (hown : w5.ownsRow B 2 1 tv' (s + 1) (iv (row.take s) ++ [.int .i64 row[s]])) (hg : (wr.alloc o).grownBy w5 tv.ownBlock) : InS w y U Z B row (s + 1) tv' w5 := by
  obtain ⟨h1, h2, h3, h4⟩ := h
  have hrow : ∀ q, tv.ownBlock = some q → B ≤ q := fun q hq => (h2.lt q hq).1
  have hsz := hg.size
  refine ⟨(h1.kept ((Below.refl _ wr).alloc (Nat.le_refl _) o)).apart hU hy hg hrow, ?_, (h3.alloc h3.size o).grown hg (by have := h3.size; simp; omega) (fun q hq => by have := hrow q hq; omega), by simp at hsz; omega⟩
  unfold OwnsI
  rw [List.take_succ_eq_append_getElem hs, List.length_append, iv_app, List.length_take, Nat.min_eq_left (by omega)]
  exact hown
theorem grown_undrew {w w' : World} {row : Option Nat} (h : w.drew.grownBy w' row) : w.grownBy w' row := ⟨h.os, h.tape, h.output, h.size, h.block⟩
theorem one_newD (w : World) (v : Value) (t : TypeId) : ∀ j u, [v][j]? = some u → (w.alloc (.cells #[v] t)).drew.cell? ((⟨w.heap.size, 0, none⟩ : Addr).add j) = some u := one_new w v t
set_option maxRecDepth 100000 in
set_option maxHeartbeats 12800000 in
theorem l04Maps_any (nv : Value) (nx : List (List Int)) (st : Int) (pg : Nat) (gs : List Rl) (w : World) (h1 : 1 ≤ st) (h24 : st ≤ 24) (hrow : nx.all (rowOk st) = true) (hlen : (nx.length : Int) = st) (hN : IsLL w nv nx) (hfit : fits gs = true) (hn : gs.length ≤ 400) (hg : GP w pg gs) :
    Calls Try.prog 95 #[nv, .pointer (some ⟨pg, 0, none⟩)] w fun e w' => ∃ y U, e = .returned y ∧ OwnM w' w.heap.size y U (mapsN nx gs nx.length gs.length) ∧ Below w.heap.size w w' := by
  obtain ⟨i0, hi, hz0, hz1, hz2⟩ := info_parts Try.info_ints
  obtain ⟨j0, hj, hy0, hy1, hy2⟩ := info_parts Try.info_int64
  obtain ⟨gv, hgv, hR⟩ := hg
  obtain ⟨A, c, rfl, hin⟩ := hN
  have HI := Lib.hid hin
  obtain ⟨Av, cv, rfl, hrc⟩ := hR
  have HRC := Lib.hid hrc
  have HGV := Lib.hid hgv
  have HROW := Lib.hid hrow
  have HLEN := Lib.hid hlen
  have HFIT := Lib.hid hfit
  obtain ⟨N, hNe⟩ : ∃ N, N = nx.length := ⟨_, rfl⟩
  obtain ⟨n, hne⟩ : ∃ n, n = gs.length := ⟨_, rfl⟩
  have hNst : (N : Int) = st := by omega
  have hN24 : N ≤ 24 := by omega
  rw [← hNe, ← hne]
  rw [← hne] at hn hgv
  have HN := Lib.hid hNe
  have HNE := Lib.hid hne
  have HNST := Lib.hid hNst
  have HS := Lib.hid (MSt.start w _ rfl)
  clear hin hrc hrow hlen hfit hNe hne hNst
  go_enter Try.func95, Try.ntmps95
  go_wp2_with fail
  go_loopw [5, 6] (fun y i wr => ∃ k : Nat, k ≤ n ∧ i = .int .i64 k ∧ MSt w (mapsN nx gs N k) y wr) (fun _ i _ => n - (intOf i).toNat)
  case atStart => exact ⟨0, Nat.zero_le _, rfl, HS.out⟩
  case round =>
    obtain ⟨k, hk, rfl, hst⟩ := hrel
    obtain ⟨wo, rfl⟩ : ∃ wo : World, wo = wr := ⟨_, rfl⟩
    obtain ⟨U, hm, hB⟩ := hst
    have HM := Lib.hid (And.intro hm hB)
    have hlenU := hm.len
    rw [mapsN_len] at hlenU
    obtain ⟨Ay, cy, hAy⟩ := own_slice hm.outer
    rw [hlenU] at hAy
    subst hAy
    have HLU := Lib.hid hlenU
    have hgo := (hB.cell (lt_of_cell HGV.out)).trans HGV.out
    rw [← HNE.out] at hgo
    clear hgv hlenU
    by_cases hkn : k < n
    · have hkg : k < gs.length := by rw [← HNE.out]; exact hkn
      obtain ⟨row, hrw⟩ : ∃ row, row = rowM nx (mapsK nx gs k) gs[k] := ⟨_, rfl⟩
      have hnx : mapsN nx gs N (k + 1) = mapsN nx gs N k ++ [row.take N] := by
        unfold mapsN
        rw [mapsK, List.map_append, List.getD_eq_getElem?_getD, List.getElem?_eq_getElem hkg, hrw]
        rfl
      have hok := mapsK_ok HROW.out HLEN.out h1 h24 HFIT.out k (by omega)
      have hok1 := mapsK_ok HROW.out HLEN.out h1 h24 HFIT.out (k + 1) (by omega) k (by omega)
      rw [mapsK_last, List.getD_eq_getElem?_getD, List.getElem?_eq_getElem hkg, Option.getD_some, ← hrw] at hok1
      have hr24 := hok1.1
      have HNX := Lib.hid hnx
      have HSTB : Hid (InS w (.slice Ay k cy) U (mapsN nx gs N k) wo.heap.size row 0 (.slice (some ⟨wo.heap.size, 0, none⟩) 0 0) (wo.alloc (.cells #[] 2))) := Lib.hid
        ⟨hm.kept ((Below.refl _ wo).alloc (Nat.le_refl _) _), World.ownsRow_lit (base := wo.heap.size) (e := 2) (size := 1) wo #[] 0 (Nat.le_refl _) (by decide) rfl, hB.alloc hB.size _, by simp⟩
      have HUB := Lib.hid (fun u hu q (hq : u.ownBlock = some q) => (hm.rows.ge u hu q hq).2)
      have HYB := Lib.hid (fun q (hq : (Value.slice Ay k cy).ownBlock = some q) => (hm.outer.lt q hq).2)
      have HWB := Lib.hid hB.size
      obtain ⟨B, hBe⟩ : ∃ B, B = wo.heap.size := ⟨_, rfl⟩
      clear hm hB
      go_wp2_with fail
      rw [← hBe] at HSTB HUB HYB HWB ⊢
      have HBE := Lib.hid hBe
      clear hBe hgo hnx
      go_loopw [7, 8, 9] (fun tv i _ wr => ∃ s : Nat, s ≤ N ∧ i = .int .i64 s ∧ InS w (.slice Ay k cy) U (mapsN nx gs N k) B row s tv wr) (fun _ i _ _ => N - (intOf i).toNat)
      case atStart => exact ⟨0, Nat.zero_le _, rfl, HSTB.out⟩
      case round =>
        obtain ⟨s, hs, rfl, hst⟩ := hrel
        obtain ⟨wu, rfl⟩ : ∃ wu : World, wu = wr := ⟨_, rfl⟩
        by_cases hsN : s < N
        · have hsx : s < nx.length := by rw [← HN.out]; exact hsN
          have hs24 : s < row.length := by omega
          have HSR := Lib.hid hs24
          have hgu := (hst.2.2.1.cell (lt_of_cell HGV.out)).trans HGV.out
          rw [← HNE.out] at hgu
          rcases HRC.out with hn0 | ⟨g, rfl, hg, hc⟩
          · rw [hn0] at hkg; simp at hkg
          obtain ⟨a0, a1, a2⟩ := rules_cells hc hkg
          rw [← hst.2.2.1.cell (p := ⟨g, k * 3, none⟩) hg] at a0
          rw [← hst.2.2.1.cell (p := ⟨g, k * 3 + 1, none⟩) hg] at a1
          rw [← hst.2.2.1.cell (p := ⟨g, k * 3 + 2, none⟩) hg] at a2
          have hfk := fits_at HFIT.out k hkg
          have k0 : (0 : Int) ≤ (k : Int) := by omega
          have k1 : (k : Int) < (n : Int) := by omega
          have s0 : (0 : Int) ≤ (s : Int) := by omega
          have s1 : (s : Int) < (N : Int) := by omega
          have HIS := Lib.hid hst
          obtain ⟨z, hz⟩ : ∃ z, z = row[s] := ⟨_, rfl⟩
          have HZ := Lib.hid hz.symm
          obtain ⟨A3, c3, hA3⟩ := own_slice hst.2.1
          rw [List.length_take, Nat.min_eq_left (by omega)] at hA3
          subst hA3
          have hTB := Lib.hid (fun q (hq : (Value.slice A3 s c3).ownBlock = some q) => hst.2.1.lt q hq)
          have hgB : g < w.heap.size := hg
          clear hc
          by_cases h0 : gs[k].L.size = 0
          · have hp := (ok_pair h0).1 hfk
            have he := empty_arr h0
            have hrw2 : row = thenRow ((mapsK nx gs k).getD gs[k].l.toNat []) ((mapsK nx gs k).getD gs[k].r.toNat []) := by rw [hrw]; unfold rowM; rw [if_pos h0]
            rw [he] at a0
            generalize gs[k] = R at *
            obtain ⟨L, l, r⟩ := R
            simp only at hp he a1 a2 hrw2
            subst he
            obtain ⟨a, rfl⟩ : ∃ a : Nat, l = a := ⟨l.toNat, by omega⟩
            obtain ⟨b, rfl⟩ : ∃ b : Nat, r = b := ⟨r.toNat, by omega⟩
            rw [Int.toNat_natCast, Int.toNat_natCast] at hrw2
            have ha : a < k := by omega
            have hb : b < k := by omega
            have hoa := hok a ha
            have hob := hok b hb
            have hga := mapsN_get (nx := nx) (gs := gs) (N := N) ha
            have hgb := mapsN_get (nx := nx) (gs := gs) (N := N) hb
            generalize (mapsK nx gs k).getD a [] = ma at *
            generalize (mapsK nx gs k).getD b [] = mb at *
            have hqm := hoa.2 _ (List.getElem_mem (show s < ma.length by rw [hoa.1]; omega))
            obtain ⟨q, hq⟩ : ∃ q : Nat, ma[s]'(by rw [hoa.1]; omega) = q := ⟨(ma[s]'(by rw [hoa.1]; omega)).toNat, by omega⟩
            have hqN : q < N := by have := HNST.out; omega
            have hzz : z = mb.getD q 0 := by
              have hzd : z = row.getD s 0 := by rw [hz, List.getD_eq_getElem?_getD, List.getElem?_eq_getElem hs24]; rfl
              rw [hzd, hrw2]
              unfold thenRow
              rw [List.getD_eq_getElem?_getD, List.getElem?_map, List.getElem?_eq_getElem (by rw [hoa.1]; omega), hq]
              simp only [Option.map_some, Option.getD_some, Int.toNat_natCast]
            have hb7 := (Below.refl _ wu).alloc (Nat.le_refl _) (.cells #[.string ⟨#[]⟩, .int .i64 a, .int .i64 b] 127)
            have HI7 := Lib.hid (hst.kept hb7)
            have hM7 := HI7.out.1
            have hK7 := heap_alloc_new wu (.cells #[.string ⟨#[]⟩, .int .i64 a, .int .i64 b] 127)
            have kc1 := cell_of_row _ _ 1 _ _ _ hK7
            have kc2 := cell_of_row _ _ 2 _ _ _ hK7
            have hKl : wu.heap.size < (wu.alloc (.cells #[.string ⟨#[]⟩, .int .i64 a, .int .i64 b] 127)).heap.size := by simp
            have hUl := HLU.out
            obtain ⟨gy, hgy, hgy1⟩ : ∃ gy, Ay = some ⟨gy, 0, none⟩ ∧ gy < B := by
              rcases hM7.shape with ⟨_, h0⟩ | ⟨gy, c', hv, _, _⟩
              · rw [h0] at hUl; simp at hUl; omega
              · injection hv with hv
                exact ⟨gy, hv, HYB.out gy (by rw [hv]; rfl)⟩
            subst hgy
            have cA : (wu.alloc (.cells #[.string ⟨#[]⟩, .int .i64 a, .int .i64 b] 127)).cell? ⟨gy, a, none⟩ = U[a]? := by
              have := hM7.outer
              rw [hUl] at this
              exact this.cellAt a (by omega)
            have cB : (wu.alloc (.cells #[.string ⟨#[]⟩, .int .i64 a, .int .i64 b] 127)).cell? ⟨gy, b, none⟩ = U[b]? := by
              have := hM7.outer
              rw [hUl] at this
              exact this.cellAt b (by omega)
            have hoA := hM7.rows.row a _ _ (List.getElem?_eq_getElem (by omega)) hga
            have hoB := hM7.rows.row b _ _ (List.getElem?_eq_getElem (by omega)) hgb
            rw [List.getElem?_eq_getElem (by omega)] at cA cB
            have mA := HUB.out _ (List.getElem_mem (show a < U.length by omega))
            have mB := HUB.out _ (List.getElem_mem (show b < U.length by omega))
            have lA : (ma.take N).length = N := by rw [List.length_take, hoa.1]; omega
            have lB : (mb.take N).length = N := by rw [List.length_take, hob.1]; omega
            generalize U[a]'(by omega) = ua at *
            generalize U[b]'(by omega) = ub at *
            obtain ⟨ga, ca, rfl⟩ : ∃ ga ca, ua = .slice (some ⟨ga, 0, none⟩) N ca := by
              rcases hoA.shape with ⟨_, h0⟩ | ⟨ga, ca, hv, _⟩
              · rw [h0] at lA; simp at lA; omega
              · exact ⟨ga, ca, by rw [hv, lA]⟩
            obtain ⟨gb, cb, rfl⟩ : ∃ gb cb, ub = .slice (some ⟨gb, 0, none⟩) N cb := by
              rcases hoB.shape with ⟨_, h0⟩ | ⟨gb, cb, hv, _⟩
              · rw [h0] at lB; simp at lB; omega
              · exact ⟨gb, cb, by rw [hv, lB]⟩
            have dA : (wu.alloc (.cells #[.string ⟨#[]⟩, .int .i64 a, .int .i64 b] 127)).cell? ⟨ga, s, none⟩ = some (.int .i64 (q : Int)) := by
              have h' := hoA
              unfold OwnsI at h'
              rw [lA] at h'
              rw [h'.cellAt s (by omega), iv_get _ s (by rw [lA]; omega), List.getElem_take, hq]
            have dB : (wu.alloc (.cells #[.string ⟨#[]⟩, .int .i64 a, .int .i64 b] 127)).cell? ⟨gb, q, none⟩ = some (.int .i64 z) := by
              have h' := hoB
              unfold OwnsI at h'
              rw [lB] at h'
              rw [h'.cellAt q (by omega), iv_get _ q (by rw [lB]; omega), List.getElem_take, hzz, List.getD_eq_getElem?_getD, List.getElem?_eq_getElem (by rw [hob.1]; omega)]
              rfl
            have gaB := mA ga rfl
            have gbB := mB gb rfl
            have a0' : (0 : Int) ≤ (a : Int) := by omega
            have a1' : (a : Int) < (k : Int) := by omega
            have b0' : (0 : Int) ≤ (b : Int) := by omega
            have b1' : (b : Int) < (k : Int) := by omega
            have q0' : (0 : Int) ≤ (q : Int) := by omega
            have q1' : (q : Int) < (N : Int) := by omega
            have hws : w.heap.size ≤ wu.heap.size := hst.2.2.1.size
            have hBu : B ≤ wu.heap.size := hst.2.2.2
            clear h0 hfk hok hok1 hrw hrw2 hr24 hst hz hb7 hoa hob hga hgb hqm hq hzz hM7 hoA hoB mA mB lA lB hp hUl
            go_upto_region 12 with fail
            obtain ⟨Kp, hKp⟩ : ∃ Kp, Kp = wu.heap.size := ⟨_, rfl⟩
            have hTK : Hid ((Value.slice A3 s c3).ownBlock ≠ some Kp) := Lib.hid (fun e => by have := (hTB.out Kp e).2; omega)
            rw [← hKp] at hK7 kc1 kc2 hKl ⊢
            generalize wu.alloc (.cells #[.string ⟨#[]⟩, .int .i64 a, .int .i64 b] 127) = w7 at *
            have kc1 : w7.cell? ⟨Kp, 1, none⟩ = some (.int .i64 (a : Int)) := kc1
            have kc2 : w7.cell? ⟨Kp, 2, none⟩ = some (.int .i64 (b : Int)) := kc2
            have HO7 : Hid (w7.ownsRow B 2 1 (.slice A3 s c3) s (iv (row.take s))) := Lib.hid (by
              have := HI7.out.2.1
              unfold OwnsI at this
              rw [List.length_take, Nat.min_eq_left (by omega)] at this
              exact this)
            have hB7 : B ≤ w7.heap.size := HI7.out.2.2.2
            have HTY : Hid (∀ g', g' < B → (Value.slice A3 s c3).ownBlock ≠ some g') := Lib.hid (fun g' hg' e => by have h1 := (hTB.out _ e).1; omega)
            have HF := Lib.hid (And.intro kc1 (And.intro kc2 (And.intro cA (And.intro cB (And.intro dA dB)))))
            clear hKp hK7
            go_region_held3 (fun w' => w'.cell? ⟨Kp, 1, none⟩ = some (.int .i64 (a : Int)) ∧ w'.cell? ⟨Kp, 2, none⟩ = some (.int .i64 (b : Int)) ∧ w'.cell? ⟨gy, a, none⟩ = some (.slice (some ⟨ga, 0, none⟩) N ca) ∧ w'.cell? ⟨gy, b, none⟩ = some (.slice (some ⟨gb, 0, none⟩) N cb) ∧ w'.cell? ⟨ga, s, none⟩ = some (.int .i64 (q : Int)) ∧ w'.cell? ⟨gb, q, none⟩ = some (.int .i64 z))
              (first | go_keep | exact HS8.out)
              (first
                | (refine step_append_lies _ (by rfl) _ _ 22 (by rfl) B 2 j0 (.int .i64 0) 1 8 Try.underlying22 hj hy0 hy1 hy2 (by rfl) (by decide) (.slice A3 s c3) s (iv (row.take s)) (by rfl) ?_ ⟨w7.heap.size, 0, none⟩ 1 1 [.int .i64 z] (by rfl) (by rfl) ?_ (one_int _ _) (by decide) ?_ ?_ ?_ (w7.heap.size + 1) ?_ ?_
                   exact own_drewN (World.ownsRow.alloc HO7.out _) 1
                   exact one_newD w7 _ _
                   (unfold maxLen; omega)
                   omega
                   (simp; omega)
                   simp
                   intro g8 c8 w8 hown' hgrow _ _
                   have hG := grown_undrew hgrow
                   have hz9 : w8.ownsRow B 2 1 (.slice (some ⟨g8, 0, none⟩) (s + 1) c8) (s + 1) (iv (row.take s) ++ [.int .i64 (row[s]'HSR.out)]) := by have ez : row[s]'HSR.out = z := HZ.out; rw [ez]; exact hown'
                   have h1 := InS.append HI7.out HWB.out HUB.out HYB.out HSR.out hz9 hG
                   have HN8 := Lib.hid (h1)
                   have HK8 : Hid (∀ p : Addr, p.block < w7.heap.size → (Value.slice A3 s c3).ownBlock ≠ some p.block → w8.cell? p = w7.cell? p) := Lib.hid (fun p hp hne => World.cell?_of_block ((hgrow.block p.block (by simp; omega) (fun e => hne e.symm)).trans (((Below.refl _ w7).alloc (Nat.le_refl _) _).block p.block (by simpa using hp))))
                   clear hG h1 hz9 hown' hgrow
                   have HS8 : Hid (w8.cell? ⟨Kp, 1, none⟩ = some (.int .i64 (a : Int)) ∧ w8.cell? ⟨Kp, 2, none⟩ = some (.int .i64 (b : Int)) ∧ w8.cell? ⟨gy, a, none⟩ = some (.slice (some ⟨ga, 0, none⟩) N ca) ∧ w8.cell? ⟨gy, b, none⟩ = some (.slice (some ⟨gb, 0, none⟩) N cb) ∧ w8.cell? ⟨ga, s, none⟩ = some (.int .i64 (q : Int)) ∧ w8.cell? ⟨gb, q, none⟩ = some (.int .i64 z)) := Lib.hid
                     ⟨(HK8.out ⟨Kp, 1, none⟩ hKl hTK.out).trans HF.out.1, (HK8.out ⟨Kp, 2, none⟩ hKl hTK.out).trans HF.out.2.1, (HK8.out ⟨gy, a, none⟩ (by simp only; omega) (HTY.out _ hgy1)).trans HF.out.2.2.1, (HK8.out ⟨gy, b, none⟩ (by simp only; omega) (HTY.out _ hgy1)).trans HF.out.2.2.2.1, (HK8.out ⟨ga, s, none⟩ (by simp only; omega) (HTY.out _ gaB)).trans HF.out.2.2.2.2.1, (HK8.out ⟨gb, q, none⟩ (by simp only; omega) (HTY.out _ gbB)).trans HF.out.2.2.2.2.2⟩))
            all_goals
              go_wp2_with fail
              go_roundw
              all_goals first | exact ⟨s + 1, by omega, by go_num, HN8.out⟩ | ((repeat apply Exists.intro); exact ⟨⟨s + 1, by omega, by go_num, HN8.out⟩, rfl⟩) | (simp [intOf]; done) | (simp [intOf]; omega) | omega
          · obtain ⟨b, hL, hb1, hb2, hno⟩ := letter_byte h0 hfk
            have he := full_list h0
            obtain ⟨d, hd⟩ : ∃ d : Nat, d = b.toNat - 97 := ⟨_, rfl⟩
            have hd1 : b.toNat = 97 + d := by omega
            have hd4 : d < 4 := by omega
            have hzz : z = (nx.getD s []).getD d 0 := by
              have hzd : z = row.getD s 0 := by rw [hz, List.getD_eq_getElem?_getD, List.getElem?_eq_getElem hs24]; rfl
              rw [hzd, hrw]
              unfold rowM
              rw [if_neg h0, hno, ← hd]
              unfold stepsRow
              rw [List.getD_eq_getElem?_getD, List.getElem?_map, List.getElem?_range (by omega)]
              rfl
            rcases HI.out with hn0 | ⟨x, rfl, hcx⟩
            · rw [hn0] at hsx; simp at hsx
            obtain ⟨u, c0, hu⟩ := hcx s hsx
            obtain ⟨hr4, _⟩ := row_facts HROW.out hsx
            obtain ⟨A2, c2, rfl, hcy⟩ := hu
            rw [hr4] at c0
            rcases hcy with hn0 | ⟨y2, rfl, hzc⟩
            · rw [hn0] at hr4; simp at hr4
            have d0 := hzc d (by omega)
            rw [show nx[s][d] = z from by rw [hzz, List.getD_eq_getElem?_getD (l := nx), List.getElem?_eq_getElem hsx, Option.getD_some, List.getD_eq_getElem?_getD, List.getElem?_eq_getElem (by omega), Option.getD_some]] at d0
            have lx : (x.add s).block < w.heap.size := lt_of_cell c0
            have ly : (y2.add d).block < w.heap.size := lt_of_cell d0
            have e0 := (hst.2.2.1.cell lx).trans c0
            have e1 := (hst.2.2.1.cell ly).trans d0
            rw [hL] at a0 he
            have HLT : Hid (∀ W, Calls Try.prog 160 #[.int .u8 ((((⟨#[b]⟩ : ByteArray)[0]'(Nat.zero_lt_one)).toNat : Nat) : Int)] W fun e w' => e = .returned (.int .i64 (d : Int)) ∧ w' = W) := Lib.hid (fun W => by
              show Calls Try.prog 160 #[.int .u8 ((b.toNat : Nat) : Int)] W _
              rw [hd1]
              exact letterN_any d hd4 W)
            have dd0 : (0 : Int) ≤ (d : Int) := by omega
            have dd1 : (d : Int) < 4 := by omega
            have hws : w.heap.size ≤ wu.heap.size := hst.2.2.1.size
            generalize gs[k] = R at *
            obtain ⟨L, l, r⟩ := R
            simp only at hL a1 a2
            subst hL
            have hb7 := (Below.refl _ wu).alloc (Nat.le_refl _) (.cells #[.string ⟨#[b]⟩, .int .i64 l, .int .i64 r] 127)
            have HI7 := Lib.hid (hst.kept hb7)
            have hK7 := heap_alloc_new wu (.cells #[.string ⟨#[b]⟩, .int .i64 l, .int .i64 r] 127)
            have kc := cell_of_row _ _ 0 _ _ _ hK7
            have f0 := (hb7.cell (p := x.add s) (by omega)).trans e0
            have f1 := (hb7.cell (p := y2.add d) (by omega)).trans e1
            have hKl : wu.heap.size < (wu.alloc (.cells #[.string ⟨#[b]⟩, .int .i64 l, .int .i64 r] 127)).heap.size := by simp
            clear h0 hfk hno hd hd1 hd4 hzz hcx c0 hr4 hzc d0 e0 e1 hok hok1 hrw hr24 hb1 hb2 hst hz hb7
            go_upto_region 11 with fail
            obtain ⟨Kp, hKp⟩ : ∃ Kp, Kp = wu.heap.size := ⟨_, rfl⟩
            have hTK : Hid ((Value.slice A3 s c3).ownBlock ≠ some Kp) := Lib.hid (fun e => by have := (hTB.out Kp e).2; omega)
            rw [← hKp] at hK7 kc hKl ⊢
            generalize wu.alloc (.cells #[.string ⟨#[b]⟩, .int .i64 l, .int .i64 r] 127) = w7 at *
            have kc : w7.cell? ⟨Kp, 0, none⟩ = some (.string ⟨#[b]⟩) := kc
            have HO7 : Hid (w7.ownsRow B 2 1 (.slice A3 s c3) s (iv (row.take s))) := Lib.hid (by
              have := HI7.out.2.1
              unfold OwnsI at this
              rw [List.length_take, Nat.min_eq_left (by omega)] at this
              exact this)
            have HBS := Lib.hid HI7.out.2.2.2
            have hB7 : B ≤ w7.heap.size := HI7.out.2.2.2
            have HTX : Hid ((Value.slice A3 s c3).ownBlock ≠ some (x.add s).block) := Lib.hid (fun e => by have h1 := (hTB.out _ e).1; have h2 := HWB.out; omega)
            have HTY : Hid ((Value.slice A3 s c3).ownBlock ≠ some (y2.add d).block) := Lib.hid (fun e => by have h1 := (hTB.out _ e).1; have h2 := HWB.out; omega)
            have HF0 := Lib.hid f0
            have HF1 := Lib.hid f1
            have HKC := Lib.hid kc
            have hwK : w.heap.size ≤ Kp := by omega
            clear hKp hK7
            go_region_held3 (fun w' => w'.cell? (x.add s) = some (.slice (some y2) 4 c2) ∧ w'.cell? (y2.add d) = some (.int .i64 z) ∧ w'.cell? ⟨Kp, 0, none⟩ = some (.string ⟨#[b]⟩))
              (first | go_keep | exact HS8.out)
              (first
                | (go_at_call 160
                   refine (HLT.out _).mono ?_
                   rintro e w9 ⟨rfl, rfl⟩)
                | (refine step_append_lies _ (by rfl) _ _ 22 (by rfl) B 2 j0 (.int .i64 0) 1 8 Try.underlying22 hj hy0 hy1 hy2 (by rfl) (by decide) (.slice A3 s c3) s (iv (row.take s)) (by rfl) ?_ ⟨w7.heap.size, 0, none⟩ 1 1 [.int .i64 z] (by rfl) (by rfl) ?_ (one_int _ _) (by decide) ?_ ?_ ?_ (w7.heap.size + 1) ?_ ?_
                   exact own_drewN (World.ownsRow.alloc HO7.out _) 1
                   exact one_newD w7 _ _
                   (unfold maxLen; omega)
                   omega
                   (simp; omega)
                   simp
                   intro g8 c8 w8 hown' hgrow _ _
                   have hG := grown_undrew hgrow
                   have hz9 : w8.ownsRow B 2 1 (.slice (some ⟨g8, 0, none⟩) (s + 1) c8) (s + 1) (iv (row.take s) ++ [.int .i64 (row[s]'HSR.out)]) := by have ez : row[s]'HSR.out = z := HZ.out; rw [ez]; exact hown'
                   have h1 := InS.append HI7.out HWB.out HUB.out HYB.out HSR.out hz9 hG
                   have HN8 := Lib.hid (h1)
                   have HK8 : Hid (∀ p : Addr, p.block < w7.heap.size → (Value.slice A3 s c3).ownBlock ≠ some p.block → w8.cell? p = w7.cell? p) := Lib.hid (fun p hp hne => World.cell?_of_block ((hgrow.block p.block (by simp; omega) (fun e => hne e.symm)).trans (((Below.refl _ w7).alloc (Nat.le_refl _) _).block p.block (by simpa using hp))))
                   clear hG h1 hz9 hown' hgrow
                   have HS8 : Hid (w8.cell? (x.add s) = some (.slice (some y2) 4 c2) ∧ w8.cell? (y2.add d) = some (.int .i64 z) ∧ w8.cell? ⟨Kp, 0, none⟩ = some (.string ⟨#[b]⟩)) := Lib.hid ⟨(HK8.out (x.add s) (by omega) HTX.out).trans HF0.out, (HK8.out (y2.add d) (by omega) HTY.out).trans HF1.out, (HK8.out ⟨Kp, 0, none⟩ hKl hTK.out).trans HKC.out⟩))
            all_goals
              go_wp2_with fail
              go_roundw
              all_goals first | exact ⟨s + 1, by omega, by go_num, HN8.out⟩ | ((repeat apply Exists.intro); exact ⟨⟨s + 1, by omega, by go_num, HN8.out⟩, rfl⟩) | (simp [intOf]; done) | (simp [intOf]; omega) | omega
        · obtain rfl : s = N := by omega
          have HIS := Lib.hid hst
          obtain ⟨A3, c3, hA3⟩ := own_slice hst.2.1
          rw [List.length_take, Nat.min_eq_left (by omega)] at hA3
          subst hA3
          have hws : w.heap.size ≤ wu.heap.size := hst.2.2.1.size
          have hFR : ∀ q ∈ U, q.ownBlock = none ∨ q.ownBlock ≠ (Value.slice A3 s c3).ownBlock := fun q hq => by
            cases e : q.ownBlock with
            | none => exact .inl rfl
            | some g => exact .inr fun e' => by have h1 := HUB.out q hq g e; have h2 := (hst.2.1.lt g e'.symm).1; omega
          have HFR := Lib.hid hFR
          have HOU : Hid (∀ o, (wu.alloc o).ownsRow w.heap.size 22 1 (.slice Ay k cy) k U) := Lib.hid (fun o => by
            have := hst.1.outer
            rw [HLU.out] at this
            exact this.alloc o)
          clear hst hok hok1 hrw hr24 hFR
          go_wp2_with (first | (at_builtin; refine wpList_append_own _ rfl _ _ 23 rfl w.heap.size 22 i0 (.slice none 0 0) 1 24 Try.underlying23 hi hz0 hz1 hz2 rfl (by decide) _ _ _ rfl (HOU.out _) ⟨wu.heap.size, 0, none⟩ 1 1 [.slice A3 s c3] rfl rfl (one_new _ _ _) (one_slice _ _ _) (by unfold maxLen; omega) (by omega) (by simp; omega) ?_))
          intro y' w6 hown hg6 _
          have HST6 : Hid (MSt w (mapsN nx gs s (k + 1)) y' w6) := Lib.hid (by
            rw [HNX.out]
            refine ⟨U ++ [.slice A3 s c3], HIS.out.1.snoc (own_lower HIS.out.2.1 HWB.out) HFR.out (by rw [HLU.out]; exact hown) hg6, ?_⟩
            exact (HIS.out.2.2.1.alloc hws _).grown hg6 (by simp; omega) (fun q hq => (HIS.out.1.outer.lt q hq).1))
          clear hown hg6
          go_wp2_with fail
          go_roundw
          all_goals first | exact ⟨k + 1, by omega, by go_num, HST6.out⟩ | ((repeat apply Exists.intro); exact ⟨⟨k + 1, by omega, by go_num, HST6.out⟩, rfl⟩) | (simp [intOf]; done) | (simp [intOf]; omega) | omega
    · obtain rfl : k = n := by omega
      clear hm hB
      go_wp2_with fail
      go_ret
      refine ⟨_, U, rfl, ?_, HM.out.2⟩
      exact HM.out.1
end Go.Proofs.Ytaffachjopjbgaa
namespace Go.Proofs.Ytaffachjopjbgaa
open Go.RowKit
open Wd
set_option linter.unusedVariables false

theorem isOf_any (s n : Int) (w : World) :
    Calls Try.prog 87 #[.int .i64 s, .int .i64 n] w fun e w' => e = .returned (.bool (decide (0 ≤ s ∧ s < n))) ∧ w' = w := by
  by_cases h1 : 0 ≤ s
  · by_cases h2 : s < n
    · rw [decide_eq_true ⟨h1, h2⟩]
      go_enter Try.func87, Try.ntmps87
      go_wp2
      go_ret
      exact ⟨rfl, rfl⟩
    · rw [decide_eq_false (fun h => h2 h.2)]
      go_enter Try.func87, Try.ntmps87
      go_wp2
      go_ret
      exact ⟨rfl, rfl⟩
  · rw [decide_eq_false (fun h => h1 h.1)]
    go_enter Try.func87, Try.ntmps87
    go_wp2
    go_ret
    exact ⟨rfl, rfl⟩
theorem wrong_any (s n : Int) (pb : Nat) (w : World) (hp : w.cell? ⟨pb, 0, none⟩ = some (.int .i64 n)) :
    Calls Try.prog 205 #[.int .i64 s, .pointer (some ⟨pb, 0, none⟩)] w fun e w' => e = .returned (.bool (!decide (0 ≤ s ∧ s < n))) ∧ w' = w := by
  have H := Lib.hid (fun W => isOf_any s n W)
  by_cases h : 0 ≤ s ∧ s < n
  · rw [decide_eq_true h] at H ⊢
    clear h
    go_enter Try.func205, Try.ntmps205
    go_wp2_with fail
    refine (H.out _).mono ?_
    rintro e w5 ⟨rfl, rfl⟩
    go_wp2_with fail
    go_ret
    exact ⟨rfl, rfl⟩
  · rw [decide_eq_false h] at H ⊢
    clear h
    go_enter Try.func205, Try.ntmps205
    go_wp2_with fail
    refine (H.out _).mono ?_
    rintro e w5 ⟨rfl, rfl⟩
    go_wp2_with fail
    go_ret
    exact ⟨rfl, rfl⟩
/-- whether all numbers are states -/
def allIn (n : Int) (zs : List Int) : Bool := zs.all fun x => decide (0 ≤ x ∧ x < n)
set_option maxRecDepth 100000 in
set_option maxHeartbeats 1600000 in
theorem indexF_any (v : Value) (zs : List Int) (n : Int) (pb : Nat) (w : World) (hl : zs.length ≤ 1048576) (hp : w.cell? ⟨pb, 0, none⟩ = some (.int .i64 n)) (h : IsL w v zs) :
    Calls Try.prog 224 #[v, .func (.func 205) #[] #[.pointer (some ⟨pb, 0, none⟩)]] w fun e w' => ∃ y, e = .returned (.int .i64 y) ∧ w' = w ∧ ((allIn n zs = true ∧ y = -1) ∨ (allIn n zs = false ∧ 0 ≤ y)) := by
  obtain ⟨A, c, rfl, hin⟩ := h
  have HI := Lib.hid hin
  obtain ⟨N, hN⟩ : ∃ N, N = zs.length := ⟨_, rfl⟩
  rw [← hN] at hl ⊢
  have HN := Lib.hid hN
  have HC := Lib.hid (fun s => wrong_any s n pb w hp)
  clear hin hN hp
  go_enter Try.func224, Try.ntmps224
  go_wp2_with fail
  go_loopw [8] (fun i wr => ∃ k : Nat, k ≤ N ∧ i = .int .i64 k ∧ (∀ j (hj : j < zs.length), j < k → 0 ≤ zs[j] ∧ zs[j] < n) ∧ wr = w) (fun i _ => N - (intOf i).toNat)
  case atStart => exact ⟨0, Nat.zero_le _, rfl, fun j hj h => by omega, rfl⟩
  case round =>
    obtain ⟨k, hk, rfl, hall, rfl⟩ := hrel
    have HA := Lib.hid hall
    clear hall
    by_cases hlt : k < N
    · have hkg : k < zs.length := by rw [← HN.out]; exact hlt
      rcases HI.out with hn | ⟨x, rfl, hc⟩
      · rw [hn] at hkg; simp at hkg
      have c0 := hc k hkg
      have HBAD : Hid (¬ (0 ≤ zs[k] ∧ zs[k] < n) → allIn n zs = false) := Lib.hid (fun h => by
        unfold allIn
        rw [List.all_eq_false]
        exact ⟨zs[k], List.getElem_mem hkg, by rw [decide_eq_true_iff]; exact h⟩)
      have HG2 : Hid ((0 ≤ zs[k] ∧ zs[k] < n) → ∀ j (hj : j < zs.length), j < k + 1 → 0 ≤ zs[j] ∧ zs[j] < n) := Lib.hid (fun h j hj hjq => by
        by_cases e : j = k
        · subst e; exact h
        · exact HA.out j hj (by omega))
      have HW := Lib.hid (HC.out zs[k])
      generalize zs[k] = z at *
      clear hc hkg
      by_cases hb : 0 ≤ z ∧ z < n
      · rw [decide_eq_true hb] at HW
        have HNX := Lib.hid (HG2.out hb)
        clear hb HBAD HG2 HC
        go_wp2_with fail
        refine HW.out.mono ?_
        rintro e w5 ⟨rfl, rfl⟩
        go_wp2_with fail
        go_roundw
        all_goals first | exact ⟨k + 1, by omega, by go_num, HNX.out, by first | rfl | trivial⟩ | ((repeat apply Exists.intro); exact ⟨⟨k + 1, by omega, by go_num, HNX.out, by first | rfl | trivial⟩, by first | rfl | trivial⟩) | (simp [intOf]; done) | (simp [intOf]; omega) | omega
      · rw [decide_eq_false hb] at HW
        have HF := Lib.hid (HBAD.out hb)
        clear hb HBAD HG2 HC
        go_wp2_with fail
        refine HW.out.mono ?_
        rintro e w5 ⟨rfl, rfl⟩
        go_wp2_with fail
        go_ret
        exact ⟨_, rfl, rfl, .inr ⟨HF.out, by omega⟩⟩
    · obtain rfl : k = N := by omega
      have HT : Hid (allIn n zs = true) := Lib.hid (by
        unfold allIn
        rw [List.all_eq_true]
        intro r hr
        obtain ⟨j, hj, e⟩ := List.getElem_of_mem hr
        rw [← e, decide_eq_true_iff]
        exact HA.out j hj (by rw [HN.out]; exact hj))
      clear HC
      go_wp2_with fail
      go_ret
      exact ⟨_, rfl, rfl, .inl ⟨HT.out, rfl⟩⟩
theorem containsF_any (v : Value) (zs : List Int) (n : Int) (pb : Nat) (w : World) (hl : zs.length ≤ 1048576) (hp : w.cell? ⟨pb, 0, none⟩ = some (.int .i64 n)) (h : IsL w v zs) :
    Calls Try.prog 206 #[v, .func (.func 205) #[] #[.pointer (some ⟨pb, 0, none⟩)]] w fun e w' => e = .returned (.bool (!allIn n zs)) ∧ w' = w := by
  have HX := Lib.hid (indexF_any v zs n pb w hl hp h)
  obtain ⟨A, c, rfl, _⟩ := h
  clear hp
  go_enter Try.func206, Try.ntmps206
  go_wp2_with fail
  refine HX.out.mono ?_
  rintro e w5 ⟨y, rfl, rfl, ⟨ha, rfl⟩ | ⟨ha, hy⟩⟩
  · have HA := Lib.hid ha
    clear ha
    go_wp2_with fail
    go_ret
    exact ⟨by rw [HA.out] <;> rfl, rfl⟩
  · have HA := Lib.hid ha
    have hd : decide (0 ≤ y) = true := decide_eq_true hy
    clear ha
    go_wp2_with fail
    go_ret
    exact ⟨by rw [HA.out] <;> first | rfl | (simp; done) | simp [hd], rfl⟩
def stepsOk (st go : Int) (xss : List (List Int)) : Bool := decide (1 ≤ st ∧ st ≤ 24) && decide (0 ≤ go ∧ go < st) && (decide ((xss.length : Int) = st) && xss.all (rowOk st))
set_option maxRecDepth 100000 in
set_option maxHeartbeats 3200000 in
theorem steps_ok (st go : Int) (v : Value) (xss : List (List Int)) (w : World) (hl : xss.length ≤ 1048576) (hr : ∀ r ∈ xss, r.length ≤ 1048576) (h : IsLL w v xss)
    (h1 : 1 ≤ st) (h2 : st ≤ 24) (h3 : 0 ≤ go ∧ go < st) (h4 : (xss.length : Int) = st) :
    Calls Try.prog 164 #[.int .i64 st, .int .i64 go, v] w fun e w' => e = .returned (.bool (xss.all (rowOk st))) ∧ Below w.heap.size w w' := by
  have hb := (Below.refl _ w).alloc (Nat.le_refl _) (.cells #[.int .i64 st] 2)
  have hp : (w.alloc (.cells #[.int .i64 st] 2)).cell? ⟨w.heap.size, 0, none⟩ = some (.int .i64 st) := cell_new _ _ _
  obtain ⟨A, c, rfl, hin⟩ := h.kept hb
  have HB := Lib.hid hb
  have HI := Lib.hid hin
  have HR := Lib.hid hr
  have HP := Lib.hid hp
  have HS := Lib.hid (fun W => isOf_any go st W)
  rw [decide_eq_true h3] at HS
  obtain ⟨N, hN⟩ : ∃ N, N = xss.length := ⟨_, rfl⟩
  rw [← hN] at hl h4 ⊢
  have HN := Lib.hid hN
  have hbe : ((N : Int) != st) = false := by simp [h4]
  have hd1 : decide (st < 1) = false := decide_eq_false (by omega)
  have hd2 : decide (24 < st) = false := decide_eq_false (by omega)
  clear hin hr hN h3 hb h hp h4
  go_enter Try.func164, Try.ntmps164
  go_wp2_with fail
  refine (HS.out _).mono ?_
  rintro e w5 ⟨rfl, rfl⟩
  have hp := HP.out
  go_wp2_with fail
  generalize w.alloc (.cells #[.int .i64 st] 2) = w1 at *
  obtain ⟨P, hPe⟩ : ∃ P, P = w.heap.size := ⟨_, rfl⟩
  rw [← hPe] at hp HP ⊢
  have HPE := Lib.hid hPe
  clear hPe hbe hd1 hd2
  go_loopw [31] (fun i wr => ∃ k : Nat, k ≤ N ∧ i = .int .i64 k ∧ (∀ j (hj : j < xss.length), j < k → rowOk st xss[j] = true) ∧ wr = w1) (fun i _ => N - (intOf i).toNat)
  case atStart => exact ⟨0, Nat.zero_le _, rfl, fun j hj h => by omega, rfl⟩
  case round =>
    obtain ⟨k, hk, rfl, hall, rfl⟩ := hrel
    have HALL := Lib.hid hall
    clear hall
    by_cases hlt : k < N
    · have hkg : k < xss.length := by rw [← HN.out]; exact hlt
      rcases HI.out with hn | ⟨x, rfl, hc⟩
      · rw [hn] at hkg; simp at hkg
      obtain ⟨u, c0, hrow⟩ := hc k hkg
      have hm := HR.out _ (List.getElem_mem hkg)
      have HBAD : Hid (rowOk st xss[k] = false → xss.all (rowOk st) = false) := Lib.hid (fun h => by
        rw [List.all_eq_false]
        exact ⟨xss[k], List.getElem_mem hkg, by rw [h]; decide⟩)
      have HGOOD : Hid (rowOk st xss[k] = true → ∀ j (hj : j < xss.length), j < k + 1 → rowOk st xss[j] = true) := Lib.hid (fun h j hj hjk => by
        by_cases e : j = k
        · subst e; exact h
        · exact HALL.out j hj (by omega))
      have HC := Lib.hid (containsF_any u xss[k] st P _ hm HP.out hrow)
      generalize xss[k] = r at *
      obtain ⟨A2, c2, rfl⟩ := hrow.shape
      obtain ⟨m, hm'⟩ : ∃ m, m = r.length := ⟨_, rfl⟩
      rw [← hm'] at hm c0 HC
      have HM := Lib.hid hm'
      clear hrow hc hm'
      by_cases h4 : m = 4
      · subst h4
        cases ha : allIn st r
        · rw [ha] at HC
          have HF := Lib.hid (HBAD.out (by
            unfold rowOk
            rw [show (r.all fun x => decide (0 ≤ x ∧ x < st)) = false from ha, Bool.and_false]))
          clear ha HBAD HGOOD HALL
          go_wp2_with fail
          refine HC.out.mono ?_
          rintro e w5 ⟨rfl, rfl⟩
          go_wp2_with fail
          go_ret
          exact ⟨by rw [HF.out] <;> rfl, HB.out⟩
        · rw [ha] at HC
          have HNX := Lib.hid (HGOOD.out (by
            unfold rowOk
            rw [show (r.all fun x => decide (0 ≤ x ∧ x < st)) = true from ha, ← HM.out]; rfl))
          clear ha HBAD HGOOD HALL
          go_wp2_with fail
          refine HC.out.mono ?_
          rintro e w5 ⟨rfl, rfl⟩
          go_wp2_with fail
          go_roundw
          all_goals first | exact ⟨k + 1, by omega, by go_num, HNX.out, by first | rfl | trivial⟩ | ((repeat apply Exists.intro); exact ⟨⟨k + 1, by omega, by go_num, HNX.out, by first | rfl | trivial⟩, by first | rfl | trivial⟩) | (simp [intOf]; done) | (simp [intOf]; omega) | omega
      · have hne : ¬ (m : Int) = 4 := by omega
        have HF := Lib.hid (HBAD.out (by unfold rowOk; rw [← HM.out, decide_eq_false h4]; rfl))
        clear HBAD HGOOD HALL HC
        go_wp2_with fail
        go_ret
        exact ⟨by rw [HF.out] <;> rfl, HB.out⟩
    · obtain rfl : k = N := by omega
      have HT : Hid (xss.all (rowOk st) = true) := Lib.hid (by
        rw [List.all_eq_true]
        intro r hr
        obtain ⟨j, hj, e⟩ := List.getElem_of_mem hr
        rw [← e]
        exact HALL.out j hj (by rw [HN.out]; exact hj))
      clear HALL
      go_wp2_with fail
      go_ret
      exact ⟨by rw [HT.out] <;> rfl, HB.out⟩
set_option maxRecDepth 100000 in
set_option maxHeartbeats 3200000 in
theorem steps_any (st go : Int) (v : Value) (xss : List (List Int)) (w : World) (hl : xss.length ≤ 1048576) (hr : ∀ r ∈ xss, r.length ≤ 1048576) (h : IsLL w v xss) :
    Calls Try.prog 164 #[.int .i64 st, .int .i64 go, v] w fun e w' => e = .returned (.bool (stepsOk st go xss)) ∧ Below w.heap.size w w' := by
  have HB := Lib.hid ((Below.refl _ w).alloc (Nat.le_refl _) (.cells #[.int .i64 st] 2))
  have HS := Lib.hid (fun W => isOf_any go st W)
  by_cases h1 : 1 ≤ st
  · by_cases h2 : st ≤ 24
    · by_cases h3 : 0 ≤ go ∧ go < st
      · by_cases h4 : (xss.length : Int) = st
        · unfold stepsOk
          rw [decide_eq_true (show 1 ≤ st ∧ st ≤ 24 from ⟨h1, h2⟩), decide_eq_true h3, decide_eq_true h4]
          exact steps_ok st go v xss w hl hr h h1 h2 h3 h4
        · have hf : stepsOk st go xss = false := by unfold stepsOk; rw [decide_eq_false h4, Bool.false_and, Bool.and_false]
          rw [hf]
          rw [decide_eq_true h3] at HS
          have hbe : ((xss.length : Int) != st) = true := by simp [h4]
          have hd1 : decide (st < 1) = false := decide_eq_false (by omega)
          have hd2 : decide (24 < st) = false := decide_eq_false (by omega)
          clear h4
          obtain ⟨A, c, rfl, hx⟩ := h
          clear hf h3 hr hx
          generalize xss.length = N at *
          go_enter Try.func164, Try.ntmps164
          go_wp2_with fail
          refine (HS.out _).mono ?_
          rintro e w5 ⟨rfl, rfl⟩
          go_wp2_with fail
          go_ret
          exact ⟨rfl, HB.out⟩
      · have hf : stepsOk st go xss = false := by unfold stepsOk; rw [decide_eq_false h3, Bool.and_false, Bool.false_and]
        rw [hf]
        rw [decide_eq_false h3] at HS
        have hd1 : decide (st < 1) = false := decide_eq_false (by omega)
        have hd2 : decide (24 < st) = false := decide_eq_false (by omega)
        obtain ⟨A, c, rfl, hx⟩ := h
        clear hf h3 hr hx
        generalize xss.length = N at *
        go_enter Try.func164, Try.ntmps164
        go_wp2_with fail
        refine (HS.out _).mono ?_
        rintro e w5 ⟨rfl, rfl⟩
        go_wp2_with fail
        go_ret
        exact ⟨rfl, HB.out⟩
    · have hf : stepsOk st go xss = false := by unfold stepsOk; rw [decide_eq_false (fun h => h2 h.2), Bool.false_and, Bool.false_and]
      rw [hf]
      have hd1 : decide (st < 1) = false := decide_eq_false (by omega)
      have hd2 : decide (24 < st) = true := decide_eq_true (by omega)
      obtain ⟨A, c, rfl, hx⟩ := h
      clear hf hr HS hx
      generalize xss.length = N at *
      go_enter Try.func164, Try.ntmps164
      go_wp2_with fail
      go_ret
      exact ⟨rfl, HB.out⟩
  · have hf : stepsOk st go xss = false := by unfold stepsOk; rw [decide_eq_false (fun h => h1 h.1), Bool.false_and, Bool.false_and]
    rw [hf]
    have hd1 : decide (st < 1) = true := decide_eq_true (by omega)
    obtain ⟨A, c, rfl, hx⟩ := h
    clear hf hr HS hx
    generalize xss.length = N at *
    go_enter Try.func164, Try.ntmps164
    go_wp2_with fail
    go_ret
    exact ⟨rfl, HB.out⟩
end Go.Proofs.Ytaffachjopjbgaa
namespace Go.Proofs.Ytaffachjopjbgaa
open Go.RowKit
open Wd
set_option linter.unusedVariables false
theorem aOk_eq (x : Au) : aOk x = (stepsOk x.st x.go x.nx && risesL 0 (x.st - 1) x.fin) := by
  unfold aOk stepsOk
  rw [show (decide (0 ≤ x.go ∧ x.go ≤ x.st - 1)) = decide (0 ≤ x.go ∧ x.go < x.st) from by congr 1; rw [eq_iff_iff]; omega]
  simp only [Bool.and_assoc, Bool.and_comm, Bool.and_left_comm]
set_option maxRecDepth 100000 in
set_option maxHeartbeats 3200000 in
theorem implValidAuto (v : Value) (x : Au) (w : World) (hf : FewA x) (h : IsAu w v x) :
    Calls Try.prog 107 #[v] w fun e w' => e = .returned (.bool (aOk x)) ∧ Below w.heap.size w w' := by
  rw [aOk_eq]
  obtain ⟨f, n, rfl, hF, hN⟩ := h
  obtain ⟨st, go, fin, nx⟩ := x
  simp only at hF hN ⊢
  have hf1 := hf.fin
  have hf2 := hf.nx
  have hf3 := hf.row
  simp only at hf1 hf2 hf3
  have hb := (Below.refl _ w).alloc (Nat.le_refl _) (.cells #[.int .i64 st, .int .i64 go, f, n] 33)
  have hP := heap_alloc_new w (.cells #[.int .i64 st, .int .i64 go, f, n] 33)
  have HS := Lib.hid (steps_any st go n nx _ hf2 hf3 (hN.kept hb))
  obtain ⟨A, c, rfl, hin⟩ := hF
  obtain ⟨An, cn, rfl, _⟩ := hN
  have HB := Lib.hid hb
  have HP := Lib.hid hP
  have HI := Lib.hid hin
  have HW := Lib.hid (show w.heap.size < (w.alloc (.cells #[.int .i64 st, .int .i64 go, .slice A fin.length c, .slice An nx.length cn] 33)).heap.size by simp)
  clear hb hP hin hf
  cases hs : stepsOk st go nx
  · rw [hs] at HS
    rw [Bool.false_and]
    clear hs
    go_enter Try.func107, Try.ntmps107
    go_wp2_with fail
    refine HS.out.mono ?_
    rintro e w1 ⟨rfl, hB1⟩
    have HB1 := Lib.hid (HB.out.trans (hB1.mono (by simp)))
    clear hB1
    go_wp2_with fail
    go_ret
    exact ⟨rfl, HB1.out⟩
  · rw [hs] at HS
    rw [Bool.true_and]
    have hst : 1 ≤ st ∧ st ≤ 24 := by
      unfold stepsOk at hs
      rw [Bool.and_eq_true, Bool.and_eq_true, decide_eq_true_iff] at hs
      exact hs.1.1
    obtain ⟨hst1, hst2⟩ := hst
    clear hs
    obtain ⟨N, hN⟩ : ∃ N, N = fin.length := ⟨_, rfl⟩
    rw [← hN] at hf1 HB HP HS HW ⊢
    have HN := Lib.hid hN
    clear hN
    go_enter Try.func107, Try.ntmps107
    go_wp2_with fail
    refine HS.out.mono ?_
    rintro e w1 ⟨rfl, hB1⟩
    have HB1 := Lib.hid (HB.out.trans (hB1.mono (by simp)))
    have hP1 := (hB1.block w.heap.size HW.out).trans HP.out
    obtain ⟨⟨p0, p1, p2, p3⟩, _⟩ := blk4_cells hP1
    have HI1 : Hid (fin = [] ∨ ∃ a, A = some a ∧ ∀ j (hj : j < fin.length), w1.cell? (a.add j) = some (.int .i64 fin[j])) := Lib.hid (by
      rcases HI.out with h | ⟨a, h1, h2⟩
      · exact .inl h
      · exact .inr ⟨a, h1, fun j hj => (HB1.out.cell (lt_of_cell (h2 j hj))).trans (h2 j hj)⟩)
    clear hB1 hP1 HB HP HI HS HW
    go_wp2_with fail
    obtain ⟨P, hPe⟩ : ∃ P, P = w.heap.size := ⟨_, rfl⟩
    rw [← hPe] at p0 p1 p2 p3 ⊢
    clear hPe
    go_loopw [16] (fun i wr => ∃ k : Nat, k ≤ N ∧ i = .int .i64 k ∧ (∀ j, j < k → goodAt 0 (st - 1) fin j) ∧ wr = w1) (fun i _ => N - (intOf i).toNat)
    case atStart => exact ⟨0, Nat.zero_le _, rfl, fun j hj => by omega, rfl⟩
    case round =>
      obtain ⟨k, hk, rfl, hgood, rfl⟩ := hrel
      have HG := Lib.hid hgood
      clear hgood
      by_cases hlt : k < N
      · have hkg : k < fin.length := by rw [← HN.out]; exact hlt
        rcases HI1.out with hn | ⟨x, rfl, hc⟩
        · rw [hn] at hkg; simp at hkg
        have c0 := hc k hkg
        rw [show fin[k] = fin.getD k 0 from by rw [List.getD_eq_getElem?_getD, List.getElem?_eq_getElem hkg]; rfl] at c0
        have HBAD : Hid (¬ goodAt 0 (st - 1) fin k → risesL 0 (st - 1) fin = false) := Lib.hid (fun h => decide_eq_false (fun h' => h (h' k hkg)))
        have HNEXT : Hid (goodAt 0 (st - 1) fin k → ∀ j, j < k + 1 → goodAt 0 (st - 1) fin j) := Lib.hid (fun h j hj => by
          by_cases e : j = k
          · subst e; exact h
          · exact HG.out j (by omega))
        have HOF := Lib.hid (fun W => isOf_any (fin.getD k 0) st W)
        by_cases hb : 0 ≤ fin.getD k 0 ∧ fin.getD k 0 < st
        · rw [decide_eq_true hb] at HOF
          by_cases h0 : 0 < k
          · obtain ⟨m, hm⟩ : ∃ m, k = m + 1 := ⟨k - 1, by omega⟩
            have d1 := hc m (by omega)
            rw [show fin[m]'(by omega) = fin.getD m 0 from by rw [List.getD_eq_getElem?_getD, List.getElem?_eq_getElem (by omega)]; rfl] at d1
            have hm0 : (0 : Int) ≤ (m : Int) := by omega
            have hm1 : (m : Int) < (N : Int) := by omega
            have hsub : IntKind.i64.wrap ((k : Int) - 1) = (m : Int) := by rw [IntKind.wrap_i64]; omega
            have hgt : decide ((0 : Int) < (k : Int)) = true := decide_eq_true (by omega)
            have hgt2 : decide (0 < k) = true := decide_eq_true (by omega)
            have HB0 := Lib.hid hb
            have HM := Lib.hid hm
            clear hb h0 hm hc hkg
            generalize hz : fin.getD k 0 = z at *
            generalize hy : fin.getD m 0 = y at *
            have HZ := Lib.hid (And.intro hz hy)
            clear hz hy
            by_cases hle : z ≤ y
            · have hge : decide (z ≤ y) = true := decide_eq_true hle
              have HFIN : Hid (risesL 0 (st - 1) fin = false) := Lib.hid (HBAD.out (fun h => by
                have hm := HM.out
                have := h.2 (by omega)
                rw [show k - 1 = m from by omega, HZ.out.1, HZ.out.2] at this
                omega))
              clear HBAD HNEXT HG
              go_wp2_with fail
              refine (HOF.out _).mono ?_
              rintro e w5 ⟨rfl, rfl⟩
              go_wp2_with fail
              go_ret
              exact ⟨by rw [HFIN.out] <;> rfl, HB1.out⟩
            · have hge : decide (z ≤ y) = false := decide_eq_false hle
              have HOKK := Lib.hid (HNEXT.out ⟨by rw [HZ.out.1]; have := HB0.out; omega, fun _ => by rw [show k - 1 = m from by have := HM.out; omega, HZ.out.1, HZ.out.2]; omega⟩)
              clear HBAD HNEXT HG
              go_wp2_with fail
              refine (HOF.out _).mono ?_
              rintro e w5 ⟨rfl, rfl⟩
              go_wp2_with fail
              go_roundw
              all_goals first | exact ⟨k + 1, by omega, by go_num, HOKK.out, by first | rfl | trivial⟩ | ((repeat apply Exists.intro); exact ⟨⟨k + 1, by omega, by go_num, HOKK.out, by first | rfl | trivial⟩, by first | rfl | trivial⟩) | (simp [intOf]; done) | (simp [intOf]; omega) | omega
          · have HOKK := Lib.hid (HNEXT.out ⟨by omega, fun h => absurd h h0⟩)
            have hgt : decide ((0 : Int) < (k : Int)) = false := decide_eq_false (by omega)
            have hgt2 : decide (0 < k) = false := decide_eq_false (by omega)
            clear hb h0 HBAD HNEXT HG hc hkg
            generalize fin.getD k 0 = z at *
            go_wp2_with fail
            refine (HOF.out _).mono ?_
            rintro e w5 ⟨rfl, rfl⟩
            go_wp2_with fail
            go_roundw
            all_goals first | exact ⟨k + 1, by omega, by go_num, HOKK.out, by first | rfl | trivial⟩ | ((repeat apply Exists.intro); exact ⟨⟨k + 1, by omega, by go_num, HOKK.out, by first | rfl | trivial⟩, by first | rfl | trivial⟩) | (simp [intOf]; done) | (simp [intOf]; omega) | omega
        · rw [decide_eq_false hb] at HOF
          have HFIN := Lib.hid (HBAD.out (fun h => hb ⟨h.1.1, by have := h.1.2; omega⟩))
          clear hb HBAD HNEXT HG hc hkg
          generalize fin.getD k 0 = z at *
          go_wp2_with fail
          refine (HOF.out _).mono ?_
          rintro e w5 ⟨rfl, rfl⟩
          go_wp2_with fail
          go_ret
          exact ⟨by rw [HFIN.out] <;> rfl, HB1.out⟩
      · obtain rfl : k = N := by omega
        have HFIN : Hid (risesL 0 (st - 1) fin = true) := Lib.hid (decide_eq_true (fun j hj => HG.out j (by rw [HN.out]; exact hj)))
        clear HG
        go_wp2_with fail
        go_ret
        exact ⟨by rw [HFIN.out] <;> rfl, HB1.out⟩
end Go.Proofs.Ytaffachjopjbgaa
