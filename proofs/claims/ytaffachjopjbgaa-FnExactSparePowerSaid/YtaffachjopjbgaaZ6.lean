/-
  Contracts and numbers of the functions that the laws of this place call, one text behind the other. No condition beyond those that each theorem names.
-/
import Derived.Test.YtaffachjopjbgaaZ1
import Derived.Test.YtaffachjopjbgaaZ2
import Derived.Test.YtaffachjopjbgaaZ3
import Derived.Test.YtaffachjopjbgaaZ5
import Derived.StillTailTactics
import Derived.Deep.DeepCutAuto
namespace Go.Proofs.Ytaffachjopjbgaa
open Go.RowKit
open Wd
set_option linter.unusedVariables false
namespace Wd
/-- the sum of the first numbers of a row -/
def sumN (f : Nat → Int) : Nat → Int
  | 0 => 0
  | k + 1 => sumN f k + f k
/-- one more at a place -/
def upd1 (f : Nat → Int) (a : Nat) (d : Int) : Nat → Int := fun i => if i = a then f i + d else f i
def upd2 (u : Nat → Nat → Int) (a t : Nat) (d : Int) : Nat → Nat → Int := fun j s => if j = a ∧ s = t then u j s + d else u j s
/-- where a rule leads -/
def qAt (nx : List (List Int)) (gs : List Rl) (k t : Nat) : Nat := (at2 (mapsK nx gs gs.length) k t).toNat
/-- what is counted for rules: the sum of its parts, the weight of the state behind a letter -/
def VOk (nx : List (List Int)) (gs : List Rl) (N : Nat) (V : Nat → Nat → Int) (w : Nat → Int) : Prop :=
  (∀ k a b t, k < gs.length → t < N → (gs.getD k ⟨ByteArray.empty, 0, 0⟩).L.size = 0 → (gs.getD k ⟨ByteArray.empty, 0, 0⟩).l = ((a : Nat) : Int) → (gs.getD k ⟨ByteArray.empty, 0, 0⟩).r = ((b : Nat) : Int) → V k t = V a t + V b (qAt nx gs a t)) ∧
  (∀ k t, k < gs.length → t < N → (gs.getD k ⟨ByteArray.empty, 0, 0⟩).L.size ≠ 0 → V k t = w (qAt nx gs k t))
/-- the sum over the first rules -/
def sumR (N : Nat) (u V : Nat → Nat → Int) (k : Nat) : Int := sumN (fun j => sumN (fun s => u j s * V j s) N) k
/-- what of a rule is not yet taken apart -/
def tailR (N : Nat) (u V : Nat → Nat → Int) (r t : Nat) : Int := sumN (fun s => if t ≤ s then u r s * V r s else 0) N
/-- what does not change, between two states of a rule -/
def VcI (nx : List (List Int)) (gs : List Rl) (N go r t : Nat) (u : Nat → Nat → Int) (o : Nat → Int) : Prop :=
  (∀ j s, 0 ≤ u j s) ∧ (∀ s, 0 ≤ o s) ∧ ∀ V w, VOk nx gs N V w → sumN (fun s => w s * o s) N + sumR N u V r + tailR N u V r t = V (gs.length - 1) go
end Wd
theorem sumN_congr {f g : Nat → Int} : ∀ {n}, (∀ i, i < n → f i = g i) → sumN f n = sumN g n
  | 0, _ => rfl
  | n + 1, h => by rw [sumN, sumN, sumN_congr (fun i hi => h i (by omega)), h n (by omega)]
theorem sumN_zero {f : Nat → Int} : ∀ {n}, (∀ i, i < n → f i = 0) → sumN f n = 0
  | 0, _ => rfl
  | n + 1, h => by rw [sumN, sumN_zero (fun i hi => h i (by omega)), h n (by omega)]; rfl
theorem sumN_pos {f : Nat → Int} : ∀ {n}, (∀ i, i < n → 0 ≤ f i) → 0 ≤ sumN f n
  | 0, _ => Int.le_refl _
  | n + 1, h => by have h1 := sumN_pos (n := n) (fun i hi => h i (by omega)); have h2 := h n (by omega); rw [sumN]; omega
theorem sumN_one {f g : Nat → Int} {a : Nat} {d : Int} : ∀ {n}, a < n → (∀ i, i < n → i ≠ a → g i = f i) → g a = f a + d → sumN g n = sumN f n + d
  | 0, h, _, _ => by omega
  | n + 1, h, h1, h2 => by
    rw [sumN, sumN]
    by_cases e : a = n
    · subst e
      rw [sumN_congr (n := a) (f := g) (g := f) (fun i hi => h1 i (by omega) (by omega)), h2]
      omega
    · rw [sumN_one (n := n) (by omega) (fun i hi => h1 i (by omega)) h2, h1 n (by omega) (by omega)]
      omega
theorem sumN_ge {f : Nat → Int} {a n : Nat} (ha : a < n) (h : ∀ i, i < n → 0 ≤ f i) : f a ≤ sumN f n := by
  have h1 := sumN_one (f := fun i => if i = a then 0 else f i) (g := f) (a := a) (d := f a) ha (fun i _ hi => by simp [hi]) (by simp)
  have h2 := sumN_pos (f := fun i => if i = a then 0 else f i) (n := n) (fun i hi => by
    show 0 ≤ if i = a then 0 else f i
    split
    · omega
    · exact h i hi)
  omega
theorem upd1_same (f : Nat → Int) (a : Nat) (d : Int) : upd1 f a d a = f a + d := by simp [upd1]
theorem upd1_ne (f : Nat → Int) {a i : Nat} (d : Int) (h : i ≠ a) : upd1 f a d i = f i := by simp [upd1, h]
theorem upd2_same (u : Nat → Nat → Int) (a t : Nat) (d : Int) : upd2 u a t d a t = u a t + d := by simp [upd2]
theorem upd2_ne (u : Nat → Nat → Int) {a t j s : Nat} (d : Int) (h : ¬ (j = a ∧ s = t)) : upd2 u a t d j s = u j s := by simp [upd2, h]
theorem upd2_zero (u : Nat → Nat → Int) (a t : Nat) : upd2 u a t 0 = u := by
  funext j s
  unfold upd2
  split
  · omega
  · rfl
theorem upd1_zero (f : Nat → Int) (a : Nat) : upd1 f a 0 = f := by
  funext j
  unfold upd1
  split
  · omega
  · rfl
/-- one more at a place of the first rules -/
theorem sumR_upd {N a t k : Nat} {u V : Nat → Nat → Int} {d : Int} (ha : a < k) (ht : t < N) : sumR N (upd2 u a t d) V k = sumR N u V k + d * V a t := by
  unfold sumR
  refine sumN_one ha (fun i hi hne => sumN_congr (fun s hs => by rw [upd2_ne u d (fun h => hne h.1)])) ?_
  refine sumN_one ht (fun s hs hne => by rw [upd2_ne u d (fun h => hne h.2)]) ?_
  show upd2 u a t d a t * V a t = u a t * V a t + d * V a t
  rw [upd2_same, Int.add_mul]
theorem tailR_far {N a t r s : Nat} {u V : Nat → Nat → Int} {d : Int} (h : a ≠ r) : tailR N (upd2 u a t d) V r s = tailR N u V r s := by
  unfold tailR
  refine sumN_congr (fun i hi => ?_)
  rw [upd2_ne u d (fun e => h e.1.symm)]
theorem tailR_step {N r t : Nat} {u V : Nat → Nat → Int} (ht : t < N) : tailR N u V r t = tailR N u V r (t + 1) + u r t * V r t := by
  unfold tailR
  refine sumN_one (f := fun s => if t + 1 ≤ s then u r s * V r s else 0) ht (fun i hi hne => ?_) ?_
  · by_cases h : t ≤ i
    · rw [if_pos h, if_pos (by omega)]
    · rw [if_neg h, if_neg (by omega)]
  · show (if t ≤ t then u r t * V r t else 0) = (if t + 1 ≤ t then u r t * V r t else 0) + u r t * V r t
    rw [if_pos (Nat.le_refl t), if_neg (by omega)]
    omega
theorem tailR_end {N r : Nat} {u V : Nat → Nat → Int} : tailR N u V r N = 0 := by
  unfold tailR
  exact sumN_zero (fun i hi => by rw [if_neg (by omega)])
theorem tailR_zero {N r : Nat} {u V : Nat → Nat → Int} : tailR N u V r 0 = sumN (fun s => u r s * V r s) N := by
  unfold tailR
  exact sumN_congr (fun i hi => by rw [if_pos (Nat.zero_le _)])
/-- the start: the last rule is met once -/
theorem VcI.start {nx : List (List Int)} {gs : List Rl} {N go : Nat} (hg : go < N) : VcI nx gs N go (gs.length - 1) 0 (upd2 (fun _ _ => 0) (gs.length - 1) go 1) (fun _ => 0) := by
  refine ⟨fun j s => ?_, fun s => Int.le_refl _, fun V w hV => ?_⟩
  · unfold upd2
    show 0 ≤ if j = gs.length - 1 ∧ s = go then (0 : Int) + 1 else 0
    split <;> omega
  · rw [sumN_zero (fun i hi => by show w i * 0 = 0; rw [Int.mul_zero]), tailR_zero]
    have h1 : sumR N (upd2 (fun _ _ => 0) (gs.length - 1) go 1) V (gs.length - 1) = 0 := by
      unfold sumR
      refine sumN_zero (fun i hi => sumN_zero (fun s hs => ?_))
      rw [upd2_ne _ _ (fun h => by omega), Int.zero_mul]
    have h2 : sumN (fun s => upd2 (fun _ _ => (0 : Int)) (gs.length - 1) go 1 (gs.length - 1) s * V (gs.length - 1) s) N = sumN (fun _ => (0 : Int)) N + V (gs.length - 1) go := by
      refine sumN_one hg (fun i hi hne => ?_) ?_
      · rw [upd2_ne _ _ (fun h => hne h.2), Int.zero_mul]
      · rw [upd2_same]; omega
    rw [h1, h2, sumN_zero (fun _ _ => rfl)]
    omega
/-- the next rule -/
theorem VcI.down {nx : List (List Int)} {gs : List Rl} {N go r : Nat} {u : Nat → Nat → Int} {o : Nat → Int} (h : VcI nx gs N go (r + 1) N u o) : VcI nx gs N go r 0 u o := by
  refine ⟨h.1, h.2.1, fun V w hV => ?_⟩
  have := h.2.2 V w hV
  rw [tailR_end] at this
  rw [tailR_zero, ← this]
  unfold sumR
  rw [sumN]
  omega
/-- a letter in a state -/
theorem VcI.letter {nx : List (List Int)} {gs : List Rl} {N go r t : Nat} {u : Nat → Nat → Int} {o : Nat → Int} (h : VcI nx gs N go r t u o) (hr : r < gs.length) (ht : t < N) (hq : qAt nx gs r t < N) (hz : (gs.getD r ⟨ByteArray.empty, 0, 0⟩).L.size ≠ 0) : VcI nx gs N go r (t + 1) u (upd1 o (qAt nx gs r t) (u r t)) := by
  refine ⟨h.1, fun s => ?_, fun V w hV => ?_⟩
  · have h1 := h.2.1 s
    have h2 := h.1 r t
    unfold upd1
    split <;> omega
  · have h1 := h.2.2 V w hV
    rw [tailR_step ht, hV.2 r t hr ht hz] at h1
    have h2 : sumN (fun s => w s * upd1 o (qAt nx gs r t) (u r t) s) N = sumN (fun s => w s * o s) N + u r t * w (qAt nx gs r t) := by
      refine sumN_one hq (fun i hi hne => by rw [upd1_ne _ _ hne]) ?_
      rw [upd1_same, Int.mul_add, Int.mul_comm (u r t)]
    omega
/-- a pair in a state -/
theorem VcI.pair {nx : List (List Int)} {gs : List Rl} {N go r t a b : Nat} {u : Nat → Nat → Int} {o : Nat → Int} (h : VcI nx gs N go r t u o) (hr : r < gs.length) (ht : t < N) (hq : qAt nx gs a t < N) (hz : (gs.getD r ⟨ByteArray.empty, 0, 0⟩).L.size = 0) (ha : (gs.getD r ⟨ByteArray.empty, 0, 0⟩).l = (a : Int)) (hb : (gs.getD r ⟨ByteArray.empty, 0, 0⟩).r = (b : Int)) (har : a < r) (hbr : b < r) :
    VcI nx gs N go r (t + 1) (upd2 (upd2 u a t (u r t)) b (qAt nx gs a t) (u r t)) o := by
  have hn := h.1 r t
  refine ⟨fun j s => ?_, h.2.1, fun V w hV => ?_⟩
  · have h1 := h.1 j s
    unfold upd2
    split <;> split <;> omega
  · have h1 := h.2.2 V w hV
    rw [tailR_step ht, hV.1 r a b t hr ht hz ha hb, Int.mul_add] at h1
    rw [sumR_upd hbr hq, sumR_upd har ht, tailR_far (by omega), tailR_far (by omega)]
    omega
/-- behind all rules: what was counted -/
theorem VcI.done {nx : List (List Int)} {gs : List Rl} {N go : Nat} {u : Nat → Nat → Int} {o : Nat → Int} (h : VcI nx gs N go 0 N u o) {V : Nat → Nat → Int} {w : Nat → Int} (hV : VOk nx gs N V w) : sumN (fun s => w s * o s) N = V (gs.length - 1) go := by
  have := h.2.2 V w hV
  rw [tailR_end] at this
  have h0 : sumR N u V 0 = 0 := rfl
  omega
theorem getD_rl {gs : List Rl} {k : Nat} (hk : k < gs.length) : gs.getD k ⟨ByteArray.empty, 0, 0⟩ = gs[k] := by rw [List.getD_eq_getElem?_getD, List.getElem?_eq_getElem hk]; rfl
/-- the lengths are such a count, and so are the visits -/
theorem vok_lens {nx : List (List Int)} {gs : List Rl} {N : Nat} (hfit : fits gs = true) : VOk nx gs N (fun k _ => (lens gs).getD k 0) (fun _ => 1) := by
  refine ⟨fun k a b t hk _ hz ha hb => ?_, fun k t hk _ hz => ?_⟩
  · rw [getD_rl hk] at hz ha hb
    have := vals_pair (fun a b => a + b) gs k hk hz (fits_at hfit k hk)
    rw [ha, hb, Int.toNat_natCast, Int.toNat_natCast] at this
    exact this
  · rw [getD_rl hk] at hz
    exact vals_letter (fun a b => a + b) gs k hk hz
theorem vok_vis {nx : List (List Int)} {gs : List Rl} {N : Nat} (wa : Int → Bool) (hfit : fits gs = true) (hN : N ≤ 24) (hm : ∀ k t, k < gs.length → t < N → 0 ≤ at2 (mapsK nx gs gs.length) k t) : VOk nx gs N (fun k t => at2 (visK wa nx gs gs.length) k t) (fun s => if wa (s : Int) = true then 1 else 0) := by
  refine ⟨fun k a b t hk ht hz ha hb => ?_, fun k t hk ht hz => ?_⟩
  · rw [getD_rl hk] at hz ha hb
    obtain ⟨⟨a1, a2⟩, b1, b2⟩ := (ok_pair hz).1 (fits_at hfit k hk)
    exact vis_pair wa nx hk hz ha hb (by omega) (by omega) (by omega)
  · rw [getD_rl hk] at hz
    show at2 (visK wa nx gs gs.length) k t = if wa ((qAt nx gs k t : Nat) : Int) = true then 1 else 0
    rw [vis_letter wa nx hk hz (by omega)]
    unfold qAt
    rw [Int.toNat_of_nonneg (hm k t hk ht)]
/-- no count passes the length -/
theorem VcI.bound {nx : List (List Int)} {gs : List Rl} {N go r t : Nat} {u : Nat → Nat → Int} {o : Nat → Int} (h : VcI nx gs N go r t u o) (hfit : fits gs = true) (hr : r < gs.length) {s : Nat} (hs : s < N) :
    o s ≤ (lens gs).getD (gs.length - 1) 0 ∧ (∀ j, j < r → u j s ≤ (lens gs).getD (gs.length - 1) 0) ∧ (t ≤ s → u r s ≤ (lens gs).getD (gs.length - 1) 0) := by
  have h1 := h.2.2 _ _ (vok_lens (N := N) (nx := nx) hfit)
  have lp : ∀ j, j < gs.length → 1 ≤ (lens gs).getD j 0 := fun j hj => by
    have := lens_pos (gs := gs) (k := j) hj (fun j hj _ => fits_at hfit j hj); omega
  have up : ∀ j s', j < gs.length → u j s' ≤ u j s' * (lens gs).getD j 0 := fun j s' hj => by
    have h2 := Int.mul_le_mul_of_nonneg_left (lp j hj) (h.1 j s')
    rw [Int.mul_one] at h2
    exact h2
  have un : ∀ j s', j < gs.length → 0 ≤ u j s' * (lens gs).getD j 0 := fun j s' hj => by have := up j s' hj; have := h.1 j s'; omega
  have p1 : 0 ≤ sumN (fun s => (1 : Int) * o s) N := sumN_pos (fun i _ => by have := h.2.1 i; omega)
  have p2 : 0 ≤ sumR N u (fun k _ => (lens gs).getD k 0) r := sumN_pos (fun j hj => sumN_pos (fun i _ => un j i (by omega)))
  have p3 : 0 ≤ tailR N u (fun k _ => (lens gs).getD k 0) r t := sumN_pos (fun i _ => by
    show 0 ≤ if t ≤ i then u r i * (lens gs).getD r 0 else 0
    split
    · exact un r i hr
    · omega)
  refine ⟨?_, fun j hj => ?_, fun hts => ?_⟩
  · have := sumN_ge (f := fun s => (1 : Int) * o s) hs (fun i _ => by have := h.2.1 i; omega)
    have e : (1 : Int) * o s = o s := Int.one_mul _
    simp only [e] at this
    omega
  · have g1 : u j s * (lens gs).getD j 0 ≤ sumN (fun s => u j s * (lens gs).getD j 0) N := sumN_ge (f := fun s => u j s * (lens gs).getD j 0) hs (fun i _ => un j i (by omega))
    have g2 : sumN (fun s => u j s * (lens gs).getD j 0) N ≤ sumR N u (fun k _ => (lens gs).getD k 0) r := sumN_ge (f := fun j => sumN (fun s => u j s * (lens gs).getD j 0) N) hj (fun i hi => sumN_pos (fun i' _ => un i i' (by omega)))
    have := up j s (by omega)
    omega
  · have g1 : (if t ≤ s then u r s * (lens gs).getD r 0 else 0) ≤ tailR N u (fun k _ => (lens gs).getD k 0) r t := sumN_ge (f := fun s => if t ≤ s then u r s * (lens gs).getD r 0 else 0) hs (fun i _ => by
      show 0 ≤ if t ≤ i then u r i * (lens gs).getD r 0 else 0
      split
      · exact un r i hr
      · omega)
    rw [if_pos hts] at g1
    have := up r s hr
    omega
/-- how often a state is met -/
theorem VcI.count {nx : List (List Int)} {gs : List Rl} {N go : Nat} {u : Nat → Nat → Int} {o : Nat → Int} (h : VcI nx gs N go 0 N u o) (hfit : fits gs = true) (hN : N ≤ 24) (hm : ∀ k t, k < gs.length → t < N → 0 ≤ at2 (mapsK nx gs gs.length) k t) {s : Nat} (hs : s < N) :
    o s = at2 (visK (fun q => decide (q = (s : Int))) nx gs gs.length) (gs.length - 1) go := by
  have h1 := VcI.done h (vok_vis (fun q => decide (q = (s : Int))) hfit hN hm)
  rw [← h1]
  have h2 := sumN_one (f := fun _ => (0 : Int)) (g := fun s' => (if (fun q => decide (q = (s : Int))) (s' : Int) = true then (1 : Int) else 0) * o s') (a := s) (d := o s) hs (fun i _ hne => by
    show (if decide ((i : Int) = (s : Int)) = true then (1 : Int) else 0) * o i = 0
    rw [if_neg (by simp; omega), Int.zero_mul]) (by
    show (if decide ((s : Int) = (s : Int)) = true then (1 : Int) else 0) * o s = 0 + o s
    rw [if_pos (by simp)]; omega)
  rw [h2, sumN_zero (fun _ _ => rfl)]
  omega
end Go.Proofs.Ytaffachjopjbgaa
namespace Go.Proofs.Ytaffachjopjbgaa
open Go.RowKit
open Wd
set_option linter.unusedVariables false
namespace Wd
def rowF (f : Nat → Int) (N : Nat) : List Int := (List.range N).map f
def rowsF (u : Nat → Nat → Int) (n N : Nat) : List (List Int) := (List.range n).map fun j => rowF (u j) N
/-- how often each state is visited -/
def vcL (nx : List (List Int)) (gs : List Rl) (N go : Nat) : List Int := rowF (fun q => allV (visK (fun p => decide (p = (q : Int))) nx gs gs.length) gs (go : Int)) N
end Wd
theorem rowF_len (f : Nat → Int) (N : Nat) : (rowF f N).length = N := by simp [rowF]
theorem rowF_get {f : Nat → Int} {N k : Nat} (h : k < N) : (rowF f N)[k]? = some (f k) := by simp [rowF, h]
theorem rowF_congr {f g : Nat → Int} {N : Nat} (h : ∀ k, k < N → f k = g k) : rowF f N = rowF g N := by
  unfold rowF
  exact List.map_congr_left (fun k hk => h k (List.mem_range.1 hk))
theorem rowF_zero (N : Nat) : rowF (fun _ => 0) N = List.replicate N 0 := by
  apply List.ext_getElem?
  intro i
  by_cases h : i < N
  · rw [rowF_get h, List.getElem?_replicate, if_pos h]
  · rw [List.getElem?_eq_none (by rw [rowF_len]; omega), List.getElem?_eq_none (by simp; omega)]
theorem rowF_set {f : Nat → Int} {N k : Nat} {d : Int} (h : k < N) : (rowF f N).set k (f k + d) = rowF (upd1 f k d) N := by
  apply List.ext_getElem?
  intro i
  by_cases hi : i < N
  · rw [rowF_get hi]
    by_cases e : k = i
    · subst e
      rw [List.getElem?_set_self (by rw [rowF_len]; exact h), upd1_same]
    · rw [List.getElem?_set_ne e, rowF_get hi, upd1_ne f d (fun h => e h.symm)]
  · rw [List.getElem?_eq_none (by rw [List.length_set, rowF_len]; omega), List.getElem?_eq_none (by rw [rowF_len]; omega)]
theorem rowsF_len (u : Nat → Nat → Int) (n N : Nat) : (rowsF u n N).length = n := by simp [rowsF]
theorem rowsF_get {u : Nat → Nat → Int} {n N j : Nat} (h : j < n) : (rowsF u n N)[j]? = some (rowF (u j) N) := by simp [rowsF, h]
theorem rowsF_set {u : Nat → Nat → Int} {n N a t : Nat} {d : Int} (ha : a < n) (ht : t < N) : (rowsF u n N).set a ((rowF (u a) N).set t (u a t + d)) = rowsF (upd2 u a t d) n N := by
  apply List.ext_getElem?
  intro i
  by_cases hi : i < n
  · rw [rowsF_get hi]
    by_cases e : a = i
    · subst e
      rw [List.getElem?_set_self (by rw [rowsF_len]; exact ha), rowF_set ht]
      congr 1
      refine rowF_congr (fun k hk => ?_)
      unfold upd1 upd2
      simp
    · rw [List.getElem?_set_ne e, rowsF_get hi]
      congr 1
      refine rowF_congr (fun k hk => ?_)
      rw [upd2_ne u d (fun h => e h.1.symm)]
  · rw [List.getElem?_eq_none (by rw [List.length_set, rowsF_len]; omega), List.getElem?_eq_none (by rw [rowsF_len]; omega)]
theorem rowsF_snoc (u : Nat → Nat → Int) (k N : Nat) : rowsF u (k + 1) N = rowsF u k N ++ [rowF (u k) N] := by simp [rowsF, List.range_succ]
theorem vc_set {α : Type} (l : List α) (o : Nat) (v : α) (h : o < l.length) : l.take o ++ [v] ++ l.drop (o + 1) = l.set o v := by
  rw [List.set_eq_take_append_cons_drop, if_pos h, List.append_assoc]
  rfl
theorem vc_ivset (l : List Int) (o : Nat) (z : Int) : (iv l).set o (.int .i64 z) = iv (l.set o z) := by unfold iv; rw [List.map_set]
theorem row_store {w : World} {B e g c n : Nat} {zs : List Int} (h : w.ownsRow B e 1 (.slice (some ⟨g, 0, none⟩) n c) n (iv zs)) (k : Nat) (hk : k < zs.length) (z : Int) :
    (w.setCell ⟨g, k, none⟩ (.int .i64 z)).ownsRow B e 1 (.slice (some ⟨g, 0, none⟩) n c) n (iv (zs.set k z)) := by
  have h1 := own_setCells [.int .i64 z] k w _ h (by rw [iv_len]; simp; omega)
  simp only [List.length_cons, List.length_nil, Nat.zero_add] at h1
  rw [vc_set _ _ _ (by rw [iv_len]; exact hk), vc_ivset] at h1
  exact h1
/-- a table of counts and a row of sums, both the call's own -/
structure VM (w1 : World) (O B : Nat) (y : Value) (U : List Value) (n N : Nat) (u : Nat → Nat → Int) (o : Nat → Int) (wr : World) : Prop where
  m : OwnM wr B y U (rowsF u n N)
  out : wr.ownsRow O 2 1 (.slice (some ⟨O, 0, none⟩) N N) N (iv (rowF o N))
  lt : O < B
  below : Below O w1 wr
theorem VM.kept {w1 wr w' : World} {O B : Nat} {y : Value} {U : List Value} {n N : Nat} {u : Nat → Nat → Int} {o : Nat → Int} (h : VM w1 O B y U n N u o wr) (hO : O ≤ w1.heap.size) (hb : Below wr.heap.size wr w') : VM w1 O B y U n N u o w' :=
  ⟨h.m.kept hb, own_below h.out hb (Nat.le_refl _), h.lt, h.below.trans (hb.mono (by
    have := h.below.size
    omega))⟩
theorem VM.row {w1 wr : World} {O B : Nat} {y : Value} {U : List Value} {n N : Nat} {u : Nat → Nat → Int} {o : Nat → Int} (h : VM w1 O B y U n N u o wr) (hN : 0 < N) {a : Nat} (ha : a < n) :
    ∃ ga ca, U[a]? = some (.slice (some ⟨ga, 0, none⟩) N ca) ∧ B ≤ ga ∧ ga < wr.heap.size ∧ (∀ t, t < N → wr.cell? ⟨ga, t, none⟩ = some (.int .i64 (u a t))) ∧ (∀ t, wr.frozen? ⟨ga, t, none⟩ = false) ∧
      ∀ t d, t < N → VM w1 O B y U n N (upd2 u a t d) o (wr.setCell ⟨ga, t, none⟩ (.int .i64 (u a t + d))) := by
  have hl : U.length = n := by rw [h.m.len, rowsF_len]
  have hau : a < U.length := by omega
  have hr := h.m.rows.row a _ _ (List.getElem?_eq_getElem hau) (rowsF_get ha)
  have hr' := hr
  unfold OwnsI at hr
  rw [rowF_len] at hr
  obtain ⟨A, c, hs⟩ := own_slice hr
  rw [hs] at hr hr'
  obtain ⟨ga, hA, hg1, hg2⟩ := own_addr hr hN
  subst hA
  refine ⟨ga, c, by rw [List.getElem?_eq_getElem hau, hs], hg1, hg2, fun t ht => ?_, fun t => hr.frozenAt _, fun t d ht => ?_⟩
  · rw [hr.cellAt t (by omega)]
    unfold iv
    rw [List.getElem?_map, rowF_get ht]
    rfl
  · have hst := row_store hr t (by rw [rowF_len]; exact ht) (u a t + d)
    have hg : wr.grownBy (wr.setCell ⟨ga, t, none⟩ (.int .i64 (u a t + d))) (U[a]).ownBlock := by
      rw [hs]
      exact grownBy_set wr ⟨ga, t, none⟩ _
    have hne : y.ownBlock = none ∨ y.ownBlock ≠ (U[a]).ownBlock := by
      rcases h.m.ne _ (List.getElem_mem hau) with h1 | h1
      · rw [hs] at h1; simp [Value.ownBlock] at h1
      · exact .inr (fun e => h1 e.symm)
    refine ⟨⟨World.ownsRow.kept h.m.outer hg hne, ?_⟩, ?_, h.lt, h.below.setCell (by have := h.lt; show O ≤ ga; omega) _⟩
    · have := h.m.rows.mark (List.getElem?_eq_getElem hau) hg (zs := (rowF (u a) N).set t (u a t + d)) (by
        unfold OwnsI
        rw [List.length_set, rowF_len, hs]
        exact hst)
      rw [rowsF_set ha ht] at this
      exact this
    · exact World.ownsRow.kept h.out hg (.inr (by rw [hs]; simp [Value.ownBlock]; have := h.lt; omega))
theorem VM.sum {w1 wr : World} {O B : Nat} {y : Value} {U : List Value} {n N : Nat} {u : Nat → Nat → Int} {o : Nat → Int} (h : VM w1 O B y U n N u o wr) :
    (∀ t, t < N → wr.cell? ⟨O, t, none⟩ = some (.int .i64 (o t))) ∧ (∀ t, wr.frozen? ⟨O, t, none⟩ = false) ∧
      ∀ t d, t < N → VM w1 O B y U n N u (upd1 o t d) (wr.setCell ⟨O, t, none⟩ (.int .i64 (o t + d))) := by
  refine ⟨fun t ht => ?_, fun t => h.out.frozenAt _, fun t d ht => ?_⟩
  · rw [h.out.cellAt t (by omega)]
    unfold iv
    rw [List.getElem?_map, rowF_get ht]
    rfl
  · have hst := row_store h.out t (by rw [rowF_len]; exact ht) (o t + d)
    rw [rowF_set ht] at hst
    exact ⟨⟨own_setLow h.m.outer _ _ h.lt, h.m.rows.len, fun j u zs a b => own_setLow (h.m.rows.row j u zs a b) _ _ h.lt, h.m.rows.ne⟩, hst, h.lt, h.below.setCell (Nat.le_refl _) _⟩
theorem VM.outer {w1 wr : World} {O B : Nat} {y : Value} {U : List Value} {n N : Nat} {u : Nat → Nat → Int} {o : Nat → Int} (h : VM w1 O B y U n N u o wr) (hn : 0 < n) :
    ∃ gy cy, y = .slice (some ⟨gy, 0, none⟩) n cy ∧ B ≤ gy ∧ gy < wr.heap.size ∧ ∀ j v, U[j]? = some v → wr.cell? ⟨gy, j, none⟩ = some v := by
  have hl : U.length = n := by rw [h.m.len, rowsF_len]
  rcases h.m.shape with ⟨_, h0⟩ | ⟨g, c, hv, hg1, hg2⟩
  · rw [h0] at hl; simp at hl; omega
  · refine ⟨g, c, by rw [hv, hl], hg1, hg2, fun j v hj => ?_⟩
    have ho := h.m.outer
    rw [hv] at ho
    have := ho.cellAt j (by have := (List.getElem?_eq_some_iff.1 hj).1; omega)
    rw [this, hj]
theorem vcL_zero {nx : List (List Int)} {gs : List Rl} {N go : Nat} (h : gs.length = 0) : rowF (fun _ => 0) N = vcL nx gs N go := by
  unfold vcL
  refine rowF_congr (fun k hk => ?_)
  unfold allV
  rw [if_pos h]
theorem vcL_done {nx : List (List Int)} {gs : List Rl} {N go : Nat} {u : Nat → Nat → Int} {o : Nat → Int} (h : VcI nx gs N go 0 N u o) (h0 : 0 < gs.length) (hfit : fits gs = true) (hN : N ≤ 24) (hm : ∀ k t, k < gs.length → t < N → 0 ≤ at2 (mapsK nx gs gs.length) k t) : rowF o N = vcL nx gs N go := by
  unfold vcL
  refine rowF_congr (fun k hk => ?_)
  unfold allV
  rw [if_neg (by omega), Int.toNat_natCast]
  exact VcI.count h hfit hN hm hk
end Go.Proofs.Ytaffachjopjbgaa
namespace Go.Proofs.Ytaffachjopjbgaa
open Go.RowKit
open Wd
set_option linter.unusedVariables false
/-- the first visits of all rules, as wide as there are states -/
def firN (wa : Int → Bool) (nx : List (List Int)) (gs : List Rl) (N k : Nat) : List (List Int) := (firK wa nx gs k).map (·.take N)
theorem firN_len (wa : Int → Bool) (nx : List (List Int)) (gs : List Rl) (N k : Nat) : (firN wa nx gs N k).length = k := by unfold firN; rw [List.length_map, firK_len]
theorem firR_len (wa : Int → Bool) (ln : List Int) (ms vs : List (List Int)) (x : Rl) (m : List Int) : (firR wa ln ms vs x m).length = 24 := by simp [firR]
theorem firK_row (wa : Int → Bool) (nx : List (List Int)) (gs : List Rl) : ∀ k j, j < k → ((firK wa nx gs k).getD j []).length = 24
  | 0, j, h => by omega
  | k + 1, j, h => by
    by_cases e : j = k
    · rw [firK, getD_snoc_eq _ _ _ _ (by rw [firK_len]; exact e), firR_len]
    · rw [firK, getD_snoc_lt _ _ _ _ (by rw [firK_len]; omega)]
      exact firK_row wa nx gs k j (by omega)
theorem firN_get {wa : Int → Bool} {nx : List (List Int)} {gs : List Rl} {N k j s : Nat} (h : j < k) (hs : s < N) (hN : N ≤ 24) : ∃ h1 : j < (firN wa nx gs N k).length, ∃ h2 : s < (firN wa nx gs N k)[j].length, (firN wa nx gs N k)[j].length = N ∧ (firN wa nx gs N k)[j][s] = at2 (firK wa nx gs k) j s := by
  have hj : j < (firK wa nx gs k).length := by rw [firK_len]; exact h
  have hr := firK_row wa nx gs k j h
  have he : (firK wa nx gs k).getD j [] = (firK wa nx gs k)[j] := by rw [List.getD_eq_getElem?_getD, List.getElem?_eq_getElem hj]; rfl
  rw [he] at hr
  have hl : ((firK wa nx gs k)[j].take N).length = N := by rw [List.length_take, hr]; omega
  refine ⟨by rw [firN_len]; exact h, by unfold firN; rw [List.getElem_map, hl]; exact hs, by unfold firN; rw [List.getElem_map, hl], ?_⟩
  unfold at2
  rw [he, List.getD_eq_getElem?_getD, List.getElem?_eq_getElem (by omega), Option.getD_some]
  simp only [firN, List.getElem_map, List.getElem_take]
theorem mapsN_at {nx : List (List Int)} {gs : List Rl} {N k j s : Nat} (h : j < k) (hs : s < N) (hr : ((mapsK nx gs k).getD j []).length = 24) (hN : N ≤ 24) : ∃ h1 : j < (mapsN nx gs N k).length, ∃ h2 : s < (mapsN nx gs N k)[j].length, (mapsN nx gs N k)[j].length = N ∧ (mapsN nx gs N k)[j][s] = at2 (mapsK nx gs k) j s := by
  have hj : j < (mapsK nx gs k).length := by rw [mapsK_len]; exact h
  have he : (mapsK nx gs k).getD j [] = (mapsK nx gs k)[j] := by rw [List.getD_eq_getElem?_getD, List.getElem?_eq_getElem hj]; rfl
  rw [he] at hr
  have hl : ((mapsK nx gs k)[j].take N).length = N := by rw [List.length_take, hr]; omega
  refine ⟨by rw [mapsN_len]; exact h, by unfold mapsN; rw [List.getElem_map, hl]; exact hs, by unfold mapsN; rw [List.getElem_map, hl], ?_⟩
  unfold at2
  rw [he, List.getD_eq_getElem?_getD, List.getElem?_eq_getElem (by omega), Option.getD_some]
  simp only [mapsN, List.getElem_map, List.getElem_take]
/-- the cells of a table's entry -/
theorem ll_get {w : World} {v : Value} {Z : List (List Int)} (h : IsLL w v Z) {j s : Nat} (hj : j < Z.length) (hs : s < Z[j].length) : ∃ a x c c2, v = .slice (some a) Z.length c ∧ w.cell? (a.add j) = some (.slice (some x) Z[j].length c2) ∧ w.cell? (x.add s) = some (.int .i64 Z[j][s]) := by
  obtain ⟨A, c, rfl, h0 | ⟨a, rfl, hc⟩⟩ := h
  · rw [h0] at hj; simp at hj
  · obtain ⟨u, h1, h2⟩ := hc j hj
    obtain ⟨A2, c2, rfl, h0 | ⟨x, rfl, hx⟩⟩ := h2
    · rw [h0] at hs; simp at hs
    · exact ⟨a, x, c, c2, rfl, h1, hx s hs⟩
/-- between two states of a rule: besides, the copy of the rule -/
def FvIn (w : World) (y : Value) (U : List Value) (Z : List (List Int)) (B : Nat) (row : List Int) (Kp : Nat) (x : Rl) (s : Nat) (tv : Value) (wr : World) : Prop :=
  InS w y U Z B row s tv wr ∧ wr.heap[Kp]? = some (.cells #[.string x.L, .int .i64 x.l, .int .i64 x.r] 127 (0, 0))
theorem FvIn.drewN {w wr : World} {y tv : Value} {U : List Value} {Z : List (List Int)} {B Kp s : Nat} {row : List Int} {x : Rl} (h : FvIn w y U Z B row Kp x s tv wr) (m : Nat) : FvIn w y U Z B row Kp x s tv (wr.drewN m) :=
  ⟨h.1.kept (below_drewN (Below.refl _ _) m), h.2⟩
theorem FvIn.append {w wr w5 : World} {y tv tv' : Value} {U : List Value} {Z : List (List Int)} {B Kp s : Nat} {row : List Int} {x : Rl} {o : Obj} {z : Int} (h : FvIn w y U Z B row Kp x s tv wr) (hwB : w.heap.size ≤ B)
    (hU : ∀ u ∈ U, ∀ q, u.ownBlock = some q → q < B) (hy : ∀ q, y.ownBlock = some q → q < B) (hs : s < row.length) (hK : B = Kp + 1) (hz : row[s] = z)
    (hown : w5.ownsRow B 2 1 tv' (s + 1) (iv (row.take s) ++ [.int .i64 z])) (hg : (wr.alloc o).grownBy w5 tv.ownBlock) : FvIn w y U Z B row Kp x (s + 1) tv' w5 := by
  subst hz
  have hlt : Kp < wr.heap.size := by have := h.1.2.2.2; omega
  refine ⟨InS.append h.1 hwB hU hy hs hown hg, ?_⟩
  rw [hg.block Kp (by simp; omega) (fun e => by have := (h.1.2.1.lt Kp e.symm).1; omega), ((Below.refl _ wr).alloc (Nat.le_refl _) o).block Kp hlt]
  exact h.2
theorem rule3_cells {w : World} {R : Nat} {t : TypeId} {a b c : Value} (h : w.heap[R]? = some (.cells #[a, b, c] t (0, 0))) :
    w.cell? ⟨R, 0, none⟩ = some a ∧ w.cell? ⟨R, 1, none⟩ = some b ∧ w.cell? ⟨R, 2, none⟩ = some c := by
  have key : ∀ o, w.cell? ⟨R, o, none⟩ = (#[a, b, c] : Array Value)[o]? := fun o => by simp [World.cell?, h]
  exact ⟨by rw [key]; rfl, by rw [key]; rfl, by rw [key]; rfl⟩
set_option maxRecDepth 100000 in
set_option maxHeartbeats 12800000 in
theorem l04First_any (nv : Value) (nx : List (List Int)) (st t : Int) (pg lo : Nat) (lv : Value) (gs : List Rl) (w : World) (h1 : 1 ≤ st) (h24 : st ≤ 24) (hrow : nx.all (rowOk st) = true) (hlen : (nx.length : Int) = st) (hN : IsLL w nv nx) (hok : gOk gs = true) (hg : GP w pg gs) (hl : OwnsI w lo lv (lens gs)) :
    Calls Try.prog 82 #[nv, .pointer (some ⟨pg, 0, none⟩), lv, .int .i64 t] w fun e w' => ∃ y, e = .returned y ∧ IsLL w' y (firN (fun q => decide (q = t)) nx gs nx.length gs.length) ∧ Below w.heap.size w w' := by
  obtain ⟨i0, hi, hz0, hz1, hz2⟩ := info_parts Try.info_ints
  obtain ⟨j0, hj, hy0, hy1, hy2⟩ := info_parts Try.info_int64
  have hfit := (gOk_iff.1 hok).2.1
  have hn := gOk_len hok
  have HMA := Lib.hid (l04Maps_any nv nx st pg gs w h1 h24 hrow hlen hN hfit hn hg)
  have HGP := Lib.hid hg
  have HLV := Lib.hid (IsL.of_own hl)
  have HSM := Lib.hid (fun j (hj : j < gs.length) => small_at (gOk_iff.1 hok).2.2 j hj)
  obtain ⟨gv, hgv, Av, cv, rfl, hrc⟩ := hg
  obtain ⟨A, c, rfl, _⟩ := hN
  obtain ⟨Al, cl, rfl⟩ := own_slice hl
  have HRC := Lib.hid hrc
  have HGV := Lib.hid hgv
  have HROW := Lib.hid hrow
  have HLEN := Lib.hid hlen
  have HFIT := Lib.hid hfit
  obtain ⟨N, hNe⟩ : ∃ N, N = nx.length := ⟨_, rfl⟩
  obtain ⟨n, hne⟩ : ∃ n, n = gs.length := ⟨_, rfl⟩
  have hNst : (N : Int) = st := by omega
  have hN24 : N ≤ 24 := by omega
  rw [← hNe, ← hne] at HMA ⊢
  rw [← hne] at hn hgv
  rw [lens_len, ← hne] at HLV ⊢
  have HN := Lib.hid hNe
  have HNE := Lib.hid hne
  have HNST := Lib.hid hNst
  obtain ⟨wa, hwa⟩ : ∃ wa : Int → Bool, wa = fun q => decide (q = t) := ⟨_, rfl⟩
  rw [← hwa]
  have HWA := Lib.hid hwa
  clear hrc hrow hlen hfit hNe hne hNst hok hl hwa
  go_enter Try.func82, Try.ntmps82
  go_wp2_with fail
  refine HMA.out.mono ?_
  rintro e w1 ⟨ym, Um, rfl, hm1, hB1⟩
  have HB1 := Lib.hid hB1
  have HM1 := Lib.hid hm1.isLL
  have HGV1 := Lib.hid ((hB1.cell (lt_of_cell hgv)).trans hgv)
  obtain ⟨Am, cm, hym⟩ := own_slice hm1.outer
  rw [hm1.len, mapsN_len] at hym
  subst hym
  have HS := Lib.hid (MSt.start w1 _ rfl)
  clear hB1 hm1 HMA
  go_wp2_with fail
  go_loopw [10, 11] (fun y i wr => ∃ k : Nat, k ≤ n ∧ i = .int .i64 k ∧ MSt w1 (firN wa nx gs N k) y wr) (fun _ i _ => n - (intOf i).toNat)
  case atStart => exact ⟨0, Nat.zero_le _, rfl, HS.out⟩
  case round =>
    obtain ⟨k, hk, rfl, hst⟩ := hrel
    obtain ⟨wo, rfl⟩ : ∃ wo : World, wo = wr := ⟨_, rfl⟩
    obtain ⟨U, hm, hB⟩ := hst
    have HM := Lib.hid (And.intro hm hB)
    have hlenU := hm.len
    rw [firN_len] at hlenU
    obtain ⟨Ay, cy, hAy⟩ := own_slice hm.outer
    rw [hlenU] at hAy
    subst hAy
    have HLU := Lib.hid hlenU
    have hgo := (hB.cell (lt_of_cell HGV1.out)).trans HGV1.out
    clear hgv hlenU
    by_cases hkn : k < n
    · have hkg : k < gs.length := by rw [← HNE.out]; exact hkn
      rcases HRC.out with hn0 | ⟨g, rfl, hg, hc⟩
      · rw [hn0] at hkg; simp at hkg
      obtain ⟨a0, a1, a2⟩ := rules_cells hc hkg
      have hBw := HB1.out.trans (hB.mono HB1.out.size)
      rw [← hBw.cell (p := ⟨g, k * 3, none⟩) hg] at a0
      rw [← hBw.cell (p := ⟨g, k * 3 + 1, none⟩) hg] at a1
      rw [← hBw.cell (p := ⟨g, k * 3 + 2, none⟩) hg] at a2
      obtain ⟨row, hrw⟩ : ∃ row, row = firR wa (lens gs) (mapsK nx gs k) (firK wa nx gs k) gs[k] ((mapsK nx gs (k + 1)).getD k []) := ⟨_, rfl⟩
      have hnx : firN wa nx gs N (k + 1) = firN wa nx gs N k ++ [row.take N] := by
        unfold firN
        rw [firK, List.map_append, List.getD_eq_getElem?_getD (l := gs), List.getElem?_eq_getElem hkg, hrw]
        rfl
      have hr24 : row.length = 24 := by rw [hrw, firR_len]
      have hrow : ∀ q (hq : q < 24), row[q]'(by omega) = at2 (firK wa nx gs (k + 1)) k q := fun q hq => by
        unfold at2
        rw [firK, getD_snoc_eq _ _ _ _ (firK_len wa nx gs k).symm, List.getD_eq_getElem?_getD (l := gs), List.getElem?_eq_getElem hkg, Option.getD_some, ← hrw, List.getD_eq_getElem?_getD, List.getElem?_eq_getElem (by omega)]
        rfl
      have HNX := Lib.hid hnx
      have HROWV := Lib.hid hrow
      generalize hx : gs[k] = x at *
      have hx' : gs[k] = x := hx
      have HXE := Lib.hid hx'
      have hfk := fits_at HFIT.out k hkg
      rw [hx'] at hfk
      have HFK := Lib.hid hfk
      obtain ⟨L, l, r⟩ := x
      simp only at a0 a1 a2
      have hbk := (Below.refl _ wo).alloc (Nat.le_refl _) (.cells #[.string L, .int .i64 l, .int .i64 r] 127)
      have hKn := heap_alloc_new wo (.cells #[.string L, .int .i64 l, .int .i64 r] 127)
      have hB' : (wo.alloc (.cells #[.string L, .int .i64 l, .int .i64 r] 127)).heap.size = wo.heap.size + 1 := by simp
      obtain ⟨wk, hwk⟩ : ∃ wk, wk = wo.alloc (.cells #[.string L, .int .i64 l, .int .i64 r] 127) := ⟨_, rfl⟩
      have HWK := Lib.hid hwk
      rw [← hwk] at hbk hKn hB'
      have HSTB : Hid (FvIn w1 (.slice Ay k cy) U (firN wa nx gs N k) wk.heap.size row wo.heap.size ⟨L, l, r⟩ 0 (.slice (some ⟨wk.heap.size, 0, none⟩) 0 0) (wk.alloc (.cells #[] 2))) := Lib.hid
        ⟨⟨(hm.kept hbk).kept ((Below.refl _ wk).alloc (Nat.le_refl _) _), World.ownsRow_lit (base := wk.heap.size) (e := 2) (size := 1) wk #[] 0 (Nat.le_refl _) (by decide) rfl, (hB.trans (hbk.mono hB.size)).alloc (Nat.le_trans hB.size hbk.size) _, by simp⟩, by
          rw [((Below.refl _ wk).alloc (Nat.le_refl _) (.cells #[] 2)).block wo.heap.size (by omega)]
          exact hKn⟩
      have HUB := Lib.hid (fun (u : Value) hu q (hq : u.ownBlock = some q) => show q < wk.heap.size from by have := (hm.rows.ge u hu q hq).2; omega)
      have HYB := Lib.hid (fun q (hq : (Value.slice Ay k cy).ownBlock = some q) => show q < wk.heap.size from by have := (hm.outer.lt q hq).2; omega)
      have HWB : Hid (w1.heap.size ≤ wk.heap.size) := Lib.hid (Nat.le_trans hB.size hbk.size)
      obtain ⟨B, hBe⟩ : ∃ B, B = wk.heap.size := ⟨_, rfl⟩
      obtain ⟨Kp, hKp⟩ : ∃ Kp, Kp = wo.heap.size := ⟨_, rfl⟩
      rw [← hBe, ← hKp] at HSTB
      rw [← hBe] at HUB HYB HWB hB'
      rw [← hKp] at hB'
      have HKB := Lib.hid hB'
      clear hm hB hbk hKn hc hBw hrow hfk hx hx' hnx hrw
      go_wp2_with fail
      rw [hwk] at HSTB
      rw [← hKp]
      rw [← hB']
      clear hBe hgo a0 a1 a2 hwk hB' hKp
      go_loopw [13, 14] (fun tv i wr => ∃ s : Nat, s ≤ N ∧ i = .int .i64 s ∧ FvIn w1 (.slice Ay k cy) U (firN wa nx gs N k) B row Kp ⟨L, l, r⟩ s tv wr) (fun _ i _ => N - (intOf i).toNat)
      case atStart => exact ⟨0, Nat.zero_le _, rfl, HSTB.out⟩
      case round =>
        obtain ⟨s, hs, rfl, hst⟩ := hrel
        obtain ⟨wu, rfl⟩ : ∃ wu : World, wu = wr := ⟨_, rfl⟩
        obtain ⟨A3, c3, hA3⟩ := own_slice hst.1.2.1
        by_cases hsN : s < N
        · rw [List.length_take, Nat.min_eq_left (by omega)] at hA3
          subst hA3
          have hs24 : s < 24 := by omega
          obtain ⟨kc0, kc1, kc2⟩ := rule3_cells hst.2
          have hBu := hst.1.2.2.1
          have HMu := HM1.out.kept hBu
          have HFu := hst.1.1.isLL
          have HLu := HLV.out.kept (HB1.out.trans (hBu.mono HB1.out.size))
          have hBB : B ≤ wu.heap.size := hst.1.2.2.2
          have HO : Hid (wu.ownsRow B 2 1 (.slice A3 s c3) s (iv (row.take s))) := Lib.hid (by
            have := hst.1.2.1
            unfold OwnsI at this
            rw [List.length_take, Nat.min_eq_left (by omega)] at this
            exact this)
          have HST := Lib.hid hst
          have hzr : row[s]'(by omega) = at2 (firK wa nx gs gs.length) k s := by rw [HROWV.out s hs24, ← firK_at wa nx gs k s gs.length hkg]
          have hmr := (mapsK_ok HROW.out HLEN.out h1 h24 HFIT.out n (by rw [← HNE.out]; omega) k hkn).1
          have k0 : (0 : Int) ≤ (k : Int) := by omega
          have k1 : (k : Int) < (n : Int) := by omega
          have s0 : (0 : Int) ≤ (s : Int) := by omega
          have s1 : (s : Int) < (N : Int) := by omega
          clear hst hBu
          by_cases h0 : L.size = 0
          · have hp := (ok_pair h0).1 HFK.out
            have he := empty_arr h0
            simp only at hp he
            have hxe := HXE.out
            clear h0
            subst he
            obtain ⟨a, rfl⟩ : ∃ a : Nat, l = a := ⟨l.toNat, by omega⟩
            obtain ⟨b, rfl⟩ : ∃ b : Nat, r = b := ⟨r.toNat, by omega⟩
            have ha : a < k := by omega
            have hb : b < k := by omega
            have hfp := fir_pair wa nx hkg (by rw [hxe]; rfl) (show gs[k].l = (a : Int) by rw [hxe]) (show gs[k].r = (b : Int) by rw [hxe]) ha hb hs24
            rw [hfp] at hzr
            have hma := (mapsK_ok HROW.out HLEN.out h1 h24 HFIT.out gs.length (Nat.le_refl _) a (by omega))
            have hqb := map_lt HROW.out HLEN.out h1 h24 HFIT.out (k := a) (s := s) (by omega) hs24
            have hq0 : 0 ≤ at2 (mapsK nx gs gs.length) a s ∧ at2 (mapsK nx gs gs.length) a s < (N : Int) := by
              unfold at2
              rw [List.getD_eq_getElem?_getD (i := s), List.getElem?_eq_getElem (by rw [hma.1]; omega), Option.getD_some]
              have := hma.2 _ (List.getElem_mem (show s < ((mapsK nx gs gs.length).getD a []).length by rw [hma.1]; omega))
              have := HNST.out
              omega
            have bda := fir_bd wa HROW.out HLEN.out h1 h24 HFIT.out (a + 1) a s (by omega) (by omega) hs24
            have bdb := fir_bd wa HROW.out HLEN.out h1 h24 HFIT.out (b + 1) b (at2 (mapsK nx gs gs.length) a s).toNat (by omega) (by omega) hqb
            have la := HSM.out a (by omega)
            have lb := HSM.out b (by omega)
            have lp := lens_pos (gs := gs) (k := a) (by omega) (fun j hj _ => fits_at HFIT.out j hj)
            obtain ⟨q, hq⟩ : ∃ q : Nat, at2 (mapsK nx gs gs.length) a s = q := ⟨(at2 (mapsK nx gs gs.length) a s).toNat, by omega⟩
            rw [hq, Int.toNat_natCast] at hzr bdb
            have hqN : q < N := by omega
            obtain ⟨m1, m2, m3, m4⟩ := mapsN_at (nx := nx) (gs := gs) (N := N) (k := n) (j := a) (s := s) (by omega) hsN (mapsK_ok HROW.out HLEN.out h1 h24 HFIT.out n (by rw [← HNE.out]; omega) a (by omega)).1 hN24
            replace m4 := m4.trans (mapsK_at nx gs a s (show a < n by omega) (show a < gs.length by omega))
            rw [hq] at m4
            obtain ⟨am, xm, cm1, cm2, hvm, g0, g1⟩ := ll_get HMu m1 m2
            rw [m3] at g0
            rw [m4] at g1
            obtain ⟨o1, o2, o3, o4⟩ := firN_get (wa := wa) (nx := nx) (gs := gs) (N := N) (k := k) (j := a) (s := s) ha hsN hN24
            rw [firK_at wa nx gs a s k ha, ← firK_at wa nx gs a s gs.length (by omega)] at o4
            obtain ⟨ay, xa, cy1, cy2, hvy, e0, e1⟩ := ll_get HFu o1 o2
            rw [o3] at e0
            rw [o4] at e1
            obtain ⟨r1, r2, r3, r4⟩ := firN_get (wa := wa) (nx := nx) (gs := gs) (N := N) (k := k) (j := b) (s := q) hb hqN hN24
            rw [firK_at wa nx gs b q k hb, ← firK_at wa nx gs b q gs.length (by omega)] at r4
            obtain ⟨ay2, xb, cy3, cy4, hvy2, f0, f1⟩ := ll_get HFu r1 r2
            rw [r3] at f0
            rw [r4] at f1
            obtain ⟨Al2, cl2, hvl, hl0 | ⟨xl, hAl, hlc⟩⟩ := HLu
            · have := lens_len gs; rw [hl0] at this; simp at this; omega
            have l0 := hlc a (by rw [lens_len]; omega)
            have hle : (lens gs)[a]'(by rw [lens_len]; omega) = (lens gs).getD a 0 := by rw [List.getD_eq_getElem?_getD, List.getElem?_eq_getElem (by rw [lens_len]; omega)]; rfl
            rw [hle] at l0
            injection hvm with hvm hx1 hx2
            clear hx1 hx2
            injection hvy with hvy hx1 hx2
            clear hx1 hx2
            injection hvy2 with hvy2 hx1 hx2
            clear hx1 hx2
            injection hvl with hvl hx1 hx2
            clear hx1 hx2
            subst hvm
            rw [hvy] at hvy2
            injection hvy2 with hvy2
            subst hvy2
            subst hvy
            rw [hAl] at hvl
            subst hvl
            generalize at2 (firK wa nx gs gs.length) a s = p at *
            generalize at2 (firK wa nx gs gs.length) b q = m at *
            generalize (lens gs).getD a 0 = la' at *
            generalize (lens gs).getD b 0 = lb' at *
            have a0' : (0 : Int) ≤ (a : Int) := by omega
            have a1' : (a : Int) < (k : Int) := by omega
            have a2' : (a : Int) < (n : Int) := by omega
            have b0' : (0 : Int) ≤ (b : Int) := by omega
            have b1' : (b : Int) < (k : Int) := by omega
            have q0' : (0 : Int) ≤ (q : Int) := by omega
            have q1' : (q : Int) < (N : Int) := by omega
            have hws : IntKind.i64.wrap (la' + m) = la' + m := IntWalk.i64_in _ (by omega)
            have HLL := Lib.hid l0
            clear hp hxe hfp hma hqb hq0 hq m1 m2 m3 m4 o1 o2 o3 o4 r1 r2 r3 r4 hle hlc HMu HFu hmr lp bda la lb
            go_upto_region 16 with fail
            go_quiet ((fail))
            have HST := Lib.hid (FvIn.drewN HST.out nq)
            have HO : Hid ((wu.drewN nq).ownsRow B 2 1 (.slice A3 s c3) s (iv (row.take s))) := Lib.hid HO.out
            have kc1 : (wu.drewN nq).cell? ⟨Kp, 1, none⟩ = some (.int .i64 (a : Int)) := kc1
            have l0 : (wu.drewN nq).cell? (xl.add a) = some (.int .i64 la') := HLL.out
            have hBB : B ≤ (wu.drewN nq).heap.size := hBB
            clear kc0 kc2 g0 g1 e0 e1 f0 f1 HLL
            generalize wu.drewN nq = wv at *
            by_cases hp0 : p < 0
            · have hd1 : decide (p < 0) = true := decide_eq_true hp0
              by_cases hm0 : 0 ≤ m
              · have hd2 : decide (0 ≤ m) = true := decide_eq_true hm0
                rw [if_pos ⟨hp0, hm0⟩] at hzr
                have HZ := Lib.hid hzr
                clear hzr hp0 hm0
                go_wp2_with (first | (at_builtin; refine wpList_append_own _ rfl _ _ 22 rfl B 2 j0 (.int .i64 0) 1 8 Try.underlying22 hj hy0 hy1 hy2 rfl (by decide) _ _ _ rfl (World.ownsRow.alloc HO.out _) ⟨wv.heap.size, 0, none⟩ 1 1 [.int .i64 (la' + m)] rfl rfl (one_new _ _ _) (one_int _ _) (by unfold maxLen; omega) (by omega) (by simp; omega) ?_))
                intro v' w5 hown' hgr _
                have HN5 := Lib.hid (FvIn.append HST.out HWB.out HUB.out HYB.out (by omega) HKB.out HZ.out hown' hgr)
                clear hown' hgr
                go_wp2_with fail
                go_roundw
                all_goals first | exact ⟨s + 1, by omega, by go_num, HN5.out⟩ | ((repeat apply Exists.intro); exact ⟨⟨s + 1, by omega, by go_num, HN5.out⟩, rfl⟩) | (simp [intOf]; done) | (simp [intOf]; omega) | omega
              · have hd2 : decide (0 ≤ m) = false := decide_eq_false hm0
                rw [if_neg (fun h => hm0 h.2)] at hzr
                have HZ := Lib.hid hzr
                clear hzr hp0 hm0
                go_wp2_with (first | (at_builtin; refine wpList_append_own _ rfl _ _ 22 rfl B 2 j0 (.int .i64 0) 1 8 Try.underlying22 hj hy0 hy1 hy2 rfl (by decide) _ _ _ rfl (World.ownsRow.alloc HO.out _) ⟨wv.heap.size, 0, none⟩ 1 1 [.int .i64 p] rfl rfl (one_new _ _ _) (one_int _ _) (by unfold maxLen; omega) (by omega) (by simp; omega) ?_))
                intro v' w5 hown' hgr _
                have HN5 := Lib.hid (FvIn.append HST.out HWB.out HUB.out HYB.out (by omega) HKB.out HZ.out hown' hgr)
                clear hown' hgr
                go_wp2_with fail
                go_roundw
                all_goals first | exact ⟨s + 1, by omega, by go_num, HN5.out⟩ | ((repeat apply Exists.intro); exact ⟨⟨s + 1, by omega, by go_num, HN5.out⟩, rfl⟩) | (simp [intOf]; done) | (simp [intOf]; omega) | omega
            · have hd1 : decide (p < 0) = false := decide_eq_false hp0
              rw [if_neg (fun h => hp0 h.1)] at hzr
              have HZ := Lib.hid hzr
              clear hzr hp0
              go_wp2_with (first | (at_builtin; refine wpList_append_own _ rfl _ _ 22 rfl B 2 j0 (.int .i64 0) 1 8 Try.underlying22 hj hy0 hy1 hy2 rfl (by decide) _ _ _ rfl (World.ownsRow.alloc HO.out _) ⟨wv.heap.size, 0, none⟩ 1 1 [.int .i64 p] rfl rfl (one_new _ _ _) (one_int _ _) (by unfold maxLen; omega) (by omega) (by simp; omega) ?_))
              intro v' w5 hown' hgr _
              have HN5 := Lib.hid (FvIn.append HST.out HWB.out HUB.out HYB.out (by omega) HKB.out HZ.out hown' hgr)
              clear hown' hgr
              go_wp2_with fail
              go_roundw
              all_goals first | exact ⟨s + 1, by omega, by go_num, HN5.out⟩ | ((repeat apply Exists.intro); exact ⟨⟨s + 1, by omega, by go_num, HN5.out⟩, rfl⟩) | (simp [intOf]; done) | (simp [intOf]; omega) | omega
          · obtain ⟨b, hL, _, _, _⟩ := letter_byte h0 HFK.out
            simp only at hL
            have hfl := fir_letter wa nx hkg (show gs[k].L.size ≠ 0 by rw [HXE.out]; exact h0) hs24
            rw [hfl] at hzr
            obtain ⟨m1, m2, m3, m4⟩ := mapsN_at (nx := nx) (gs := gs) (N := N) (k := n) (j := k) (s := s) hkn hsN hmr hN24
            obtain ⟨am, xm, cm1, cm2, hvm, g0, g1⟩ := ll_get HMu m1 m2
            rw [m3] at g0
            rw [m4.trans (mapsK_at nx gs k s hkn hkg)] at g1
            injection hvm with hvm hx1 hx2
            clear hx1 hx2
            subst hvm
            have hne := full_list h0
            rw [hL] at hne
            subst hL
            rw [HWA.out] at hzr
            simp only [decide_eq_true_eq] at hzr
            clear h0 hfl m1 m2 m3 m4 hne
            generalize at2 (mapsK nx gs gs.length) k s = q at *
            clear HMu HFu HLu hmr
            by_cases hqt : q = t
            · have hd1 : (q == t) = true := by simp [hqt]
              rw [if_pos hqt] at hzr
              have HZ := Lib.hid hzr
              subst hqt
              clear hzr
              go_wp2_with (first | (at_builtin; refine wpList_append_own _ rfl _ _ 22 rfl B 2 j0 (.int .i64 0) 1 8 Try.underlying22 hj hy0 hy1 hy2 rfl (by decide) _ _ _ rfl (World.ownsRow.alloc HO.out _) ⟨wu.heap.size, 0, none⟩ 1 1 [.int .i64 1] rfl rfl (one_new _ _ _) (one_int _ _) (by unfold maxLen; omega) (by omega) (by simp; omega) ?_))
              intro v' w5 hown' hgr _
              have HN5 := Lib.hid (FvIn.append HST.out HWB.out HUB.out HYB.out (by omega) HKB.out HZ.out hown' hgr)
              clear hown' hgr
              go_wp2_with fail
              go_roundw
              all_goals first | exact ⟨s + 1, by omega, by go_num, HN5.out⟩ | ((repeat apply Exists.intro); exact ⟨⟨s + 1, by omega, by go_num, HN5.out⟩, rfl⟩) | (simp [intOf]; done) | (simp [intOf]; omega) | omega
            · have hd1 : (q == t) = false := by simp [hqt]
              rw [if_neg hqt] at hzr
              have HZ := Lib.hid hzr
              clear hzr
              go_wp2_with (first | (at_builtin; refine wpList_append_own _ rfl _ _ 22 rfl B 2 j0 (.int .i64 0) 1 8 Try.underlying22 hj hy0 hy1 hy2 rfl (by decide) _ _ _ rfl (World.ownsRow.alloc HO.out _) ⟨wu.heap.size, 0, none⟩ 1 1 [.int .i64 (-1)] rfl rfl (one_new _ _ _) (one_int _ _) (by unfold maxLen; omega) (by omega) (by simp; omega) ?_))
              intro v' w5 hown' hgr _
              have HN5 := Lib.hid (FvIn.append HST.out HWB.out HUB.out HYB.out (by omega) HKB.out HZ.out hown' hgr)
              clear hown' hgr
              go_wp2_with fail
              go_roundw
              all_goals first | exact ⟨s + 1, by omega, by go_num, HN5.out⟩ | ((repeat apply Exists.intro); exact ⟨⟨s + 1, by omega, by go_num, HN5.out⟩, rfl⟩) | (simp [intOf]; done) | (simp [intOf]; omega) | omega
        · obtain rfl : s = N := by omega
          rw [List.length_take, Nat.min_eq_left (by omega)] at hA3
          subst hA3
          have hws : w1.heap.size ≤ wu.heap.size := hst.1.2.2.1.size
          have HIS := Lib.hid hst.1
          have HFR : Hid (∀ q ∈ U, q.ownBlock = none ∨ q.ownBlock ≠ (Value.slice A3 s c3).ownBlock) := Lib.hid (fun q hq => by
            cases e : q.ownBlock with
            | none => exact .inl rfl
            | some g => exact .inr fun e' => by have h1 := HUB.out q hq g e; have h2 := (hst.1.2.1.lt g e'.symm).1; omega)
          have HOU : Hid (∀ o, (wu.alloc o).ownsRow w1.heap.size 22 1 (.slice Ay k cy) k U) := Lib.hid (fun o => by
            have := hst.1.1.outer
            rw [HLU.out] at this
            exact this.alloc o)
          clear hst
          go_wp2_with (first | (at_builtin; refine wpList_append_own _ rfl _ _ 23 rfl w1.heap.size 22 i0 (.slice none 0 0) 1 24 Try.underlying23 hi hz0 hz1 hz2 rfl (by decide) _ _ _ rfl (HOU.out _) ⟨wu.heap.size, 0, none⟩ 1 1 [.slice A3 s c3] rfl rfl (one_new _ _ _) (one_slice _ _ _) (by unfold maxLen; omega) (by omega) (by simp; omega) ?_))
          intro y' w6 hown hg6 _
          have HST6 : Hid (MSt w1 (firN wa nx gs s (k + 1)) y' w6) := Lib.hid (by
            rw [HNX.out]
            refine ⟨U ++ [.slice A3 s c3], HIS.out.1.snoc (own_lower HIS.out.2.1 HWB.out) HFR.out (by rw [HLU.out]; exact hown) hg6, ?_⟩
            exact (HIS.out.2.2.1.alloc hws _).grown hg6 (by simp; omega) (fun q hq => (HIS.out.1.outer.lt q hq).1))
          clear hown hg6
          go_wp2_with fail
          go_roundw
          all_goals first | exact ⟨k + 1, by omega, by go_num, HST6.out⟩ | ((repeat apply Exists.intro); exact ⟨⟨k + 1, by omega, by go_num, HST6.out⟩, rfl⟩) | (simp [intOf]; done) | (simp [intOf]; omega) | omega
    · obtain rfl : k = n := by omega
      have HLL := Lib.hid hm.isLL
      clear hm hB
      go_wp2_with fail
      go_ret
      exact ⟨_, rfl, HLL.out, HB1.out.trans (HM.out.2.mono HB1.out.size)⟩
end Go.Proofs.Ytaffachjopjbgaa
namespace Go.Proofs.Ytaffachjopjbgaa
open Go.RowKit
open Wd
set_option linter.unusedVariables false
/-- behind some rules: nothing is met yet, or what is met -/
def VJ (nx : List (List Int)) (gs : List Rl) (N go n k : Nat) (u : Nat → Nat → Int) (o : Nat → Int) : Prop :=
  (k = n ∧ u = (fun _ _ => 0) ∧ o = (fun _ => 0)) ∨ (k < n ∧ VcI nx gs N go k N u o)
set_option maxRecDepth 100000 in
set_option maxHeartbeats 25600000 in
theorem l04Visits_any (nv : Value) (nx : List (List Int)) (st : Int) (go pg : Nat) (gs : List Rl) (w : World) (h1 : 1 ≤ st) (h24 : st ≤ 24) (hrow : nx.all (rowOk st) = true) (hlen : (nx.length : Int) = st) (hN : IsLL w nv nx) (hok : gOk gs = true) (hg : GP w pg gs) (hgo : go < nx.length) :
    Calls Try.prog 98 #[nv, .pointer (some ⟨pg, 0, none⟩), .int .i64 (go : Int)] w fun e w' => ∃ y, e = .returned y ∧ OwnsI w' w.heap.size y (vcL nx gs nx.length go) ∧ Below w.heap.size w w' := by
  obtain ⟨i0, hi, hz0, hz1, hz2⟩ := info_parts Try.info_ints
  obtain ⟨j0, hj, hy0, hy1, hy2⟩ := info_parts Try.info_int64
  have hfit := (gOk_iff.1 hok).2.1
  have hn := gOk_len hok
  have hsm := fun j (hj : j < gs.length) => small_at (gOk_iff.1 hok).2.2 j hj
  have HMA := Lib.hid (l04Maps_any nv nx st pg gs w h1 h24 hrow hlen hN hfit hn hg)
  obtain ⟨gv, hgv, Av, cv, rfl, hrc⟩ := hg
  obtain ⟨A, c, rfl, _⟩ := hN
  have HRC := Lib.hid hrc
  have HGV := Lib.hid hgv
  have HROW := Lib.hid hrow
  have HLEN := Lib.hid hlen
  have HFIT := Lib.hid hfit
  have HSM := Lib.hid hsm
  have HMAP := Lib.hid (fun k t (hk : k < gs.length) (ht : t < 24) => (show 0 ≤ at2 (mapsK nx gs gs.length) k t ∧ at2 (mapsK nx gs gs.length) k t < st from by
    have hma := mapsK_ok hrow hlen h1 h24 hfit gs.length (Nat.le_refl _) k hk
    unfold at2
    rw [List.getD_eq_getElem?_getD (i := t), List.getElem?_eq_getElem (by rw [hma.1]; omega), Option.getD_some]
    exact hma.2 _ (List.getElem_mem (show t < ((mapsK nx gs gs.length).getD k []).length by rw [hma.1]; omega))))
  obtain ⟨N, hNe⟩ : ∃ N, N = nx.length := ⟨_, rfl⟩
  obtain ⟨n, hne⟩ : ∃ n, n = gs.length := ⟨_, rfl⟩
  have hNst : (N : Int) = st := by omega
  have hN24 : N ≤ 24 := by omega
  have hN0 : 0 < N := by omega
  rw [← hNe, ← hne] at HMA
  rw [← hNe]
  rw [← hne] at hn hgv
  rw [← hNe] at hgo
  have HN := Lib.hid hNe
  have HNE := Lib.hid hne
  have HNST := Lib.hid hNst
  have HGO := Lib.hid hgo
  clear hrc hrow hlen hfit hNe hne hNst hok hsm
  go_enter Try.func98, Try.ntmps98
  go_wp2_with fail
  refine HMA.out.mono ?_
  rintro e w1 ⟨ym, Um, rfl, hm1, hB1⟩
  have HB1 := Lib.hid hB1
  have HM1 := Lib.hid hm1.isLL
  have HGV1 := Lib.hid ((hB1.cell (lt_of_cell hgv)).trans hgv)
  obtain ⟨Am, cm, hym⟩ := own_slice hm1.outer
  rw [hm1.len, mapsN_len] at hym
  subst hym
  clear hB1 hm1 HMA hgv
  go_wp2_with (refine wpList_make_full _ rfl _ _ 22 rfl w1.heap.size 2 j0 (.int .i64 0) 1 Try.underlying22 hj hy0 hy1 .i64 .i64 _ _ N rfl rfl rfl rfl (by rw [hy2]; omega) (by unfold maxLen; omega) (Nat.le_refl _) ?_)
  intro w2 hown hgr
  have hown : w2.ownsRow w1.heap.size 2 1 (.slice (some ⟨w1.heap.size, 0, none⟩) N N) N (iv (rowF (fun _ => 0) N)) := by rw [rowF_zero, ← made_i64, ← Nat.mul_one N]; simpa using hown
  have HOUT := Lib.hid hown
  have HB2 := Lib.hid (below_of_grown hgr)
  have HOL : Hid (w1.heap.size < w2.heap.size) := Lib.hid (hown.lt _ rfl).2
  have HSTB := Lib.hid (MSt.start w2 _ rfl)
  clear hown hgr
  go_wp2_with fail
  go_loopw [9, 10] (fun y i wr => ∃ k : Nat, k ≤ n ∧ i = .int .i64 k ∧ MSt w2 (rowsF (fun _ _ => 0) k N) y wr) (fun _ i _ => n - (intOf i).toNat)
  case atStart => exact ⟨0, Nat.zero_le _, rfl, HSTB.out⟩
  case round =>
    obtain ⟨k, hk, rfl, U, hm, hB⟩ := hrel
    obtain ⟨wo, rfl⟩ : ∃ wo : World, wo = wr := ⟨_, rfl⟩
    have hB12 := HB2.out.trans (hB.mono HB2.out.size)
    have hgo' := (hB12.cell (lt_of_cell HGV1.out)).trans HGV1.out
    have hlU : U.length = k := by rw [hm.len, rowsF_len]
    obtain ⟨Ay, cy, hAy⟩ := own_slice hm.outer
    rw [hlU] at hAy
    subst hAy
    by_cases hkn : k < n
    · have HM := Lib.hid (And.intro hm hB)
      have HLU := Lib.hid hlU
      have HNX : Hid (rowsF (fun _ _ => (0 : Int)) (k + 1) N = rowsF (fun _ _ => 0) k N ++ [rowF (fun _ => 0) N]) := Lib.hid (rowsF_snoc _ _ _)
      have hws : w2.heap.size ≤ wo.heap.size := hB.size
      clear hm hB hlU hB12
      go_wp2_with (first | (refine wpList_make_full _ rfl _ _ 22 rfl wo.heap.size 2 j0 (.int .i64 0) 1 Try.underlying22 hj hy0 hy1 .i64 .i64 _ _ N rfl rfl rfl rfl (by rw [hy2]; omega) (by unfold maxLen; omega) (Nat.le_refl _) ?_))
      intro w5 hown hgr
      have hown : w5.ownsRow wo.heap.size 2 1 (.slice (some ⟨wo.heap.size, 0, none⟩) N N) N (iv (rowF (fun _ => 0) N)) := by rw [rowF_zero, ← made_i64, ← Nat.mul_one N]; simpa using hown
      have HU5 : Hid (OwnsI w5 wo.heap.size (.slice (some ⟨wo.heap.size, 0, none⟩) N N) (rowF (fun _ => 0) N)) := Lib.hid (by unfold OwnsI; rw [rowF_len]; exact hown)
      have HB5 := Lib.hid (below_of_grown hgr)
      have hs5 : wo.heap.size ≤ w5.heap.size := (below_of_grown hgr).size
      have HOU : Hid (∀ o, (w5.alloc o).ownsRow w2.heap.size 22 1 (.slice Ay k cy) k U) := Lib.hid (fun o => by
        have := (HM.out.1.kept HB5.out).outer
        rw [HLU.out] at this
        exact this.alloc o)
      clear hown hgr
      go_wp2_with (first | (at_builtin; refine wpList_append_own _ rfl _ _ 23 rfl w2.heap.size 22 i0 (.slice none 0 0) 1 24 Try.underlying23 hi hz0 hz1 hz2 rfl (by decide) _ _ _ rfl (HOU.out _) ⟨w5.heap.size, 0, none⟩ 1 1 [.slice (some ⟨wo.heap.size, 0, none⟩) N N] rfl rfl (one_new _ _ _) (one_slice _ _ _) (by unfold maxLen; omega) (by omega) (by simp; omega) ?_))
      intro y' w6 hown' hg6 _
      have HST6 : Hid (MSt w2 (rowsF (fun _ _ => 0) (k + 1) N) y' w6) := Lib.hid (by
        rw [HNX.out]
        exact MSt.append HM.out HB5.out HU5.out (by rw [HLU.out]; exact hown') hg6)
      clear hown' hg6
      go_wp2_with fail
      go_roundw
      all_goals first | exact ⟨k + 1, by omega, by go_num, HST6.out⟩ | ((repeat apply Exists.intro); exact ⟨⟨k + 1, by omega, by go_num, HST6.out⟩, rfl⟩) | (simp [intOf]; done) | (simp [intOf]; omega) | omega
    · obtain rfl : k = n := by omega
      have hUB := fun (u : Value) hu q (hq : u.ownBlock = some q) => (hm.rows.ge u hu q hq)
      have HUB := Lib.hid (fun (u : Value) hu q (hq : u.ownBlock = some q) => (hm.rows.ge u hu q hq).2)
      have HYB := Lib.hid (fun q (hq : (Value.slice Ay k cy).ownBlock = some q) => (hm.outer.lt q hq).2)
      have HVM : Hid (VM w1 w1.heap.size w2.heap.size (.slice Ay k cy) U k N (fun _ _ => 0) (fun _ => 0) wo) := Lib.hid ⟨hm, own_below HOUT.out hB (Nat.le_refl _), HOL.out, hB12⟩
      have HVMS := Lib.hid hB12.size
      obtain ⟨BB, hBB⟩ : ∃ BB, BB = wo.heap.size := ⟨_, rfl⟩
      rw [← hBB] at HUB HYB HVMS
      have HBB := Lib.hid hBB
      have HVST : Hid (∃ m : Nat, m ≤ k ∧ (.int .i64 ((k : Int) - 1) : Value) = .int .i64 ((m : Int) - 1) ∧ ∃ u o, VM w1 w1.heap.size w2.heap.size (.slice Ay k cy) U k N u o wo ∧ VJ nx gs N go k m u o ∧ BB ≤ wo.heap.size) := Lib.hid ⟨k, Nat.le_refl _, rfl, _, _, HVM.out, .inl ⟨rfl, rfl, rfl⟩, by omega⟩
      have hwk : IntKind.i64.wrap ((k : Int) - 1) = (k : Int) - 1 := by rw [IntKind.wrap_i64]; omega
      clear hm hB hUB hlU hBB
      go_wp2_with fail
      clear hgo' hB12
      go_loopw [11] (fun v wr => ∃ m : Nat, m ≤ k ∧ v = .int .i64 ((m : Int) - 1) ∧ ∃ u o, VM w1 w1.heap.size w2.heap.size (.slice Ay k cy) U k N u o wr ∧ VJ nx gs N go k m u o ∧ BB ≤ wr.heap.size) (fun v _ => (intOf v + 1).toNat)
      case atStart => exact HVST.out
      case round =>
        obtain ⟨m, hmk, rfl, u, o, hvm, hvj, hbb⟩ := hrel
        obtain ⟨wo, rfl⟩ : ∃ wo : World, wo = wr := ⟨_, rfl⟩
        have HV := Lib.hid hvm
        have hgo' := (hvm.below.cell (lt_of_cell HGV1.out)).trans HGV1.out
        have HBBW := Lib.hid hbb
        by_cases hm0 : 0 < m
        · obtain ⟨j, rfl⟩ : ∃ j, m = j + 1 := ⟨m - 1, by omega⟩
          have hjj : ((j + 1 : Nat) : Int) - 1 = (j : Int) := by omega
          rw [hjj]
          have hjg : j < gs.length := by rw [← HNE.out]; omega
          have hjk : j < k := by omega
          have hk0 : 0 < k := by omega
          have j0' : (0 : Int) ≤ (j : Int) := by omega
          have j1' : (j : Int) < (k : Int) := by omega
          have hwj : IntKind.i64.wrap ((j : Int) - 1) = (j : Int) - 1 := by rw [IntKind.wrap_i64]; omega
          rcases HRC.out with hn0 | ⟨g, rfl, hgl, hc⟩
          · rw [hn0] at hjg; simp at hjg
          obtain ⟨a0, a1, a2⟩ := rules_cells hc hjg
          obtain ⟨gy, cy2, hy, hgy1, hgy2, hgyc⟩ := hvm.outer hk0
          obtain ⟨gj, cj, hUj, hgj1, hgj2, hgjc, hgjf, hgjs⟩ := hvm.row hN0 hjk
          have e0 := hgyc j _ hUj
          injection hy with hy1' hy2' hy3'
          subst hy1' hy3'
          clear hy2'
          have HHG := Lib.hid (fun W (hb : Below w1.heap.size w1 W) => And.intro ((hb.cell (p := ⟨g, j * 3, none⟩) (by have := HB1.out.size; simp only; omega)).trans ((HB1.out.cell (p := ⟨g, j * 3, none⟩) hgl).trans a0)) (And.intro ((hb.cell (p := ⟨g, j * 3 + 1, none⟩) (by have := HB1.out.size; simp only; omega)).trans ((HB1.out.cell (p := ⟨g, j * 3 + 1, none⟩) hgl).trans a1)) ((hb.cell (p := ⟨g, j * 3 + 2, none⟩) (by have := HB1.out.size; simp only; omega)).trans ((HB1.out.cell (p := ⟨g, j * 3 + 2, none⟩) hgl).trans a2))))
          clear hc a0 a1 a2 hvm
          go_upto_if 54 with fail
          go_cut [11] (fun s11 wx => s11 = .int .i64 (j : Int) ∧ ∃ u5 o5, VM w1 w1.heap.size w2.heap.size (.slice (some ⟨gy, 0, none⟩) k cy) U k N u5 o5 wx ∧ VcI nx gs N go j 0 u5 o5 ∧ BB ≤ wx.heap.size)
          case first =>
            by_cases hlast : j + 1 = k
            · have hwk1 : ((j : Int) == (k : Int) - 1) = true := by simp; omega
              obtain ⟨_, hu0, ho0⟩ : j + 1 = k ∧ u = (fun _ _ => 0) ∧ o = (fun _ => 0) := by
                rcases hvj with h | h
                · exact h
                · omega
              have HVC : Hid (VcI nx gs N go j 0 (upd2 u j go 1) o) := Lib.hid (by
                have := VcI.start (nx := nx) (gs := gs) (N := N) (go := go) HGO.out
                rw [show gs.length - 1 = j from by rw [← HNE.out]; omega] at this
                rw [hu0, ho0]
                exact this)
              have e1 := hgjc go HGO.out
              have e2 := hgjf go
              have hw1 : IntKind.i64.wrap (u j go + 1) = u j go + 1 := by rw [hu0]; rfl
              have HVM5 : Hid (VM w1 w1.heap.size w2.heap.size (.slice (some ⟨gy, 0, none⟩) k cy) U k N (upd2 u j go 1) o (wo.setCell ⟨gj, go, none⟩ (.int .i64 (u j go + 1)))) := Lib.hid (hgjs go 1 HGO.out)
              have hbb5 : Hid (BB ≤ (wo.setCell ⟨gj, go, none⟩ (.int .i64 (u j go + 1))).heap.size) := Lib.hid (by simp; exact hbb)
              have g0' : (0 : Int) ≤ (go : Int) := by omega
              have g1' : (go : Int) < (N : Int) := by have := HGO.out; omega
              clear hvj hu0 ho0 hgjs hgjc hgjf hgyc
              generalize u j go = uj at *
              go_wp2_with fail
              go_meet
              first | exact ⟨rfl, _, _, HVM5.out, HVC.out, hbb5.out⟩ | exact ⟨_, _, HVM5.out, HVC.out, hbb5.out⟩
            · have hwk1 : ((j : Int) == (k : Int) - 1) = false := by simp; omega
              have HVC : Hid (VcI nx gs N go j 0 u o) := Lib.hid (by
                rcases hvj with h | h
                · omega
                · exact VcI.down h.2)
              have hbb5 : Hid (BB ≤ wo.heap.size) := Lib.hid hbb
              clear hvj hgjs hgjc hgjf hgyc
              go_wp2_with fail
              go_meet
              first | exact ⟨rfl, _, _, HV.out, HVC.out, hbb5.out⟩ | exact ⟨_, _, HV.out, HVC.out, hbb5.out⟩
          case rest =>
            obtain ⟨rfl, u5, o5, hvm5, hvc5, hbb5⟩ := hcut
            obtain ⟨w5, rfl⟩ : ∃ w5 : World, w5 = wc := ⟨_, rfl⟩
            have HVM5 := Lib.hid hvm5
            have HVC := Lib.hid hvc5
            clear hvm5 hvc5 hvj hgjs hgjc hgjf hgyc e0 hgo' HV HBBW hbb
            obtain ⟨b0, b1, b2⟩ := HHG.out w5 HVM5.out.below
            have hgo5 := (HVM5.out.below.cell (lt_of_cell HGV1.out)).trans HGV1.out
            have HFK := Lib.hid (fits_at HFIT.out j hjg)
            have HXE : Hid (gs.getD j ⟨ByteArray.empty, 0, 0⟩ = gs[j]) := Lib.hid (getD_rl hjg)
            generalize gs[j] = x at *
            obtain ⟨RL, rl, rr⟩ := x
            simp only at b0 b1 b2
            have hbk := (Below.refl _ w5).alloc (Nat.le_refl _) (.cells #[.string RL, .int .i64 rl, .int .i64 rr] 127)
            have HKP : Hid ((w5.alloc (.cells #[.string RL, .int .i64 rl, .int .i64 rr] 127)).heap[w5.heap.size]? = some (.cells #[.string RL, .int .i64 rl, .int .i64 rr] 127 (0, 0))) := Lib.hid (heap_alloc_new w5 (.cells #[.string RL, .int .i64 rl, .int .i64 rr] 127))
            have HV7 := Lib.hid (HVM5.out.kept (Nat.le_refl _) hbk)
            have HK7 : Hid (BB ≤ w5.heap.size) := Lib.hid hbb5
            have HS7 : Hid (BB ≤ (w5.alloc (.cells #[.string RL, .int .i64 rl, .int .i64 rr] 127)).heap.size) := Lib.hid (by simp; omega)
            clear hbk
            obtain ⟨Kp, hKp⟩ : ∃ Kp, Kp = w5.heap.size := ⟨_, rfl⟩
            rw [← hKp] at HKP HK7
            go_wp2_with fail
            rw [← hKp]
            clear b0 b1 b2 hgo5 hKp
            go_loopw [13] (fun v wr => ∃ t : Nat, t ≤ N ∧ v = .int .i64 t ∧ ∃ u o, VM w1 w1.heap.size w2.heap.size (.slice (some ⟨gy, 0, none⟩) k cy) U k N u o wr ∧ VcI nx gs N go j t u o ∧ wr.heap[Kp]? = some (.cells #[.string RL, .int .i64 rl, .int .i64 rr] 127 (0, 0)) ∧ BB ≤ wr.heap.size) (fun v _ => N - (intOf v).toNat)
            case atStart => exact ⟨0, Nat.zero_le _, rfl, _, _, HV7.out, HVC.out, HKP.out, HS7.out⟩
            case round =>
              obtain ⟨t, ht, rfl, u, o, hvm, hvc, hkp, hbb⟩ := hrel
              obtain ⟨wu, rfl⟩ : ∃ wu : World, wu = wr := ⟨_, rfl⟩
              by_cases htN : t < N
              · obtain ⟨gy', cy', hy, hgy1, hgy2, hgyc⟩ := hvm.outer hk0
                obtain ⟨gj, cj, hUj, hgj1, hgj2, hgjc, hgjf, hgjs⟩ := hvm.row hN0 hjk
                have e0 := hgyc j _ hUj
                have e1 := hgjc t htN
                injection hy with hy1' hy2' hy3'
                injection hy1' with hy1'
                injection hy1' with hy1'
                subst hy1' hy3'
                clear hy2'
                obtain ⟨kc0, kc1, kc2⟩ := rule3_cells hkp
                have HBU := Lib.hid hvm.below
                have hMU := HM1.out.kept hvm.below
                have HVU := Lib.hid hvm
                have HKU := Lib.hid hkp
                have HSU := Lib.hid hbb
                have t0 : (0 : Int) ≤ (t : Int) := by omega
                have t1 : (t : Int) < (N : Int) := by omega
                have hKB : ∀ (v : Value) (q : Nat), v ∈ U → v.ownBlock = some q → q ≠ Kp := fun v q hv hq => by have h8 := HUB.out v hv q hq; have h9 := HK7.out; omega
                have hnn := hvc.1 j t
                by_cases h0 : RL.size = 0
                · have hp := (ok_pair h0).1 HFK.out
                  simp only at hp
                  have he := empty_arr h0
                  obtain ⟨a, ha⟩ : ∃ a : Nat, rl = a := ⟨rl.toNat, by omega⟩
                  obtain ⟨b, hb⟩ : ∃ b : Nat, rr = b := ⟨rr.toNat, by omega⟩
                  subst ha hb
                  have haj : a < j := by omega
                  have hbj : b < j := by omega
                  have hqm := HMAP.out a t (by omega) (by omega)
                  obtain ⟨q, hq⟩ : ∃ q : Nat, at2 (mapsK nx gs gs.length) a t = q := ⟨(at2 (mapsK nx gs gs.length) a t).toNat, by omega⟩
                  have hqa : qAt nx gs a t = q := by unfold qAt; rw [hq]; rfl
                  have hqN : q < N := by have := HNST.out; omega
                  have hnext := VcI.pair (a := a) (b := b) hvc hjg htN (by rw [hqa]; exact hqN) (by rw [HXE.out]; exact h0) (by rw [HXE.out]) (by rw [HXE.out]) haj hbj
                  rw [hqa] at hnext
                  by_cases hz : u j t = 0
                  · rw [hz] at e1
                    have hNX : Hid (∃ t' : Nat, t' ≤ N ∧ (.int .i64 ((t : Int) + 1) : Value) = .int .i64 t' ∧ ∃ u o, VM w1 w1.heap.size w2.heap.size (.slice (some ⟨gy, 0, none⟩) k cy) U k N u o wu ∧ VcI nx gs N go j t' u o ∧ wu.heap[Kp]? = some (.cells #[.string RL, .int .i64 (a : Int), .int .i64 (b : Int)] 127 (0, 0)) ∧ BB ≤ wu.heap.size) := Lib.hid ⟨t + 1, by omega, by simp, u, o, hvm, by rw [hz, upd2_zero, upd2_zero] at hnext; exact hnext, hkp, hbb⟩
                    clear hvm hvc hkp hbb hnext hgjs hgjc hgjf hgyc hMU hz hq hqa hqm hp
                    go_wp2_with fail
                    go_roundw
                    all_goals first | exact hNX.out | ((repeat apply Exists.intro); exact ⟨hNX.out, rfl⟩) | (simp [intOf]; done) | (simp [intOf]; omega) | omega
                  · -- the two stores
                    obtain ⟨m1, m2, m3, m4⟩ := mapsN_at (nx := nx) (gs := gs) (N := N) (k := k) (j := a) (s := t) (by omega) htN (mapsK_ok HROW.out HLEN.out h1 h24 HFIT.out k (by rw [← HNE.out]; omega) a (by omega)).1 hN24
                    replace m4 := m4.trans (mapsK_at nx gs a t (show a < k by omega) (show a < gs.length by omega))
                    rw [hq] at m4
                    obtain ⟨am, xm, cm1, cm2, hvm', g0, g1⟩ := ll_get hMU m1 m2
                    rw [m3] at g0
                    rw [m4] at g1
                    injection hvm' with hvm' hx1 hx2
                    clear hx1 hx2
                    subst hvm'
                    have lam : (am.add a).block < w1.heap.size := by
                      obtain ⟨a', x', c1', c2', hv9, g9, g8⟩ := ll_get HM1.out m1 m2
                      injection hv9 with hv9
                      injection hv9 with hv9
                      have h8 : (am.add a).block < w1.heap.size := by rw [hv9]; exact lt_of_cell g9
                      exact h8
                    have lxm : (xm.add t).block < w1.heap.size := by
                      obtain ⟨a', x', c1', c2', hv9, g9, g8⟩ := ll_get HM1.out m1 m2
                      injection hv9 with hv9
                      injection hv9 with hv9
                      subst hv9
                      rw [m3] at g9
                      have h9 := (HBU.out.cell (lt_of_cell g9)).trans g9
                      rw [g0] at h9
                      injection h9 with h9
                      injection h9 with h9
                      injection h9 with h9
                      have h8 : (xm.add t).block < w1.heap.size := by rw [h9]; exact lt_of_cell g8
                      exact h8
                    obtain ⟨ga, ca, hUa, hga1, hga2, hgac, hgaf, hgas⟩ := hvm.row hN0 (show a < k by omega)
                    have f0 := hgyc a _ hUa
                    have f1 := hgac t htN
                    have f2 := hgaf t
                    have hVM1 := hgas t (u j t) htN
                    have hVM1d : VM w1 w1.heap.size w2.heap.size (.slice (some ⟨gy, 0, none⟩) k cy) U k N (upd2 u a t (u j t)) o (wu.setCell ⟨ga, t, none⟩ (.int .i64 (u a t + u j t))).drew := hVM1.kept (Nat.le_refl _) (below_drewN (Below.refl _ _) 1)
                    obtain ⟨gb, cb, hUb, hgb1, hgb2, hgbc, hgbf, hgbs⟩ := hVM1d.row hN0 (show b < k by omega)
                    have hu1 := upd2_ne u (a := a) (t := t) (j := b) (s := q) (u j t)
                    obtain ⟨gy'', cy'', hy, hgy1', hgy2', hgyc'⟩ := hVM1.outer hk0
                    injection hy with hy1' hy2' hy3'
                    injection hy1' with hy1'
                    injection hy1' with hy1'
                    subst hy1' hy3'
                    clear hy2'
                    have bd := VcI.bound hnext HFIT.out hjg htN
                    have bq := VcI.bound hnext HFIT.out hjg hqN
                    have hsm := HSM.out (gs.length - 1) (by omega)
                    have nn1 := hnext.1 a t
                    have nn2 := hnext.1 b q
                    have bd1 := bd.2.1 a haj
                    have bq1 := bq.2.1 b hbj
                    have hua := hvc.1 a t
                    have hub : 0 ≤ upd2 u a t (u j t) b q := by
                      unfold upd2
                      have := hvc.1 b q
                      split <;> omega
                    have le1 : u a t + u j t ≤ upd2 (upd2 u a t (u j t)) b q (u j t) a t := by
                      unfold upd2
                      split <;> (try split) <;> (try simp) <;> omega
                    have le2 : upd2 (upd2 u a t (u j t)) b q (u j t) b q = upd2 u a t (u j t) b q + u j t := upd2_same _ _ _ _
                    have hw1 : IntKind.i64.wrap (u a t + u j t) = u a t + u j t := by rw [IntKind.wrap_i64]; omega
                    have hw2 : IntKind.i64.wrap (upd2 u a t (u j t) b q + u j t) = upd2 u a t (u j t) b q + u j t := by rw [IntKind.wrap_i64]; omega
                    have mU : ∀ {i : Nat} {v : Value}, U[i]? = some v → v ∈ U := fun h => List.mem_of_getElem? h
                    have ka : ga ≠ Kp := hKB _ ga (mU hUa) rfl
                    have kb : gb ≠ Kp := hKB _ gb (mU hUb) rfl
                    have hkp1 : (wu.setCell ⟨ga, t, none⟩ (.int .i64 (u a t + u j t))).heap[Kp]? = some (.cells #[.string RL, .int .i64 (a : Int), .int .i64 (b : Int)] 127 (0, 0)) := (Below.heap_setCell wu ⟨ga, t, none⟩ _ Kp (fun e => ka e.symm)).trans hkp
                    obtain ⟨kd0, kd1, kd2⟩ := rule3_cells hkp1
                    have d0 := hgyc' b _ hUb
                    have d1 : (wu.setCell ⟨ga, t, none⟩ (.int .i64 (u a t + u j t))).cell? ⟨gb, q, none⟩ = some (.int .i64 (upd2 u a t (u j t) b q)) := hgbc q hqN
                    have d2 : (wu.setCell ⟨ga, t, none⟩ (.int .i64 (u a t + u j t))).drew.frozen? ⟨gb, q, none⟩ = false := hgbf q
                    have d5 : (wu.setCell ⟨ga, t, none⟩ (.int .i64 (u a t + u j t))).frozen? ⟨gb, q, none⟩ = false := hgbf q
                    have d3 := (World.cell?_of_block (a := am.add a) (Below.heap_setCell wu ⟨ga, t, none⟩ (.int .i64 (u a t + u j t)) (am.add a).block (show (am.add a).block ≠ ga by have := HOL.out; omega))).trans g0
                    have d4 := (World.cell?_of_block (a := xm.add t) (Below.heap_setCell wu ⟨ga, t, none⟩ (.int .i64 (u a t + u j t)) (xm.add t).block (show (xm.add t).block ≠ ga by have := HOL.out; omega))).trans g1
                    have hVM2 := hgbs q (u j t) hqN
                    have hkp2 : (((wu.setCell ⟨ga, t, none⟩ (.int .i64 (u a t + u j t))).drew).setCell ⟨gb, q, none⟩ (.int .i64 (upd2 u a t (u j t) b q + u j t))).heap[Kp]? = some (.cells #[.string RL, .int .i64 (a : Int), .int .i64 (b : Int)] 127 (0, 0)) := (Below.heap_setCell _ ⟨gb, q, none⟩ _ Kp (fun e => kb e.symm)).trans hkp1
                    have hNX : Hid (∃ t' : Nat, t' ≤ N ∧ (.int .i64 ((t : Int) + 1) : Value) = .int .i64 t' ∧ ∃ u' o', VM w1 w1.heap.size w2.heap.size (.slice (some ⟨gy, 0, none⟩) k cy) U k N u' o' ((((wu.setCell ⟨ga, t, none⟩ (.int .i64 (u a t + u j t))).drew).setCell ⟨gb, q, none⟩ (.int .i64 (upd2 u a t (u j t) b q + u j t)))) ∧ VcI nx gs N go j t' u' o' ∧ ((((wu.setCell ⟨ga, t, none⟩ (.int .i64 (u a t + u j t))).drew).setCell ⟨gb, q, none⟩ (.int .i64 (upd2 u a t (u j t) b q + u j t)))).heap[Kp]? = some (.cells #[.string RL, .int .i64 (a : Int), .int .i64 (b : Int)] 127 (0, 0)) ∧ BB ≤ ((((wu.setCell ⟨ga, t, none⟩ (.int .i64 (u a t + u j t))).drew).setCell ⟨gb, q, none⟩ (.int .i64 (upd2 u a t (u j t) b q + u j t)))).heap.size) := Lib.hid ⟨t + 1, by omega, by simp, _, _, hVM2, hnext, hkp2, by simp; exact hbb⟩
                    have hnz : (u j t == 0) = false := by simp [hz]
                    have a0' : (0 : Int) ≤ (a : Int) := by omega
                    have a1' : (a : Int) < (k : Int) := by omega
                    have b0' : (0 : Int) ≤ (b : Int) := by omega
                    have b1' : (b : Int) < (k : Int) := by omega
                    have q0' : (0 : Int) ≤ (q : Int) := by omega
                    have q1' : (q : Int) < (N : Int) := by omega
                    subst he
                    clear hgyc hgjc hgjf hgjs hgac hgaf hgas hgbc hgbf hgbs hgyc' hVM1 hVM1d hVM2 hnext hvm hvc hkp hkp1 hkp2 hu1 bd bq bd1 bq1 hsm nn1 nn2 hua hub le1 le2 m1 m2 m3 m4 hMU hq hqa hqm hp h0 mU lam lxm hKB hbb hnn hz
                    generalize upd2 u a t (u j t) b q = ub at *
                    generalize u a t = ua at *
                    generalize u j t = uj at *
                    go_wp2_with fail
                    go_upto_region 22 with fail
                    generalize wu.setCell ⟨ga, t, none⟩ (.int .i64 (ua + uj)) = wv at *
                    clear e0 e1 f0 f1 f2 g0 g1 kc0 kc1 kc2 hw1
                    go_still_tail 18, (by kernel_rfl)
                    change wpList _ _ _ _ _ wv.drew
                    go_wp2_with fail
                    go_roundw
                    all_goals first | exact hNX.out | ((repeat apply Exists.intro); exact ⟨hNX.out, rfl⟩) | (simp [intOf]; done) | (simp [intOf]; omega) | omega
                · have hqm := HMAP.out j t hjg (by omega)
                  obtain ⟨q, hq⟩ : ∃ q : Nat, at2 (mapsK nx gs gs.length) j t = q := ⟨(at2 (mapsK nx gs gs.length) j t).toNat, by omega⟩
                  have hqa : qAt nx gs j t = q := by unfold qAt; rw [hq]; rfl
                  have hqN : q < N := by have := HNST.out; omega
                  have hnext := VcI.letter hvc hjg htN (by rw [hqa]; exact hqN) (by rw [HXE.out]; exact h0)
                  rw [hqa] at hnext
                  by_cases hz : u j t = 0
                  · rw [hz] at e1
                    have hNX : Hid (∃ t' : Nat, t' ≤ N ∧ (.int .i64 ((t : Int) + 1) : Value) = .int .i64 t' ∧ ∃ u o, VM w1 w1.heap.size w2.heap.size (.slice (some ⟨gy, 0, none⟩) k cy) U k N u o wu ∧ VcI nx gs N go j t' u o ∧ wu.heap[Kp]? = some (.cells #[.string RL, .int .i64 rl, .int .i64 rr] 127 (0, 0)) ∧ BB ≤ wu.heap.size) := Lib.hid ⟨t + 1, by omega, by simp, u, o, hvm, by rw [hz, upd1_zero] at hnext; exact hnext, hkp, hbb⟩
                    clear hvm hvc hkp hbb hnext hgjs hgjc hgjf hgyc hMU hz hq hqa hqm h0
                    go_wp2_with fail
                    go_roundw
                    all_goals first | exact hNX.out | ((repeat apply Exists.intro); exact ⟨hNX.out, rfl⟩) | (simp [intOf]; done) | (simp [intOf]; omega) | omega
                  · obtain ⟨m1, m2, m3, m4⟩ := mapsN_at (nx := nx) (gs := gs) (N := N) (k := k) (j := j) (s := t) hjk htN (mapsK_ok HROW.out HLEN.out h1 h24 HFIT.out k (by rw [← HNE.out]; omega) j hjk).1 hN24
                    replace m4 := m4.trans (mapsK_at nx gs j t (show j < k by omega) (show j < gs.length by omega))
                    rw [hq] at m4
                    obtain ⟨am, xm, cm1, cm2, hvm', g0, g1⟩ := ll_get hMU m1 m2
                    rw [m3] at g0
                    rw [m4] at g1
                    injection hvm' with hvm' hx1 hx2
                    clear hx1 hx2
                    subst hvm'
                    obtain ⟨hoc, hof, hos⟩ := hvm.sum
                    have f1 := hoc q hqN
                    have f2 := hof q
                    have hVM1 := hos q (u j t) hqN
                    have bq := (VcI.bound hnext HFIT.out hjg hqN).1
                    have hsm := HSM.out (gs.length - 1) (by omega)
                    have hoq := hvc.2.1 q
                    have le1 : upd1 o q (u j t) q = o q + u j t := upd1_same _ _ _
                    have hw1 : IntKind.i64.wrap (o q + u j t) = o q + u j t := by rw [IntKind.wrap_i64]; omega
                    have kO : w1.heap.size ≠ Kp := by have h8 := HK7.out; have h9 := HVMS.out; have h7 := HOL.out; have h6 := hgj1; have h5 := HUB.out _ (List.mem_of_getElem? hUj) gj rfl; omega
                    have hkp1 : (wu.setCell ⟨w1.heap.size, q, none⟩ (.int .i64 (o q + u j t))).heap[Kp]? = some (.cells #[.string RL, .int .i64 rl, .int .i64 rr] 127 (0, 0)) := (Below.heap_setCell wu ⟨w1.heap.size, q, none⟩ _ Kp (fun e => kO e.symm)).trans hkp
                    have hNX : Hid (∃ t' : Nat, t' ≤ N ∧ (.int .i64 ((t : Int) + 1) : Value) = .int .i64 t' ∧ ∃ u' o', VM w1 w1.heap.size w2.heap.size (.slice (some ⟨gy, 0, none⟩) k cy) U k N u' o' (wu.setCell ⟨w1.heap.size, q, none⟩ (.int .i64 (o q + u j t))) ∧ VcI nx gs N go j t' u' o' ∧ (wu.setCell ⟨w1.heap.size, q, none⟩ (.int .i64 (o q + u j t))).heap[Kp]? = some (.cells #[.string RL, .int .i64 rl, .int .i64 rr] 127 (0, 0)) ∧ BB ≤ (wu.setCell ⟨w1.heap.size, q, none⟩ (.int .i64 (o q + u j t))).heap.size) := Lib.hid ⟨t + 1, by omega, by simp, _, _, hVM1, hnext, hkp1, by simp; exact hbb⟩
                    have hnz : (u j t == 0) = false := by simp [hz]
                    have hne' := full_list h0
                    have q0' : (0 : Int) ≤ (q : Int) := by omega
                    have q1' : (q : Int) < (N : Int) := by omega
                    clear hgyc hgjc hgjf hgjs hVM1 hnext hvm hvc hkp hkp1 bq hsm hoq le1 m1 m2 m3 m4 hMU hq hqa hqm h0 hKB hbb hnn hz hoc hof hos
                    generalize o q = oq at *
                    generalize u j t = uj at *
                    go_wp2_with fail
                    go_roundw
                    all_goals first | exact hNX.out | ((repeat apply Exists.intro); exact ⟨hNX.out, rfl⟩) | (simp [intOf]; done) | (simp [intOf]; omega) | omega
              · obtain rfl : t = N := by omega
                have HNXT : Hid (∃ m : Nat, m ≤ k ∧ (.int .i64 ((j : Int) - 1) : Value) = .int .i64 ((m : Int) - 1) ∧ ∃ u o, VM w1 w1.heap.size w2.heap.size (.slice (some ⟨gy, 0, none⟩) k cy) U k t u o wu ∧ VJ nx gs t go k m u o ∧ BB ≤ wu.heap.size) := Lib.hid ⟨j, by omega, rfl, u, o, hvm, .inr ⟨hjk, hvc⟩, hbb⟩
                clear hvm hvc hkp hbb
                go_wp2_with fail
                go_roundw
                all_goals first | exact HNXT.out | ((repeat apply Exists.intro); exact ⟨HNXT.out, rfl⟩) | (simp [intOf]; done) | (simp [intOf]; omega) | omega
        · obtain rfl : m = 0 := by omega
          have HO9 : Hid (OwnsI wo w.heap.size (.slice (some ⟨w1.heap.size, 0, none⟩) N N) (vcL nx gs N go)) := Lib.hid (by
            have h9 := own_lower hvm.out HB1.out.size
            unfold OwnsI
            rcases hvj with ⟨e1, e2, e3⟩ | ⟨e1, e2⟩
            · have hz : gs.length = 0 := by rw [← HNE.out]; omega
              rw [← vcL_zero hz, rowF_len]
              rw [e3] at h9
              exact h9
            · have e3 := vcL_done e2 (by rw [← HNE.out]; omega) HFIT.out hN24 (fun k' t' hk' ht' => (HMAP.out k' t' hk' (by omega)).1)
              rw [← e3, rowF_len]
              exact h9)
          have HB9 := Lib.hid (HB1.out.trans (hvm.below.mono HB1.out.size))
          clear hvm hvj hgo' hbb
          go_wp2_with fail
          go_ret
          exact ⟨_, rfl, HO9.out, HB9.out⟩
end Go.Proofs.Ytaffachjopjbgaa
