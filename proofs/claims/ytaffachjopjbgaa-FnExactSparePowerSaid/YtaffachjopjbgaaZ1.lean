/-
  Contracts and numbers of the functions that the laws of this place call, one text behind the other. No condition beyond those that each theorem names.
-/
import Derived.WalkKit
import Derived.Test.YtaffachjopjbgaaProg
import Derived.WalkSpells
import Derived.WalkLawsBesides
import Derived.BigQuiet
import Derived.Deep.QuietTactic
import Derived.Lib.Hide
import Derived.Lib.Strings
import Derived.Laws.IdiomStrings
import Derived.Laws.BytesArg
import Derived.Below
import Derived.Laws.OwnMore
import Derived.Deep.Draws
import Derived.Laws.Rows
import Derived.Outline
import Derived.StillTailTactics
import Derived.OwnWalk
import Derived.Laws.MakeOwn
import Derived.Deep.Slices
import Derived.Deep.Fields
import Derived.ChangeSame
import Derived.Lib.SmallJoins
import Derived.ProofKit
import Derived.OpenShut
import Derived.Deep.RegionHeld3
import Derived.Laws.EntriesVeiled
import Derived.Lib.SliceRun
namespace Go.Proofs.Ytaffachjopjbgaa
namespace Wd

/-- a letter -/
def lt (c : UInt8) : Bool := 97 ≤ c && c ≤ 100
/-- a plain word -/
def okL (l : List UInt8) : Bool := decide (l.length ≤ 2000) && l.all lt

theorem lt_true {c : UInt8} (h1 : (97 : Int) ≤ (c.toNat : Int)) (h2 : (c.toNat : Int) ≤ 100) : lt c = true := by
  simp [lt, UInt8.le_iff_toNat_le]; omega
theorem lt_low {c : UInt8} (h1 : (c.toNat : Int) < 97) : lt c = false := by
  simp [lt, UInt8.le_iff_toNat_le]; omega
theorem lt_high {c : UInt8} (h1 : (100 : Int) < (c.toNat : Int)) : lt c = false := by
  simp [lt, UInt8.le_iff_toNat_le]; omega
theorem of_lt {c : UInt8} (h : lt c = true) : (97 : Int) ≤ (c.toNat : Int) ∧ (c.toNat : Int) ≤ 100 := by
  simp [lt, UInt8.le_iff_toNat_le] at h; omega
theorem of_not_lt {c : UInt8} (h : lt c = false) : (c.toNat : Int) < 97 ∨ (100 : Int) < (c.toNat : Int) := by
  by_cases h1 : (c.toNat : Int) < 97
  · exact .inl h1
  · by_cases h2 : (100 : Int) < (c.toNat : Int)
    · exact .inr h2
    · exact absurd (lt_true (c := c) (by omega) (by omega)) (by rw [h]; simp)

theorem take_snoc (s : ByteArray) (k : Nat) (h : k < s.size) : s.data.toList.take (k + 1) = s.data.toList.take k ++ [s[k]] := by
  rw [List.take_succ_eq_append_getElem (by simpa using h)]; rfl

theorem rev_snoc (s : ByteArray) (j m : Nat) (h : j + (m + 1) = s.size) : s.data.toList.reverse.take (j + 1) = s.data.toList.reverse.take j ++ [s[m]] := by
  have hl : s.data.toList.length = s.size := by simp
  rw [List.take_succ_eq_append_getElem (by simp; omega)]
  congr 1
  have : s[m] = s.data.toList[m]'(by omega) := rfl
  rw [this, List.getElem_reverse]
  congr 2
  omega

theorem extract_one (s : ByteArray) (k : Nat) (h : k < s.size) : (s.extract k (k + 1)).data.toList = [s[k]] := by
  have h' : k < s.data.size := h
  rw [ByteArray.data_extract, Array.toList_extract, List.extract_eq_take_drop]
  rw [show k + 1 - k = 1 from by omega, List.drop_eq_getElem_cons (by simpa using h')]
  simp
  rfl

theorem okL_long {l : List UInt8} (h : 2000 < l.length) : okL l = false := by
  simp [okL]; omega
theorem okL_len {l : List UInt8} (h : okL l = true) : l.length ≤ 2000 := by
  simp [okL] at h; exact h.1
theorem okL_of {l : List UInt8} (h : l.length ≤ 2000) (ha : l.all lt = true) : okL l = true := by
  simp only [okL, h, ha]; rfl
theorem okL_bad {l : List UInt8} {i : Nat} (h : i < l.length) (hb : lt l[i] = false) : okL l = false := by
  have : l.all lt = false := by
    rw [List.all_eq_false]; exact ⟨l[i], List.getElem_mem _, by simp [hb]⟩
  simp [okL, this]
theorem okL_at {l : List UInt8} (h : okL l = true) {i : Nat} (hi : i < l.length) : lt l[i] = true := by
  simp only [okL, Bool.and_eq_true, List.all_eq_true] at h
  exact h.2 _ (List.getElem_mem _)
/-- how many letters two lists have in common from the beginning on -/
def lcp : List UInt8 → List UInt8 → Nat
  | a :: u, b :: v => if a = b then lcp u v + 1 else 0
  | _, _ => 0
theorem lcp_of : ∀ (u v : List UInt8) (k : Nat), k ≤ u.length → k ≤ v.length → u.take k = v.take k →
    ((k = u.length ∨ k = v.length) ∨ ∃ (h1 : k < u.length) (h2 : k < v.length), u[k] ≠ v[k]) → lcp u v = k
  | [], v, k, h1, _, _, _ => by simp at h1; subst h1; simp [lcp]
  | _ :: _, [], k, _, h2, _, _ => by simp at h2; subst h2; simp [lcp]
  | a :: u, b :: v, 0, _, _, _, h => by
    rcases h with (h | h) | ⟨h1, h2, h⟩
    · simp at h
    · simp at h
    · simp at h; simp [lcp, h]
  | a :: u, b :: v, k + 1, h1, h2, ht, h => by
    simp only [List.take_succ_cons, List.cons.injEq] at ht
    simp only [lcp, ht.1, if_true]
    rw [lcp_of u v k (by simpa using h1) (by simpa using h2) ht.2]
    rcases h with (h | h) | ⟨h3, h4, h⟩
    · exact .inl (.inl (by simpa using h))
    · exact .inl (.inr (by simpa using h))
    · exact .inr ⟨by simpa using h3, by simpa using h4, by simpa using h⟩
end Wd
end Go.Proofs.Ytaffachjopjbgaa
namespace Go.Proofs.Ytaffachjopjbgaa
open Go.RowKit
open Wd

theorem ret_bool {a b : Bool} (h : a = b) : Ending.returned (.bool a) = .returned (.bool b) := by rw [h]

/-- spec.l01Ok -/
theorem specOk (s : ByteArray) (w : World) (hs : s.size ≤ maxLen) :
    Calls Try.prog 125 #[.string s] w fun e w' => e = .returned (.bool (okL s.data.toList)) ∧ w = w' := by
  unfold maxLen at hs
  by_cases hbig : 2000 < s.size
  · go_enter Try.func125, Try.ntmps125
    go_wp2
    go_ret
    exact ⟨ret_bool (okL_long (by simpa using hbig)).symm, rfl⟩
  · go_enter Try.func125, Try.ntmps125
    go_wp2
    go_loop [3] (fun i => ∃ k : Nat, k ≤ s.size ∧ i = .int .i64 k ∧ (s.data.toList.take k).all lt = true) (fun i => s.size - (intOf i).toNat)
    case atStart => exact ⟨0, Nat.zero_le _, rfl, rfl⟩
    case round =>
      obtain ⟨k, hk, rfl, hall⟩ := hrel
      by_cases hlt : k < s.size
      · have hsn := take_snoc s k hlt
        have HS : Hid (s.data.toList.take (k + 1) = s.data.toList.take k ++ [s[k]]) := hsn
        have HA : Hid ((s.data.toList.take k).all lt = true) := hall
        clear hsn hall
        by_cases h1 : (s[k].toNat : Int) < 97
        · go_wp2
          go_ret
          exact ⟨ret_bool (okL_bad (i := k) (by simpa using hlt) (lt_low h1)).symm, rfl⟩
        · have h1' : decide ((s[k].toNat : Int) < 97) = false := by simpa using h1
          by_cases h2 : (100 : Int) < (s[k].toNat : Int)
          · go_wp2
            go_ret
            exact ⟨ret_bool (okL_bad (i := k) (by simpa using hlt) (lt_high h2)).symm, rfl⟩
          · go_wp2
            go_round
            case rel => exact ⟨k + 1, by omega, by go_num, by rw [HS.out, List.all_append, HA.out]; simp [lt_true (c := s[k]) (by omega) (by omega)]⟩
            case measure => simp [intOf]; omega
      · have hk' : k = s.size := by omega
        have hfin : okL s.data.toList = true := okL_of (by simp; omega) (by rw [← hall, List.take_of_length_le (by simp; omega)])
        have HF : Hid (okL s.data.toList = true) := hfin
        clear hfin hall
        go_wp2
        go_ret
        exact ⟨ret_bool HF.out.symm, rfl⟩

theorem implLetter0 (s : ByteArray) (w : World) (h0 : 0 < s.size) (hz : ((s.size : Int) == 1) = true) :
    Calls Try.prog 165 #[.string s] w fun e w' => e = .returned (.bool (lt s[0])) ∧ w = w' := by
  by_cases h1 : (s[0].toNat : Int) < 97
  · go_enter Try.func165, Try.ntmps165
    go_wp2
    go_ret
    exact ⟨ret_bool (lt_low h1).symm, rfl⟩
  · by_cases h2 : (100 : Int) < (s[0].toNat : Int)
    · go_enter Try.func165, Try.ntmps165
      go_wp2
      go_ret
      exact ⟨ret_bool (by rw [lt_high h2]; simp; omega), rfl⟩
    · go_enter Try.func165, Try.ntmps165
      go_wp2
      go_ret
      exact ⟨ret_bool (lt_true (by omega) (by omega)).symm, rfl⟩
/-- impl.isLetter at a text of one byte -/
theorem implLetter (s : ByteArray) (c : UInt8) (w : World) (hs : s.data.toList = [c]) :
    Calls Try.prog 165 #[.string s] w fun e w' => e = .returned (.bool (lt c)) ∧ w = w' := by
  have h1 : s.size = 1 := by have := congrArg List.length hs; simpa using this
  have h0 : 0 < s.size := by omega
  have hc : s[0] = c := by
    have : s[0] = s.data.toList[0]'(by simpa using h0) := rfl
    rw [this]; simp [hs]
  rw [← hc]
  exact implLetter0 s w h0 (by simp; omega)

/-- impl.ValidWord -/
theorem implOk (s : ByteArray) (w : World) (hs : s.size ≤ maxLen) :
    Calls Try.prog 110 #[.string s] w fun e w' => e = .returned (.bool (okL s.data.toList)) ∧ w = w' := by
  unfold maxLen at hs
  by_cases hbig : 2000 < s.size
  · go_enter Try.func110, Try.ntmps110
    go_wp2
    go_ret
    exact ⟨ret_bool (okL_long (by simpa using hbig)).symm, rfl⟩
  · go_enter Try.func110, Try.ntmps110
    go_wp2
    go_loop [9] (fun i => ∃ k : Nat, k ≤ s.size ∧ i = .int .i64 k ∧ (s.data.toList.take k).all lt = true) (fun i => s.size - (intOf i).toNat)
    case atStart => exact ⟨0, Nat.zero_le _, rfl, rfl⟩
    case round =>
      obtain ⟨k, hk, rfl, hall⟩ := hrel
      by_cases hlt : k < s.size
      · have hsn := take_snoc s k hlt
        have HS : Hid (s.data.toList.take (k + 1) = s.data.toList.take k ++ [s[k]]) := hsn
        have HA : Hid ((s.data.toList.take k).all lt = true) := hall
        have hone : (s.extract k (k + 1)).data.toList = [s[k]] := extract_one s k hlt
        have HO := Lib.hid hone
        clear hsn hall hone
        cases hb : lt s[k]
        · have HB := Lib.hid hb
          clear hb
          go_wp2_with (go_at_call 165; refine (implLetter _ s[k] _ HO.out).mono ?_; rw [HB.out]; rintro e w' ⟨rfl, rfl⟩)
          go_ret
          exact ⟨ret_bool (okL_bad (i := k) (by simpa using hlt) HB.out).symm, rfl⟩
        · have HB := Lib.hid hb
          clear hb
          go_wp2_with (go_at_call 165; refine (implLetter _ s[k] _ HO.out).mono ?_; rw [HB.out]; rintro e w' ⟨rfl, rfl⟩)
          go_round
          case rel => exact ⟨k + 1, by omega, by go_num, by rw [HS.out, List.all_append, HA.out]; simp [HB.out]⟩
          case measure => simp [intOf]; omega
      · have hk' : k = s.size := by omega
        have hfin : okL s.data.toList = true := okL_of (by simp; omega) (by rw [← hall, List.take_of_length_le (by simp; omega)])
        have HF : Hid (okL s.data.toList = true) := hfin
        clear hfin hall
        go_wp2
        go_ret
        exact ⟨ret_bool HF.out.symm, rfl⟩

end Go.Proofs.Ytaffachjopjbgaa
namespace Go.Proofs.Ytaffachjopjbgaa
open Go.RowKit
namespace Wd
/-- bytes as cells -/
def bv (l : List UInt8) : List Value := l.map fun c => Value.int .u8 c.toNat
theorem bv_len (l : List UInt8) : (bv l).length = l.length := by simp [bv]
theorem bv_app (l m : List UInt8) : bv (l ++ m) = bv l ++ bv m := by simp [bv]
theorem bv_one (c : UInt8) : bv [c] = [Value.int .u8 c.toNat] := rfl
theorem bv_cell (l : List UInt8) : ∀ u ∈ bv l, u.oneCell' = true := by
  intro u hu; obtain ⟨_, _, rfl⟩ := List.mem_map.1 hu; rfl
theorem bv_get (l : List UInt8) (j : Nat) (h : j < l.length) : (bv l)[j]? = some (.int .u8 l[j].toNat) := by
  simp [bv, h]

theorem conv_owned {P : Program} {w : World} {B : Nat} {e src dst : TypeId} {v : Value} {n : Nat} {l : List UInt8} (h : w.ownsRow B e 1 v n (bv l))
    (hs : P.underlying src = some (.slice e)) (he : P.underlying e = some (.int .u8)) (hd : P.underlying dst = some .string) :
    (convert src dst v).run P w = .ok (.string ⟨l.toArray⟩) w := by
  have hn : l.length = n := by have := h.1; rw [bv_len] at this; omega
  rcases h.2 with ⟨rfl, h0⟩ | ⟨g, cap, cur, rfl, hb, hg, hc, hm, hz, ht⟩
  · have : l = [] := List.eq_nil_of_length_eq_zero (by omega)
    subst this
    exact run_convert_bytes_nil w src e hs he 0 0 dst hd
  · subst hn
    refine run_convert_bytes_back w src dst e ⟨g, 0, none⟩ cap l hs he hd (fun j hj => ?_)
    have := h.cells (g := g) rfl j (.int .u8 l[j].toNat) (bv_get l j hj)
    exact this
end Wd
end Go.Proofs.Ytaffachjopjbgaa
namespace Go.Proofs.Ytaffachjopjbgaa
open Go.RowKit
set_option linter.unusedVariables false

theorem Try.info_u8 : (Try.prog.info? 5).map (fun i => (i.zero, i.size, i.bytes)) = some (some (.int .u8 0), 1, 1) := by kernel_rfl

theorem ret_str {a b : ByteArray} (h : a = b) : Ending.returned (.string a) = .returned (.string b) := by rw [h]
theorem ret_int {k : IntKind} {a b : Int} (h : a = b) : Ending.returned (.int k a) = .returned (.int k b) := by rw [h]
theorem ret_int2 {k k' : IntKind} {a b c : Int} (h : a = b) : Ending.returned (.tuple #[.int k a, .int k' c]) = .returned (.tuple #[.int k b, .int k' c]) := by rw [h]
/-- at most the tape has moved -/
def Drawn (w w' : World) : Prop := ∃ n, w' = w.drewN n
theorem one_new (w : World) (v : Value) (t : TypeId) : ∀ j u, [v][j]? = some u → (w.alloc (.cells #[v] t)).cell? ((⟨w.heap.size, 0, none⟩ : Addr).add j) = some u := by
  intro x u hx
  match x, hx with
  | 0, hx => simp at hx; subst hx; simp [Addr.add]
theorem one_str (a : ByteArray) : ∀ u ∈ [Value.string a], u.oneCell' = true := by intro u hu; simp at hu; subst hu; rfl
theorem one_int (k : IntKind) (a : Int) : ∀ u ∈ [Value.int k a], u.oneCell' = true := by intro u hu; simp at hu; subst hu; rfl
theorem base_alloc {w wr : World} (h : w.heap.size ≤ wr.heap.size) (o : Obj) : w.heap.size ≤ (wr.alloc o).heap.size := by simp; omega
theorem Drawn.refl (w : World) : Drawn w w := ⟨0, rfl⟩
theorem Drawn.drewN {w w' : World} (h : Drawn w w') (m : Nat) : Drawn w (w'.drewN m) := by
  obtain ⟨n, rfl⟩ := h; exact ⟨n + m, World.drewN_drewN _ _ _⟩
theorem Drawn.trans {w w' w'' : World} (h : Drawn w w') (h' : Drawn w' w'') : Drawn w w'' := by
  obtain ⟨n, rfl⟩ := h'; exact h.drewN n
theorem Drawn.below {w w' : World} (h : Drawn w w') (B : Nat) : Below B w w' := by
  obtain ⟨n, rfl⟩ := h; exact below_drewN (Below.refl _ _) n


end Go.Proofs.Ytaffachjopjbgaa
namespace Go.Proofs.Ytaffachjopjbgaa
open Go.RowKit
set_option linter.unusedVariables false
namespace Wd

/-- a rule as it is read -/
structure Rl where
  L : ByteArray
  l : Int
  r : Int

/-- its cells -/
def rc (x : Rl) : List Value := [.string x.L, .int .i64 x.l, .int .i64 x.r]
/-- those of a list -/
def rv (gs : List Rl) : List Value := gs.flatMap rc
theorem rv_len (gs : List Rl) : (rv gs).length = gs.length * 3 := by
  induction gs with
  | nil => rfl
  | cons x gs ih => simp only [rv, List.flatMap_cons, List.length_append, List.length_cons] at ih ⊢; simp only [rc, List.length_cons, List.length_nil]; omega
theorem rv_app (gs hs : List Rl) : rv (gs ++ hs) = rv gs ++ rv hs := by simp [rv]
theorem rv_one (x : Rl) : rv [x] = rc x := by simp [rv]
theorem rv_cell (gs : List Rl) : ∀ u ∈ rv gs, u.oneCell' = true := by
  intro u hu
  obtain ⟨x, _, hx⟩ := List.mem_flatMap.1 hu
  simp only [rc, List.mem_cons, List.not_mem_nil, or_false] at hx
  rcases hx with rfl | rfl | rfl <;> rfl
theorem rv_get (gs : List Rl) (k : Nat) (h : k < gs.length) (j : Nat) (hj : j < 3) : (rv gs)[k * 3 + j]? = (rc gs[k])[j]? := by
  induction gs generalizing k with
  | nil => simp at h
  | cons x gs ih =>
    have hx : (rc x).length = 3 := rfl
    cases k with
    | zero =>
      rw [show rv (x :: gs) = rc x ++ rv gs from rfl, List.getElem?_append_left (by omega)]
      simp
    | succ k =>
      rw [show rv (x :: gs) = rc x ++ rv gs from rfl, List.getElem?_append_right (by omega), show (k + 1) * 3 + j - (rc x).length = k * 3 + j from by omega]
      simpa using ih k (by simpa using h)

/-- may the rule stand at this number? -/
def Rl.ok (x : Rl) (n : Nat) : Bool :=
  if x.L.size = 0 then decide (0 ≤ x.l) && decide (x.l < n) && (decide (0 ≤ x.r) && decide (x.r < n))
  else decide (x.L.size = 1) && okL x.L.data.toList && (decide (x.l = 0) && decide (x.r = 0))
theorem ok_pair {x : Rl} {n : Nat} (h0 : x.L.size = 0) : x.ok n = true ↔ (0 ≤ x.l ∧ x.l < n) ∧ (0 ≤ x.r ∧ x.r < n) := by
  simp [Rl.ok, h0]
theorem ok_letter {x : Rl} {n : Nat} (h0 : x.L.size ≠ 0) : x.ok n = true ↔ (x.L.size = 1 ∧ okL x.L.data.toList = true) ∧ (x.l = 0 ∧ x.r = 0) := by
  simp [Rl.ok, h0]

/-- the measure of a rule behind those -/
def val1 (J : Int → Int → Int) (d : List Int) (x : Rl) : Int := if x.L.size = 0 then J (d.getD x.l.toNat 0) (d.getD x.r.toNat 0) else 1
/-- the measures of all rules -/
def valsOn (J : Int → Int → Int) (d : List Int) (gs : List Rl) : List Int := gs.foldl (fun d x => d ++ [val1 J d x]) d
def vals (J : Int → Int → Int) (gs : List Rl) : List Int := valsOn J [] gs
theorem vals_snoc (J) (gs : List Rl) (x : Rl) : vals J (gs ++ [x]) = vals J gs ++ [val1 J (vals J gs) x] := by
  simp [vals, valsOn, List.foldl_append]
theorem valsOn_len (J) (d : List Int) (gs : List Rl) : (valsOn J d gs).length = d.length + gs.length := by
  induction gs generalizing d with
  | nil => rfl
  | cons x gs ih => have := ih (d ++ [val1 J d x]); simp only [valsOn, List.foldl_cons, List.length_append, List.length_cons, List.length_nil] at this ⊢; omega
theorem vals_len (J) (gs : List Rl) : (vals J gs).length = gs.length := by
  have := valsOn_len J [] gs; simpa [vals] using this
theorem vals_take_succ (J) (gs : List Rl) (k : Nat) (h : k < gs.length) : vals J (gs.take (k + 1)) = vals J (gs.take k) ++ [val1 J (vals J (gs.take k)) gs[k]] := by
  rw [List.take_succ_eq_append_getElem h, vals_snoc]
theorem vals_app (J) (gs hs : List Rl) : vals J (gs ++ hs) = valsOn J (vals J gs) hs := by simp [vals, valsOn, List.foldl_append]
theorem valsOn_take (J) (d : List Int) (hs : List Rl) : (valsOn J d hs).take d.length = d := by
  induction hs generalizing d with
  | nil => simp [valsOn]
  | cons x hs ih =>
    have h1 := ih (d ++ [val1 J d x])
    have h2 : valsOn J d (x :: hs) = valsOn J (d ++ [val1 J d x]) hs := rfl
    rw [h2]
    have h3 := congrArg (List.take d.length) h1
    rw [List.take_take, List.take_left] at h3
    rw [Nat.min_eq_left (by simp)] at h3
    exact h3
theorem vals_take (J) (gs : List Rl) (k : Nat) : (vals J gs).take k = vals J (gs.take k) := by
  rcases Nat.lt_or_ge k gs.length with h | h
  · have h1 := valsOn_take J (vals J (gs.take k)) (gs.drop k)
    rw [← vals_app, List.take_append_drop, vals_len, List.length_take, Nat.min_eq_left (by omega)] at h1
    exact h1
  · rw [List.take_of_length_le (by rw [vals_len]; omega), List.take_of_length_le h]
theorem vals_get (J) (gs : List Rl) (k : Nat) (h : k < gs.length) : (vals J gs).getD k 0 = val1 J (vals J (gs.take k)) gs[k] := by
  have h1 := vals_take_succ J gs k h
  rw [← vals_take, ← vals_take] at h1
  have hk : k < (vals J gs).length := by rw [vals_len]; exact h
  rw [List.take_succ_eq_append_getElem hk] at h1
  have h2 := List.append_cancel_left h1
  rw [List.getD_eq_getElem?_getD, List.getElem?_eq_getElem hk, Option.getD_some]
  rw [vals_take] at h2
  simpa using h2
theorem getD_take {d : List Int} {j k : Nat} (h : j < k) : (d.take k).getD j 0 = d.getD j 0 := by
  simp only [List.getD_eq_getElem?_getD, List.getElem?_take, h, if_true]
theorem vals_pair (J) (gs : List Rl) (k : Nat) (h : k < gs.length) (h0 : gs[k].L.size = 0) (hok : gs[k].ok k = true) :
    (vals J gs).getD k 0 = J ((vals J gs).getD gs[k].l.toNat 0) ((vals J gs).getD gs[k].r.toNat 0) := by
  obtain ⟨⟨a1, a2⟩, b1, b2⟩ := (ok_pair h0).1 hok
  rw [vals_get J gs k h, val1, if_pos h0, ← vals_take, getD_take (by omega), getD_take (by omega)]
theorem vals_letter (J) (gs : List Rl) (k : Nat) (h : k < gs.length) (h0 : gs[k].L.size ≠ 0) : (vals J gs).getD k 0 = 1 := by
  rw [vals_get J gs k h, val1, if_neg h0]

/-- the lengths of the words -/
def lens (gs : List Rl) : List Int := vals (fun a b => a + b) gs
theorem lens_len (gs : List Rl) : (lens gs).length = gs.length := vals_len _ _
/-- do all rules fit? -/
def fits (gs : List Rl) : Bool := decide (∀ k (h : k < gs.length), gs[k].ok k = true)
/-- is no word too long? -/
def small (gs : List Rl) : Bool := decide (∀ k, k < gs.length → (lens gs).getD k 0 ≤ 1000000000000000)
/-- is the grammar valid? -/
def gOk (gs : List Rl) : Bool := decide (gs.length ≤ 400) && (fits gs && small gs)
theorem fits_at {gs : List Rl} (h : fits gs = true) (k : Nat) (hk : k < gs.length) : gs[k].ok k = true := of_decide_eq_true h k hk
theorem small_at {gs : List Rl} (h : small gs = true) (k : Nat) (hk : k < gs.length) : (lens gs).getD k 0 ≤ 1000000000000000 := of_decide_eq_true h k hk
theorem gOk_iff {gs : List Rl} : gOk gs = true ↔ gs.length ≤ 400 ∧ fits gs = true ∧ small gs = true := by
  simp [gOk]

/-- up to a number all fit and none is too long -/
def UpTo (gs : List Rl) (k : Nat) : Prop := ∀ j (h : j < gs.length), j < k → gs[j].ok j = true ∧ (lens gs).getD j 0 ≤ 1000000000000000
theorem upTo_zero (gs : List Rl) : UpTo gs 0 := fun _ _ h => by omega
theorem upTo_succ {gs : List Rl} {k : Nat} (h : UpTo gs k) (hk : k < gs.length) (h1 : gs[k].ok k = true) (h2 : (lens gs).getD k 0 ≤ 1000000000000000) : UpTo gs (k + 1) := fun j hj hjk => by
  by_cases e : j = k
  · subst e; exact ⟨h1, h2⟩
  · exact h j hj (by omega)
theorem upTo_all {gs : List Rl} {k : Nat} (h : UpTo gs k) (hk : gs.length ≤ k) : (fits gs && small gs) = true := by
  rw [Bool.and_eq_true]
  exact ⟨decide_eq_true fun j hj => (h j hj (by omega)).1, decide_eq_true fun j hj => (h j hj (by omega)).2⟩
theorem bad_fit {gs : List Rl} {k : Nat} (hk : k < gs.length) (h1 : gs[k].ok k = false) : (fits gs && small gs) = false := by
  have : fits gs = false := decide_eq_false fun h => by rw [h k hk] at h1; cases h1
  rw [this]; rfl
theorem bad_long {gs : List Rl} {k : Nat} (hk : k < gs.length) (h1 : 1000000000000000 < (lens gs).getD k 0) : (fits gs && small gs) = false := by
  have : small gs = false := decide_eq_false fun h => by have := h k hk; omega
  rw [this]; simp
/-- the lengths are at least 1 as long as the rules fit -/
theorem vals_pos (J) (hJ : ∀ a b, 1 ≤ a → 1 ≤ b → 1 ≤ J a b) (gs : List Rl) : ∀ n k (h : k < gs.length), k < n → (∀ j (h : j < gs.length), j ≤ k → gs[j].ok j = true) → 1 ≤ (vals J gs).getD k 0
  | 0, k, h, hn, _ => by omega
  | n + 1, k, h, hn, hok => by
    by_cases h0 : gs[k].L.size = 0
    · have hk := hok k h (Nat.le_refl _)
      obtain ⟨⟨a1, a2⟩, b1, b2⟩ := (ok_pair h0).1 hk
      rw [vals_pair J gs k h h0 hk]
      exact hJ _ _ (vals_pos J hJ gs n _ (by omega) (by omega) fun j hj hjk => hok j hj (by omega)) (vals_pos J hJ gs n _ (by omega) (by omega) fun j hj hjk => hok j hj (by omega))
    · rw [vals_letter J gs k h h0]; omega
theorem lens_pos {gs : List Rl} {k : Nat} (h : k < gs.length) (hok : ∀ j (h : j < gs.length), j ≤ k → gs[j].ok j = true) : 1 ≤ (lens gs).getD k 0 :=
  vals_pos _ (fun a b ha hb => by omega) gs (k + 1) k h (by omega) hok
/-- the next length out of those before -/
theorem lens_next {gs : List Rl} {k : Nat} (h : k < gs.length) (hu : UpTo gs k) (hk : gs[k].ok k = true) (h0 : gs[k].L.size = 0) :
    ∃ a b : Nat, gs[k].l = a ∧ gs[k].r = b ∧ a < k ∧ b < k ∧ (lens gs).getD k 0 = (lens gs).getD a 0 + (lens gs).getD b 0 ∧
      1 ≤ (lens gs).getD a 0 ∧ (lens gs).getD a 0 ≤ 1000000000000000 ∧ 1 ≤ (lens gs).getD b 0 ∧ (lens gs).getD b 0 ≤ 1000000000000000 := by
  obtain ⟨⟨a1, a2⟩, b1, b2⟩ := (ok_pair h0).1 hk
  have ha : gs[k].l.toNat < gs.length := by omega
  have hb : gs[k].r.toNat < gs.length := by omega
  refine ⟨gs[k].l.toNat, gs[k].r.toNat, by omega, by omega, by omega, by omega, vals_pair _ gs k h h0 hk, ?_, (hu _ ha (by omega)).2, ?_, (hu _ hb (by omega)).2⟩
  · exact lens_pos ha fun j hj hjk => (hu j hj (by omega)).1
  · exact lens_pos hb fun j hj hjk => (hu j hj (by omega)).1
theorem lens_snoc {gs : List Rl} {k : Nat} (h : k < gs.length) : lens (gs.take (k + 1)) = lens (gs.take k) ++ [(lens gs).getD k 0] := by
  unfold lens
  rw [vals_take_succ _ gs k h, vals_get _ gs k h]
theorem lens_at {gs : List Rl} {j k : Nat} (h : j < k) (hk : k ≤ gs.length) : (lens (gs.take k))[j]? = some ((lens gs).getD j 0) := by
  unfold lens
  rw [← vals_take, List.getElem?_take, if_pos h]
  have : j < (vals (fun a b => a + b) gs).length := by rw [vals_len]; omega
  rw [List.getD_eq_getElem?_getD, List.getElem?_eq_getElem this, Option.getD_some]

/-- where the rules lie that a slice value holds -/
def Rules (w : World) (v : Value) (gs : List Rl) : Prop :=
  ∃ A c, v = .slice A gs.length c ∧ (gs = [] ∨ ∃ g, A = some ⟨g, 0, none⟩ ∧ g < w.heap.size ∧ ∀ j u, (rv gs)[j]? = some u → w.cell? ⟨g, j, none⟩ = some u)
theorem Rules.kept {w w' : World} {v : Value} {gs : List Rl} (h : Rules w v gs) (hb : Below w.heap.size w w') : Rules w' v gs := by
  obtain ⟨A, c, hv, h | ⟨g, hA, hg, hc⟩⟩ := h
  · exact ⟨A, c, hv, .inl h⟩
  · exact ⟨A, c, hv, .inr ⟨g, hA, Nat.lt_of_lt_of_le hg hb.size, fun j u hu => (hb.cell (p := ⟨g, j, none⟩) hg).trans (hc j u hu)⟩⟩
/-- the three cells of a rule -/
theorem rules_cells {w : World} {gs : List Rl} {g k : Nat} (hc : ∀ j u, (rv gs)[j]? = some u → w.cell? ⟨g, j, none⟩ = some u) (h : k < gs.length) :
    w.cell? ⟨g, k * 3, none⟩ = some (.string gs[k].L) ∧ w.cell? ⟨g, k * 3 + 1, none⟩ = some (.int .i64 gs[k].l) ∧ w.cell? ⟨g, k * 3 + 2, none⟩ = some (.int .i64 gs[k].r) :=
  ⟨hc _ _ (rv_get gs k h 0 (by omega)), hc _ _ (rv_get gs k h 1 (by omega)), hc _ _ (rv_get gs k h 2 (by omega))⟩
theorem Rules.of_own {w : World} {B e : Nat} {v : Value} {gs : List Rl} (h : w.ownsRow B e 3 v gs.length (rv gs)) : Rules w v gs := by
  rcases h.2 with ⟨rfl, h0⟩ | ⟨g, cap, cur, rfl, hb, hg, _⟩
  · exact ⟨none, 0, by rw [h0], .inl (List.eq_nil_of_length_eq_zero h0)⟩
  · exact ⟨_, _, rfl, .inr ⟨g, rfl, (Array.getElem?_eq_some_iff.1 hg).1, fun j u hu => by have := h.cells (g := g) rfl j u hu; unfold Addr.add at this; split at this <;> simp_all⟩⟩
theorem lt_of_cell {w : World} {A : Addr} {v : Value} (h : w.cell? A = some v) : A.block < w.heap.size := by
  rcases Nat.lt_or_ge A.block w.heap.size with h' | h'
  · exact h'
  · simp [World.cell?, Array.getElem?_eq_none h'] at h
theorem cell_new (w : World) (v : Value) (t : TypeId) : (w.alloc (.cells #[v] t)).cell? ⟨w.heap.size, 0, none⟩ = some v := by
  rw [cell_of_row _ _ _ _ _ _ (heap_alloc_new w _)]; rfl
theorem below_undrew {B n : Nat} {w w' : World} (h : Below B (w.drewN n) w') : Below B w w' := ⟨h.os, h.tape, h.output, h.size, h.block⟩
/-- a slice of rules that came in -/
def InRules (w : World) (A : Option Addr) (len : Nat) (gs : List Rl) : Prop :=
  gs.length = len ∧ (gs = [] ∨ ∃ x, A = some x ∧ ∀ i (h : i < gs.length), (w.cell? (x.add (i * 3)) = some (.string gs[i].L) ∧ w.cell? (x.add (i * 3 + 1)) = some (.int .i64 gs[i].l) ∧ w.cell? (x.add (i * 3 + 2)) = some (.int .i64 gs[i].r)) ∧ gs[i].L.size ≤ maxLen)
theorem InRules.kept {w w' : World} {A : Option Addr} {len : Nat} {gs : List Rl} (h : InRules w A len gs) (hb : Below w.heap.size w w') : InRules w' A len gs := by
  obtain ⟨hl, h | ⟨x, hA, hc⟩⟩ := h
  · exact ⟨hl, .inl h⟩
  · refine ⟨hl, .inr ⟨x, hA, fun i hi => ?_⟩⟩
    obtain ⟨⟨h0, h1, h2⟩, h3⟩ := hc i hi
    exact ⟨⟨(hb.cell (lt_of_cell h0)).trans h0, (hb.cell (lt_of_cell h1)).trans h1, (hb.cell (lt_of_cell h2)).trans h2⟩, h3⟩
/-- the letters of all -/
def sumL (gs : List Rl) : Nat := (gs.map fun x => x.L.size).sum
theorem sumL_take (gs : List Rl) (k : Nat) (h : k < gs.length) : sumL (gs.take (k + 1)) = sumL (gs.take k) + gs[k].L.size := by
  rw [List.take_succ_eq_append_getElem h]; simp only [sumL, List.map_append, List.sum_append, List.map_cons, List.map_nil, List.sum_cons, List.sum_nil]; omega
theorem sumL_le (gs : List Rl) (k : Nat) : sumL (gs.take k) ≤ sumL gs := by
  have : sumL gs = sumL (gs.take k) + sumL (gs.drop k) := by
    conv => lhs; rw [← List.take_append_drop k gs]
    simp only [sumL, List.map_append, List.sum_append]
  omega
theorem sumL_at (gs : List Rl) (k : Nat) (h : k < gs.length) : gs[k].L.size ≤ sumL gs := by
  have h1 := sumL_take gs k h
  have h2 := sumL_le gs (k + 1)
  omega
/-- what is left of a purse, -1 if it does not do -/
def purse (left : Int) (gs : List Rl) : Int := if (gs.length : Int) + (sumL gs : Int) ≤ left then left - gs.length - sumL gs else -1
theorem purse_ok {left : Int} {gs : List Rl} (h : (gs.length : Int) + (sumL gs : Int) ≤ left) : purse left gs = left - gs.length - sumL gs := if_pos h
theorem purse_no {left : Int} {gs : List Rl} (h : ¬ (gs.length : Int) + (sumL gs : Int) ≤ left) : purse left gs = -1 := if_neg h
theorem purse_bad {left : Int} {gs : List Rl} {k : Nat} (hk : k < gs.length) (h : left - gs.length - sumL (gs.take k) - gs[k].L.size < 0) : purse left gs = -1 := by
  have h1 := sumL_take gs k hk
  have h2 := sumL_le gs (k + 1)
  exact purse_no (by omega)
end Wd
end Go.Proofs.Ytaffachjopjbgaa
namespace Go.Proofs.Ytaffachjopjbgaa
open Go.RowKit
open Wd
set_option linter.unusedVariables false

/-- a rule as a value -/
abbrev agg3 (x : Rl) : Value := .agg #[.string x.L, .int .i64 x.l, .int .i64 x.r]
theorem empty_list {L : ByteArray} (h : L.size = 0) : L.data.toList = [] := List.eq_nil_of_length_eq_zero (by simpa using h)
theorem empty_arr {L : ByteArray} (h : L.size = 0) : L = ⟨#[]⟩ := by
  have := empty_list h
  obtain ⟨⟨l⟩⟩ := L
  simp at this
  subst this; rfl
theorem full_list {L : ByteArray} (h : L.size ≠ 0) : L.toList.isEmpty = false := by
  rw [List.isEmpty_eq_false_iff]
  intro h0
  apply h
  have h1 : L.data.toList = [] := by rw [← h0, ByteArray.toList_eq]
  have := congrArg List.length h1
  simpa using this

theorem kind_pair (x : Rl) (h : x.L.size = 0) (w : World) :
    Calls Try.prog 156 #[agg3 x] w fun e w' => e = .returned (.iface 198 (agg3 x)) ∧ Below w.heap.size w w' := by
  obtain ⟨L, l, r⟩ := x
  simp only at h
  obtain rfl := empty_arr h
  clear h
  go_enter Try.func156, Try.ntmps156
  go_wp2
  go_ret
  exact ⟨rfl, (Below.refl _ _).alloc (Nat.le_refl _) _⟩
theorem kind_letter (x : Rl) (h : x.L.size ≠ 0) (w : World) :
    Calls Try.prog 156 #[agg3 x] w fun e w' => e = .returned (.iface 211 (agg3 x)) ∧ Below w.heap.size w w' := by
  obtain ⟨L, l, r⟩ := x
  simp only at h
  have h1 := full_list h
  clear h
  go_enter Try.func156, Try.ntmps156
  go_wp2
  go_ret
  exact ⟨rfl, (Below.refl _ _).alloc (Nat.le_refl _) _⟩

theorem pair_fits (x : Rl) (h : x.L.size = 0) (n : Nat) (w : World) :
    Calls Try.prog 254 #[agg3 x, .int .i64 n] w fun e w' => e = .returned (.bool (x.ok n)) ∧ Below w.heap.size w w' := by
  obtain ⟨L, l, r⟩ := x
  simp only at h
  obtain rfl := empty_arr h
  clear h
  go_enter Try.func254, Try.ntmps254
  go_wp2
  all_goals (go_ret; refine ⟨ret_bool ?_, (Below.refl _ _).alloc (Nat.le_refl _) _⟩; rw [Bool.eq_iff_iff, ok_pair rfl]; simp; omega)

theorem isLetter_any (L : ByteArray) (h : L.size ≠ 0) (w : World) :
    Calls Try.prog 165 #[.string L] w fun e w' => e = .returned (.bool (decide (L.size = 1) && okL L.data.toList)) ∧ w = w' := by
  by_cases h1 : L.size = 1
  · obtain ⟨c, hc⟩ : ∃ c, L.data.toList = [c] := by
      have : L.data.toList.length = 1 := by simpa using h1
      match hl : L.data.toList, this with
      | [c], _ => exact ⟨c, rfl⟩
    refine (implLetter L c w hc).mono fun e w' he => ⟨he.1.trans (ret_bool ?_), he.2⟩
    rw [hc]; simp [h1, okL]
  · have hz : ((L.size : Int) == 1) = false := by rw [beq_eq_false_iff_ne]; omega
    have H1 := Lib.hid h1
    clear h1
    go_enter Try.func165, Try.ntmps165
    go_wp2
    go_ret
    exact ⟨ret_bool (by simp [H1.out]), rfl⟩
theorem letter_fits (x : Rl) (h : x.L.size ≠ 0) (n : Nat) (w : World) :
    Calls Try.prog 256 #[agg3 x, .int .i64 n] w fun e w' => e = .returned (.bool (x.ok n)) ∧ Below w.heap.size w w' := by
  obtain ⟨L, l, r⟩ := x
  simp only at h
  have c1 := fun W => isLetter_any L h W
  have hx : Rl.ok ⟨L, l, r⟩ n = (decide (L.size = 1) && okL L.data.toList && (decide (l = 0) && decide (r = 0))) := by simp [Rl.ok, h]
  generalize (decide (L.size = 1) && okL L.data.toList) = b at c1 hx
  have HX := Lib.hid hx
  have C1 := Lib.hid c1
  clear h hx c1
  cases b
  all_goals
    go_enter Try.func256, Try.ntmps256
    go_wp2_with (go_at_call 165; refine (C1.out _).mono ?_; rintro e w' ⟨rfl, rfl⟩)
    all_goals (go_ret; refine ⟨ret_bool ?_, (Below.refl _ _).alloc (Nat.le_refl _) _⟩; rw [HX.out]; first | (simp; done) | (rw [Bool.eq_iff_iff]; simp; omega))

theorem in_any (n lo hi : Int) (w : World) :
    Calls Try.prog 80 #[.int .i64 n, .int .i64 lo, .int .i64 hi] w fun e w' => e = .returned (.bool (decide (lo ≤ n) && decide (n ≤ hi))) ∧ w = w' := by
  by_cases h1 : lo ≤ n
  · by_cases h2 : n ≤ hi
    · go_enter Try.func80, Try.ntmps80
      go_wp2
      go_ret
      exact ⟨ret_bool (by rw [Bool.eq_iff_iff]; simp; omega), rfl⟩
    · go_enter Try.func80, Try.ntmps80
      go_wp2
      go_ret
      exact ⟨ret_bool (by rw [Bool.eq_iff_iff]; simp; omega), rfl⟩
  · go_enter Try.func80, Try.ntmps80
    go_wp2
    go_ret
    exact ⟨ret_bool (by rw [Bool.eq_iff_iff]; simp; omega), rfl⟩
set_option maxRecDepth 100000 in
set_option maxHeartbeats 800000 in
/-- spec.l02Rule -/
theorem rule_any (x : Rl) (g o n : Nat) (w : World) (hs : x.L.size ≤ maxLen) (hn : n ≤ maxLen)
    (h0 : w.cell? ⟨g, o, none⟩ = some (.string x.L)) (h1 : w.cell? ⟨g, o + 1, none⟩ = some (.int .i64 x.l)) (h2 : w.cell? ⟨g, o + 2, none⟩ = some (.int .i64 x.r)) :
    Calls Try.prog 200 #[.pointer (some ⟨g, o, none⟩), .int .i64 n] w fun e w' => e = .returned (.bool (x.ok n)) ∧ w = w' := by
  unfold maxLen at hs hn
  by_cases h : x.L.size = 0
  · have he := empty_arr h
    have hx : x.ok n = (decide (0 ≤ x.l) && decide (x.l ≤ (n : Int) - 1) && (decide (0 ≤ x.r) && decide (x.r ≤ (n : Int) - 1))) := by
      rw [Bool.eq_iff_iff, ok_pair h]; simp; omega
    have c1 := fun W => in_any x.l 0 ((n : Int) - 1) W
    have c2 := fun W => in_any x.r 0 ((n : Int) - 1) W
    generalize (decide (0 ≤ x.l) && decide (x.l ≤ (n : Int) - 1)) = b1 at c1 hx
    generalize (decide (0 ≤ x.r) && decide (x.r ≤ (n : Int) - 1)) = b2 at c2 hx
    rw [he] at h0
    have HX := Lib.hid hx
    have C1 := Lib.hid c1
    have C2 := Lib.hid c2
    clear hx c1 c2 he h
    cases b1
    · go_enter Try.func200, Try.ntmps200
      go_wp2_with fail
      refine (C1.out _).mono ?_; rintro e w' ⟨rfl, rfl⟩
      go_wp2_with fail
      go_ret
      exact ⟨ret_bool (by rw [HX.out]; simp), rfl⟩
    · go_enter Try.func200, Try.ntmps200
      go_wp2_with fail
      refine (C1.out _).mono ?_; rintro e w' ⟨rfl, rfl⟩
      go_wp2_with fail
      refine (C2.out _).mono ?_; rintro e w' ⟨rfl, rfl⟩
      go_wp2_with fail
      go_ret
      exact ⟨ret_bool (by rw [HX.out]; simp), rfl⟩
  · have hx : x.ok n = (decide (x.L.size = 1) && okL x.L.data.toList && (decide (x.l = 0) && decide (x.r = 0))) := by simp [Rl.ok, h]
    have c1 := fun W => specOk x.L W (by unfold maxLen; omega)
    have h3 := full_list h
    generalize okL x.L.data.toList = b1 at c1 hx
    have HX := Lib.hid hx
    have C1 := Lib.hid c1
    clear hx c1 h
    by_cases h1 : x.L.size = 1
    · have h4 : ((x.L.size : Int) == 1) = true := by rw [beq_iff_eq]; omega
      have H4 := Lib.hid h1
      clear h1
      cases b1
      all_goals
        go_enter Try.func200, Try.ntmps200
        go_wp2_with (go_at_call 125; refine (C1.out _).mono ?_; rintro e w' ⟨rfl, rfl⟩)
        all_goals (go_ret; refine ⟨ret_bool ?_, rfl⟩; rw [HX.out]; have h5 := H4.out; first | (simp; done) | (rw [Bool.eq_iff_iff]; simp; omega))
    · have h4 : ((x.L.size : Int) == 1) = false := by rw [beq_eq_false_iff_ne]; omega
      have H4 := Lib.hid h1
      clear h1
      go_enter Try.func200, Try.ntmps200
      go_wp2_with fail
      go_ret
      exact ⟨ret_bool (by rw [HX.out]; simp [H4.out]), rfl⟩
end Go.Proofs.Ytaffachjopjbgaa
namespace Go.Proofs.Ytaffachjopjbgaa
open Go.RowKit
open Wd
set_option linter.unusedVariables false

theorem add_next (x : Addr) (m j : Nat) (hj : 0 < j) : x.add (m + j) = ⟨(x.add m).block, (x.add m).off + j, none⟩ := by
  unfold Addr.add
  rw [if_neg (by omega)]
  split
  · subst_vars; simp
  · simp [Nat.add_assoc]

theorem szRule_any (x : Rl) (left : Int) (w : World) (hs : x.L.size ≤ maxLen) (h0 : 0 ≤ left) (h1 : left ≤ 1048576) :
    Calls Try.prog 150 #[agg3 x, .int .i64 left] w fun e w' => e = .returned (.int .i64 (if left - x.L.size < 0 then -1 else left - x.L.size)) ∧ Below w.heap.size w w' := by
  obtain ⟨L, l, r⟩ := x
  simp only at hs ⊢
  unfold maxLen at hs
  by_cases h : left - (L.size : Int) < 0
  all_goals
    go_enter Try.func150, Try.ntmps150
    go_wp2
    go_ret
    refine ⟨ret_int ?_, (Below.refl _ _).alloc (Nat.le_refl _) _⟩
    first | (rw [if_pos h]; done) | (rw [if_neg h]; done) | (rw [if_pos (by omega)]; done) | (rw [if_neg (by omega)]; done) | simp

set_option maxHeartbeats 800000 in
theorem szRuleS_any (A : Option Addr) (len cap : Nat) (gs : List Rl) (left : Int) (w : World) (hl : len ≤ maxLen) (h : InRules w A len gs) (h0 : 0 ≤ left) (h1 : left ≤ 1048576) :
    Calls Try.prog 77 #[.slice A len cap, .int .i64 left] w fun e w' => e = .returned (.int .i64 (purse left gs)) ∧ Below w.heap.size w w' := by
  unfold maxLen at hl
  obtain ⟨hlen, hin⟩ := h
  by_cases hbig : left - (len : Int) < 0
  · have hp := purse_no (left := left) (gs := gs) (by omega)
    have HP := Lib.hid hp
    clear hp hin hlen
    go_enter Try.func77, Try.ntmps77
    go_wp2
    go_ret
    exact ⟨ret_int HP.out.symm, Below.refl _ _⟩
  · have HI := Lib.hid hin
    have HLN := Lib.hid hlen
    clear hin hlen
    go_enter Try.func77, Try.ntmps77
    go_wp2
    go_loopw [1, 5] (fun p i wr => ∃ k : Nat, k ≤ len ∧ i = .int .i64 k ∧ p = .int .i64 (left - len - sumL (gs.take k)) ∧ 0 ≤ left - (len : Int) - sumL (gs.take k) ∧ Below w.heap.size w wr) (fun _ i _ => len - (intOf i).toNat)
    case atStart => exact ⟨0, Nat.zero_le _, rfl, by simp [sumL], by simp [sumL]; omega, Below.refl _ _⟩
    case round =>
      obtain ⟨k, hk, rfl, rfl, hpos, hB⟩ := hrel
      by_cases hlt : k < len
      · have hkg : k < gs.length := by rw [HLN.out]; exact hlt
        rcases HI.out with hn | ⟨x, rfl, hc⟩
        · rw [hn] at hkg; simp at hkg
        obtain ⟨⟨c0, c1, c2⟩, hsz⟩ := hc k hkg
        have d0 := (hB.cell (lt_of_cell c0)).trans c0
        have d1 := (hB.cell (lt_of_cell c1)).trans c1
        have d2 := (hB.cell (lt_of_cell c2)).trans c2
        clear c0 c1 c2 hc
        rw [add_next _ _ _ (by omega)] at d1 d2
        have hs := sumL_take gs k hkg
        have HZ := Lib.hid (fun W => szRule_any gs[k] (left - (len : Int) - sumL (gs.take k)) W hsz hpos (by omega))
        have HBD := Lib.hid (fun (h : left - (len : Int) - sumL (gs.take k) - gs[k].L.size < 0) => purse_bad (left := left) (gs := gs) hkg (by rw [HLN.out]; exact h))
        have HS := Lib.hid hs
        have HB := Lib.hid hB
        clear hs hsz hB
        by_cases hneg : left - (len : Int) - sumL (gs.take k) - gs[k].L.size < 0
        · have HN := Lib.hid hneg
          clear hneg
          go_wp2_with fail
          refine (HZ.out _).mono ?_; rintro e w' ⟨rfl, hB'⟩
          rw [if_pos HN.out]
          have HB' := Lib.hid hB'
          clear hB'
          go_wp2
          go_ret
          exact ⟨ret_int (HBD.out HN.out).symm, HB.out.trans (HB'.out.mono HB.out.size)⟩
        · have HN := Lib.hid hneg
          clear hneg
          go_wp2_with fail
          refine (HZ.out _).mono ?_; rintro e w' ⟨rfl, hB'⟩
          rw [if_neg (Int.not_lt.2 HN.out)]
          have HB' := Lib.hid hB'
          have hnn : 0 ≤ left - (len : Int) - sumL (gs.take k) - gs[k].L.size := by have := HN.out; omega
          clear hB'
          go_wp2
          go_roundw
          case rel => exact ⟨k + 1, by omega, by go_num, by rw [HS.out]; go_num, by rw [HS.out]; omega, HB.out.trans (HB'.out.mono HB.out.size)⟩
          case measure => simp [intOf]; omega
      · have hp : purse left gs = left - len - sumL (gs.take k) := by
          have hg := HLN.out
          rw [List.take_of_length_le (by omega)] at hpos ⊢
          rw [purse_ok (by omega), hg]
        have HP := Lib.hid hp
        clear hp
        go_wp2
        go_ret
        exact ⟨ret_int HP.out.symm, hB⟩

theorem szGrammar_any (A : Option Addr) (len cap : Nat) (gs : List Rl) (left : Int) (w : World) (hl : len ≤ maxLen) (h : InRules w A len gs) (h0 : 0 ≤ left) (h1 : left ≤ 1048576) :
    Calls Try.prog 18 #[.agg #[.slice A len cap], .int .i64 left] w fun e w' => e = .returned (.int .i64 (purse left gs)) ∧ Below w.heap.size w w' := by
  have HS := Lib.hid (fun W (hW : InRules W A len gs) => szRuleS_any A len cap gs left W hl hW h0 h1)
  have HI := Lib.hid h
  clear h
  by_cases hneg : purse left gs < 0
  all_goals
    have HN := Lib.hid hneg
    clear hneg
    go_enter Try.func18, Try.ntmps18
    go_wp2_with fail
    refine (HS.out _ (HI.out.kept ((Below.refl _ _).alloc (Nat.le_refl _) _))).mono ?_; rintro e w' ⟨rfl, hB⟩
  · have hp : purse left gs = -1 := by
      have := HN.out
      unfold purse at this ⊢
      split <;> simp_all <;> omega
    rw [hp]
    have HP := Lib.hid hp
    have HB := Lib.hid hB
    clear hp hB
    go_wp2
    go_ret
    exact ⟨ret_int HP.out.symm, ((Below.refl _ _).alloc (Nat.le_refl _) _).trans (HB.out.mono (by simp))⟩
  · have hp := HN.out
    have HB := Lib.hid hB
    clear hB
    go_wp2
    go_ret
    exact ⟨rfl, ((Below.refl _ _).alloc (Nat.le_refl _) _).trans (HB.out.mono (by simp))⟩
theorem purse_few {gs : List Rl} (h : ¬ purse 1048576 gs < 0) : gs.length + sumL gs ≤ 1048576 := by
  unfold purse at h
  split at h <;> omega
end Go.Proofs.Ytaffachjopjbgaa
namespace Go.Proofs.Ytaffachjopjbgaa
open Go.RowKit
open Wd
set_option linter.unusedVariables false

theorem Try.info_rule : (Try.prog.info? 127).map (fun i => (i.zero, i.size, i.bytes)) = some (some (.agg #[.string ⟨#[]⟩, .int .i64 0, .int .i64 0]), 3, 32) := by kernel_rfl

namespace Wd
def zr : Rl := ⟨⟨#[]⟩, 0, 0⟩
theorem rv_set (gs : List Rl) (k : Nat) (x : Rl) (h : k < gs.length) :
    (((rv gs).set (k * 3) (.string x.L)).set (k * 3 + 1) (.int .i64 x.l)).set (k * 3 + 2) (.int .i64 x.r) = rv (gs.set k x) := by
  induction gs generalizing k with
  | nil => simp at h
  | cons y gs ih =>
    cases k with
    | zero => rfl
    | succ k =>
      have h1 := ih k (by simpa using h)
      have e : rv (y :: gs) = .string y.L :: .int .i64 y.l :: .int .i64 y.r :: rv gs := rfl
      have e2 : rv ((y :: gs).set (k + 1) x) = .string y.L :: .int .i64 y.l :: .int .i64 y.r :: rv (gs.set k x) := rfl
      rw [e, e2, ← h1, show (k + 1) * 3 = k * 3 + 1 + 1 + 1 from by omega, show k * 3 + 1 + 1 + 1 + 1 = k * 3 + 1 + 1 + 1 + 1 from rfl, show k * 3 + 1 + 1 + 1 + 2 = k * 3 + 2 + 1 + 1 + 1 from by omega]
      simp only [List.set_cons_succ]
/-- the first k rules, and zeros behind them -/
def outK (gs : List Rl) (k : Nat) : List Rl := gs.take k ++ List.replicate (gs.length - k) zr
theorem outK_len (gs : List Rl) (k : Nat) (h : k ≤ gs.length) : (outK gs k).length = gs.length := by simp [outK]; omega
theorem outK_set (gs : List Rl) (k : Nat) (h : k < gs.length) : (outK gs k).set k gs[k] = outK gs (k + 1) := by
  unfold outK
  have h1 : (gs.take k).length = k := by simp; omega
  rw [List.set_append_right _ _ (by omega), h1, Nat.sub_self, show gs.length - k = (gs.length - (k + 1)) + 1 from by omega, List.replicate_succ, List.set_cons_zero, List.take_succ_eq_append_getElem h, List.append_assoc]
  rfl
theorem outK_zero (gs : List Rl) : outK gs 0 = List.replicate gs.length zr := by simp [outK]
theorem outK_all (gs : List Rl) : outK gs gs.length = gs := by simp [outK]
theorem outK_get (gs : List Rl) (k : Nat) (h : k < gs.length) : (outK gs k)[k]? = some zr := by
  have h1 : (gs.take k).length = k := by simp; omega
  rw [outK, List.getElem?_append_right (by omega), h1, Nat.sub_self, List.getElem?_replicate, if_pos (by omega)]
theorem made_zr (n : Nat) : (madeCells #[.string ⟨#[]⟩, .int .i64 0, .int .i64 0] (n * 3)).toList = rv (List.replicate n zr) := by
  apply List.ext_getElem
  · rw [rv_len]; simp [madeCells]
  · intro i h1 h2
    have hi : i < n * 3 := by simpa [madeCells] using h1
    have hk : i / 3 < n := by omega
    have h3 := rv_get (List.replicate n zr) (i / 3) (by simpa using hk) (i % 3) (by omega)
    rw [show i / 3 * 3 + i % 3 = i from by omega, List.getElem?_eq_getElem h2] at h3
    rw [List.getElem_replicate, show rc zr = [Value.string ⟨#[]⟩, .int .i64 0, .int .i64 0] from rfl] at h3
    have h4 : (madeCells #[.string ⟨#[]⟩, .int .i64 0, .int .i64 0] (n * 3)).toList[i] = (#[.string ⟨#[]⟩, .int .i64 0, .int .i64 0] : Array Value)[i % 3]! := by simp [madeCells]
    rw [h4]
    have h5 : i % 3 = 0 ∨ i % 3 = 1 ∨ i % 3 = 2 := by omega
    rcases h5 with h5 | h5 | h5 <;> rw [h5] at h3 ⊢ <;> simpa using h3.symm
end Wd

/-- rules of the call's own -/
abbrev OwnsR (w : World) (B : Nat) (v : Value) (gs : List Rl) : Prop := w.ownsRow B 127 3 v gs.length (rv gs)
theorem own_below {w w' : World} {B C e s n : Nat} {v : Value} {xs : List Value} (h : w.ownsRow B e s v n xs) (hb : Below C w w') (hC : w.heap.size ≤ C) : w'.ownsRow B e s v n xs :=
  World.ownsRow.kept h (row := none) ⟨hb.os, hb.tape, hb.output, hb.size, fun k hk _ => hb.block k (by omega)⟩ (by cases hv : v.ownBlock <;> simp)
theorem own_slice {w : World} {B e s n : Nat} {v : Value} {xs : List Value} (h : w.ownsRow B e s v n xs) : ∃ A c, v = .slice A n c := by
  rcases h.2 with ⟨rfl, h0⟩ | ⟨g, cap, cur, rfl, _⟩
  · exact ⟨none, 0, by rw [h0]⟩
  · exact ⟨_, _, rfl⟩
theorem only_setCell {a w : World} {g : Nat} (h : a.grownBy w (some g)) {p : Addr} (hp : p.block = g ∨ a.heap.size ≤ p.block) (u : Value) : a.grownBy (w.setCell p u) (some g) :=
  ⟨h.os, h.tape, h.output, by simpa [World.setCell] using h.size, fun i hi hne => (Below.heap_setCell w p u i (by
    rintro rfl
    rcases hp with hp | hp
    · exact hne (by rw [hp])
    · omega)).trans (h.block i hi hne)⟩
theorem own_setLow {w : World} {B e s n : Nat} {v : Value} {xs : List Value} (h : w.ownsRow B e s v n xs) (p : Addr) (u : Value) (hp : p.block < B) : (w.setCell p u).ownsRow B e s v n xs :=
  World.ownsRow.kept h (only_setCell (World.grownBy.refl w (some p.block)) (.inl rfl) u) (by
    cases hv : v.ownBlock with
    | none => simp
    | some g => refine .inr fun hg => ?_; have := (h.lt g hv).1; injection hg with hg; omega)
theorem own_lower {w : World} {B C e s n : Nat} {v : Value} {xs : List Value} (h : w.ownsRow B e s v n xs) (hC : C ≤ B) : w.ownsRow C e s v n xs := by
  refine ⟨h.1, ?_⟩
  rcases h.2 with h' | ⟨g, cap, cur, h1, hb, rest⟩
  · exact .inl h'
  · exact .inr ⟨g, cap, cur, h1, by omega, rest⟩
theorem below_of_grown {w w' : World} (h : w.grownBy w' none) : Below w.heap.size w w' := (Below.refl _ w).grown h (Nat.le_refl _) (by intro k h; cases h)

theorem own_set3 {w : World} {C e B n c : Nat} {gs : List Rl} (h : w.ownsRow C e 3 (.slice (some ⟨B, 0, none⟩) n c) n (rv gs)) (k : Nat) (hk : k < gs.length) (x : Rl) :
    (((w.setCell ⟨B, k * 3, none⟩ (.string x.L)).setCell ⟨B, k * 3 + 1, none⟩ (.int .i64 x.l)).setCell ⟨B, k * 3 + 2, none⟩ (.int .i64 x.r)).ownsRow C e 3 (.slice (some ⟨B, 0, none⟩) n c) n (rv (gs.set k x)) := by
  have h1 := (((h.stored (k * 3) (.string x.L)).1.stored (k * 3 + 1) (.int .i64 x.l)).1.stored (k * 3 + 2) (.int .i64 x.r)).1
  rw [rv_set gs k x hk] at h1
  exact h1
theorem toRule_any (x : Rl) (w : World) : Calls Try.prog 154 #[agg3 x] w fun e w' => e = .returned (agg3 x) ∧ Below w.heap.size w w' := by
  obtain ⟨L, l, r⟩ := x
  go_enter Try.func154, Try.ntmps154
  go_wp2
  refine bodyPost_ret (v := .agg #[.string L, .int .i64 l, .int .i64 r]) (by simp [results, Try.results154, go_sem]) rfl ⟨rfl, ?_⟩
  exact (((Below.refl _ _).alloc (Nat.le_refl _) _).alloc (by simp) _).alloc (by simp; omega) _

set_option maxRecDepth 100000 in
set_option maxHeartbeats 1600000 in
theorem toRuleS_any (A : Option Addr) (len cap : Nat) (gs : List Rl) (w : World) (hl : len ≤ 1048576) (h : InRules w A len gs) :
    Calls Try.prog 85 #[.slice A len cap] w fun e w' => ∃ v, e = .returned v ∧ OwnsR w' w.heap.size v gs ∧ Below w.heap.size w w' := by
  obtain ⟨i0, hi, hz0, hz1, hz2⟩ := info_parts Try.info_rule
  obtain ⟨hlen, hin⟩ := h
  have HI := Lib.hid hin
  have HLN := Lib.hid hlen
  clear hin hlen
  go_enter Try.func85, Try.ntmps85
  go_wp2_with (refine wpList_make_full _ rfl _ _ 35 rfl w.heap.size 127 i0 (.agg #[.string ⟨#[]⟩, .int .i64 0, .int .i64 0]) 3 Try.underlying35 hi hz0 hz1 .i64 .i64 _ _ len rfl rfl rfl rfl (by rw [hz2]; omega) (by unfold maxLen; omega) (Nat.le_refl _) ?_)
  intro w1 hown hg
  have hB1 := below_of_grown hg
  rw [made_zr, show List.replicate len zr = outK gs 0 from by rw [outK_zero, HLN.out]] at hown
  obtain ⟨B, hBe⟩ : ∃ B, B = w.heap.size := ⟨_, rfl⟩
  rw [← hBe] at hown ⊢
  have HBE := Lib.hid hBe
  clear hg hBe
  go_wp2
  go_loopw [4] (fun i wr => ∃ k : Nat, k ≤ len ∧ i = .int .i64 k ∧ wr.ownsRow B 127 3 (.slice (some ⟨B, 0, none⟩) len len) len (rv (outK gs k)) ∧ Below w.heap.size w wr) (fun i _ => len - (intOf i).toNat)
  case atStart => exact ⟨0, Nat.zero_le _, rfl, hown, hB1⟩
  case round =>
    obtain ⟨k, hk, rfl, hown, hB⟩ := hrel
    by_cases hlt : k < len
    · have hkg : k < gs.length := by rw [HLN.out]; exact hlt
      rcases HI.out with hn | ⟨x, rfl, hc⟩
      · rw [hn] at hkg; simp at hkg
      obtain ⟨⟨c0, c1, c2⟩, hsz⟩ := hc k hkg
      have d0 := (hB.cell (lt_of_cell c0)).trans c0
      have d1 := (hB.cell (lt_of_cell c1)).trans c1
      have d2 := (hB.cell (lt_of_cell c2)).trans c2
      rw [add_next _ _ _ (by omega)] at d1 d2
      clear c0 c1 c2 hc hsz
      go_wp2_with fail
      refine (toRule_any gs[k] _).mono ?_; rintro e w' ⟨rfl, hB'⟩
      have hown' := own_below hown hB' (Nat.le_refl _)
      have hB2 := hB.trans (hB'.mono hB.size)
      have hkl : k < (outK gs k).length := by rw [outK_len _ _ (by omega)]; exact hkg
      have hz : (outK gs k)[k] = zr := by have := outK_get gs k hkg; rw [List.getElem?_eq_getElem hkl] at this; simpa using this
      have e0 : w'.cell? ⟨B, k * 3, none⟩ = some (.string ⟨#[]⟩) := by rw [hown'.cellAt (k * 3) (by omega)]; have := rv_get _ k hkl 0 (by omega); rw [hz] at this; exact this
      have e1 : w'.cell? ⟨B, k * 3 + 1, none⟩ = some (.int .i64 0) := by rw [hown'.cellAt (k * 3 + 1) (by omega)]; have := rv_get _ k hkl 1 (by omega); rw [hz] at this; exact this
      have e2 : w'.cell? ⟨B, k * 3 + 2, none⟩ = some (.int .i64 0) := by rw [hown'.cellAt (k * 3 + 2) (by omega)]; have := rv_get _ k hkl 2 (by omega); rw [hz] at this; exact this
      have f0 : w'.frozen? ⟨B, k * 3, none⟩ = false := hown'.frozenAt _
      have f1 : w'.frozen? ⟨B, k * 3 + 1, none⟩ = false := hown'.frozenAt _
      have f2 : w'.frozen? ⟨B, k * 3 + 2, none⟩ = false := hown'.frozenAt _
      have HO := Lib.hid hown'
      clear hown hown' hz hkl
      go_wp2
      go_roundw
      case rel =>
        refine ⟨k + 1, by omega, by go_num, ?_, ((hB2.setCell (by rw [HBE.out]; exact Nat.le_refl _) _).setCell (by rw [HBE.out]; exact Nat.le_refl _) _).setCell (by rw [HBE.out]; exact Nat.le_refl _) _⟩
        rw [← outK_set gs k hkg]
        exact own_set3 HO.out k (by rw [outK_len _ _ (by omega)]; exact hkg) _
      case measure => simp [intOf]; omega
    · have hown' : OwnsR wr w.heap.size (.slice (some ⟨B, 0, none⟩) len len) gs := by
        have hg := HLN.out
        rw [show k = gs.length from by omega, outK_all, HBE.out] at hown
        unfold OwnsR
        rw [hg, HBE.out]
        exact hown
      have HO := Lib.hid hown'
      clear hown hown'
      go_wp2
      go_ret
      exact ⟨_, rfl, HO.out, hB⟩

set_option maxHeartbeats 800000 in
theorem toGrammar_any (A : Option Addr) (len cap : Nat) (gs : List Rl) (w : World) (hl : len ≤ 1048576) (h : InRules w A len gs) :
    Calls Try.prog 21 #[.agg #[.slice A len cap]] w fun e w' => ∃ v, e = .returned (.agg #[v]) ∧ OwnsR w' w.heap.size v gs ∧ Below w.heap.size w w' := by
  have HS := Lib.hid (fun W (hW : InRules W A len gs) => toRuleS_any A len cap gs W hl hW)
  have HI := Lib.hid h
  clear h
  go_enter Try.func21, Try.ntmps21
  go_wp2_with fail
  have hin := HI.out.kept ((((Below.refl _ w).alloc (Nat.le_refl _) (.cells #[.slice A len cap] 28)).alloc (by simp) (.cells #[.slice none 0 0] 37)).alloc (by simp; omega) (.cells #[.slice none 0 0] 37))
  refine (HS.out _ hin).mono ?_
  clear hin
  rintro e w' ⟨v, rfl, ho, hB⟩
  obtain ⟨A', c', rfl⟩ := own_slice ho
  have hz : w.heap.size + 1 + 1 < w'.heap.size := by have := hB.size; simp at this; omega
  have HO := Lib.hid ho
  obtain ⟨hc, hf⟩ : (∀ b o, b < w.heap.size + 3 → w'.cell? ⟨b, o, none⟩ = _) ∧ (∀ b o, b < w.heap.size + 3 → w'.frozen? ⟨b, o, none⟩ = _) := ⟨fun b o h => hB.cell (p := ⟨b, o, none⟩) (by simpa using h), fun b o h => hB.frozen (p := ⟨b, o, none⟩) (by simpa using h)⟩
  have HB := Lib.hid hB
  clear ho hB
  go_wp2
  refine bodyPost_ret (v := .agg #[.slice A' gs.length c']) (by simp [results, Try.results21, go_sem, hc]) rfl ⟨_, rfl, ?_, ?_⟩
  · have h1 := own_setLow (own_setLow HO.out ⟨w.heap.size + 1 + 1, 0, none⟩ (.slice A' gs.length c') (by simp)) ⟨w.heap.size + 1, 0, none⟩ (.slice A' gs.length c') (by simp)
    exact own_lower h1 (by simp; omega)
  · have h1 : Below w.heap.size w w' := ((((Below.refl _ w).alloc (Nat.le_refl _) _).alloc (by simp) _).alloc (by simp; omega) _).trans (HB.out.mono (by simp; omega))
    exact (h1.setCell (by simp; omega) _).setCell (by simp) _
end Go.Proofs.Ytaffachjopjbgaa
namespace Go.Proofs.Ytaffachjopjbgaa
open Go.ChangeShapes Go.WideShapes Go.Deep Go.Joins Go.RowKit
open Wd
set_option linter.unusedVariables false

section
variable {H : Type} {enc : TypeId × Value → H} {P : Program} {w : World} {base : Nat} {spare : Nat → Bool} {held : Bool}
theorem open_slice_fields {t e : TypeId} {fs : Array Field} {fuel : Nat} {cs : List Value} {x : DataW H × List MemPlace} (ht : P.underlying t = some (.slice e)) (he : P.underlying e = some (.struct fs))
    (hone : oneCellFields P fs = true) (hC : P.cellsOf e = fs.size) (h : DataW.trod enc P w base spare held fuel t cs = some x) :
    (cs = [.slice none 0 0] ∧ x = (.nil, [])) ∨
    ∃ (a : Addr) (len cap m : Nat) (D : Nat → DataW H) (Pl : Nat → List MemPlace), cs = [.slice (some a) len cap] ∧ base ≤ a.block ∧ len ≤ cap ∧ cap ≤ maxLen ∧ m = (if spare a.block then cap else len) ∧
      x = (.slice ((List.range len).map D) ((List.range (m - len)).map fun j => D (len + j)), MemPlace.row a (m * fs.size) ++ (List.range m).flatMap Pl) ∧
      ∀ i, i < m → ∃ (ys : List (DataW H × List MemPlace)) (n : Nat), D i = .agg (ys.map (·.1)) ∧ Pl i = ys.flatMap (·.2) ∧ ys.length = fs.size ∧
        ∀ (j : Nat) (f : Field), fs[j]? = some f → ∃ (v : Value) (y : DataW H × List MemPlace), w.cell? (a.add (i * fs.size + j)) = some v ∧ ys[j]? = some y ∧ DataW.trod enc P w base spare held n f.type [v] = some y := by
  rcases open_slice ht h with h0 | ⟨a, len, cap, m, n, D, Pl, hcs, hb, hl, hm, hmm, hx, hi⟩
  · exact .inl h0
  · refine .inr ⟨a, len, cap, m, D, Pl, hcs, hb, hl, hm, hmm, by rw [hC] at hx; exact hx, fun i him => ?_⟩
    obtain ⟨cs', hc, ht'⟩ := hi i him
    rw [hC] at hc
    obtain ⟨ys, n', hn', hy, hlen, hyl, hf⟩ := DataW.trod_struct he ht'
    obtain ⟨_, hcl, hat⟩ := World.cells?_some hc
    simp only [Prod.mk.injEq] at hy
    refine ⟨ys, n', hy.1, hy.2, hyl, fun j f hj => ?_⟩
    obtain ⟨ho, hk⟩ := hone_of hone j f hj
    have hjl : j < fs.size := (Array.getElem?_eq_some_iff.1 hj).1
    have hcell := hat j hjl
    have hv : cs'[j]? = some (cs'[j]'(by omega)) := List.getElem?_eq_getElem (by omega)
    have h1 := hf j f hj
    rw [ho, hk] at h1
    have hone' : (cs'.drop j).take 1 = [cs'[j]'(by omega)] := by
      rw [List.drop_eq_getElem_cons (by omega)]
      rfl
    rw [hone'] at h1
    have hys : ys[j]? = some (ys[j]'(by omega)) := List.getElem?_eq_getElem (by omega)
    refine ⟨_, _, ?_, hys, h1.trans hys⟩
    rw [← Go.Deep.add_add, hcell, hv]
end

section
variable {H : Type} {enc : TypeId × Value → H} {w : World} {base b0 : Nat} {r : Reach} {spare : Nat → Bool} {held : Bool}
set_option maxRecDepth 100000 in
theorem open_gram {v : Value} {d : DataW H} {p : List MemPlace} (hv : Value.okWide Try.prog w r b0 28 v) (h : DataW.Trod enc Try.prog w base spare held 28 v d p) :
    ∃ A n0 cap gs, v = .agg #[.slice A n0 cap] ∧ n0 ≤ maxLen ∧ InRules w A n0 gs := by
  obtain ⟨cs, rfl, hsz⟩ := okWide_struct Try.underlying28 hv
  have hC : Try.prog.cellsOf 28 = 1 := by kernel_rfl
  obtain ⟨l⟩ := cs
  match l, hsz.trans hC with
  | [c0], _ =>
    obtain ⟨fuel, hf⟩ := h
    obtain ⟨xs, n, _, hx, _, hlen, hg⟩ := DataW.trod_struct Try.underlying28 hf
    have h0 : DataW.trod enc Try.prog w base spare held n 26 ((((Value.agg ⟨[c0]⟩).cells.toList).drop 0).take (Try.prog.cellsOf 26)) = xs[0]? := hg 0 _ rfl
    have hC2 : Try.prog.cellsOf 26 = 1 := by kernel_rfl
    rw [hC2] at h0
    match xs, hlen with
    | [x0], _ =>
      have h0 : DataW.trod enc Try.prog w base spare held n 26 [c0] = some x0 := by simpa [Value.cells] using h0
      rcases open_slice_fields Try.underlying26 Try.underlying188 (by kernel_rfl) (by kernel_rfl) h0 with ⟨hc, _⟩ | ⟨a, len, cap, m, D, Pl, hc, _, hl, hm, hmm, _, hi⟩
      · injection hc with hc
        subst hc
        exact ⟨none, 0, 0, [], rfl, by unfold maxLen; omega, rfl, .inl rfl⟩
      · injection hc with hc
        subst hc
        have hlm : len ≤ m := by rw [hmm]; split <;> omega
        have hrow : ∀ i, i < len → ∃ x : Rl, (w.cell? (a.add (i * 3)) = some (.string x.L) ∧ w.cell? (a.add (i * 3 + 1)) = some (.int .i64 x.l) ∧ w.cell? (a.add (i * 3 + 2)) = some (.int .i64 x.r)) ∧ x.L.size ≤ maxLen := by
          intro i him
          obtain ⟨ys, n', _, _, hyl, hfs⟩ := hi i (by omega)
          obtain ⟨v0, y0, hc0, _, ht0⟩ := hfs 0 _ rfl
          obtain ⟨v1, y1, hc1, _, ht1⟩ := hfs 1 _ rfl
          obtain ⟨v2, y2, hc2, _, ht2⟩ := hfs 2 _ rfl
          obtain ⟨s, e0, _, hs⟩ := DataW.trod_string Try.underlying9 ht0
          obtain ⟨n1, e1, _, _⟩ := DataW.trod_int Try.underlying2 ht1
          obtain ⟨n2, e2, _, _⟩ := DataW.trod_int Try.underlying2 ht2
          injection e0 with e0
          injection e1 with e1
          injection e2 with e2
          subst e0 e1 e2
          exact ⟨⟨s, n1, n2⟩, ⟨hc0, hc1, hc2⟩, hs⟩
        refine ⟨some a, len, cap, (List.range len).map fun i => if hh : i < len then Classical.choose (hrow i hh) else ⟨⟨#[]⟩, 0, 0⟩, rfl, by omega, by simp, ?_⟩
        refine .inr ⟨a, rfl, fun i hh => ?_⟩
        have hil : i < len := by simpa using hh
        simp only [List.getElem_map, List.getElem_range, hil, dite_true]
        exact Classical.choose_spec (hrow i hil)
end
end Go.Proofs.Ytaffachjopjbgaa
namespace Go.Proofs.Ytaffachjopjbgaa
open Go.RowKit
open Wd
set_option linter.unusedVariables false

theorem eqRule_same (x : Rl) (w : World) : Calls Try.prog 158 #[agg3 x, agg3 x] w fun e w' => e = .returned (.bool true) ∧ Below w.heap.size w w' := by
  obtain ⟨L, l, r⟩ := x
  go_enter Try.func158, Try.ntmps158
  go_wp2
  go_ret
  exact ⟨rfl, ((Below.refl _ _).alloc (Nat.le_refl _) _).alloc (by simp) _⟩

set_option maxRecDepth 100000 in
set_option maxHeartbeats 1600000 in
theorem eqRuleS_same (u v : Value) (gs : List Rl) (w : World) (hn : gs.length ≤ 1048576) (h1 : Rules w u gs) (h2 : Rules w v gs) :
    Calls Try.prog 92 #[u, v] w fun e w' => e = .returned (.bool true) ∧ Below w.heap.size w w' := by
  obtain ⟨A1, c1, rfl, h1⟩ := h1
  obtain ⟨A2, c2, rfl, h2⟩ := h2
  obtain ⟨n, hng⟩ : ∃ n, n = gs.length := ⟨_, rfl⟩
  rw [← hng] at hn ⊢
  have HN := Lib.hid hng
  have H1 := Lib.hid h1
  have H2 := Lib.hid h2
  clear h1 h2 hng
  go_enter Try.func92, Try.ntmps92
  go_wp2
  go_loopw [5] (fun i wr => ∃ k : Nat, k ≤ n ∧ i = .int .i64 k ∧ Below w.heap.size w wr) (fun i _ => n - (intOf i).toNat)
  case atStart => exact ⟨0, Nat.zero_le _, rfl, Below.refl _ _⟩
  case round =>
    obtain ⟨k, hk, rfl, hB⟩ := hrel
    by_cases hlt : k < n
    · have hkg : k < gs.length := by rw [← HN.out]; exact hlt
      rcases H1.out with hn | ⟨g1, rfl, hg1, hc1⟩
      · rw [hn] at hkg; simp at hkg
      rcases H2.out with hn | ⟨g2, rfl, hg2, hc2⟩
      · rw [hn] at hkg; simp at hkg
      obtain ⟨a0, a1, a2⟩ := rules_cells hc1 hkg
      obtain ⟨b0, b1, b2⟩ := rules_cells hc2 hkg
      rw [← hB.cell (p := ⟨g1, k * 3, none⟩) hg1] at a0
      rw [← hB.cell (p := ⟨g1, k * 3 + 1, none⟩) hg1] at a1
      rw [← hB.cell (p := ⟨g1, k * 3 + 2, none⟩) hg1] at a2
      rw [← hB.cell (p := ⟨g2, k * 3, none⟩) hg2] at b0
      rw [← hB.cell (p := ⟨g2, k * 3 + 1, none⟩) hg2] at b1
      rw [← hB.cell (p := ⟨g2, k * 3 + 2, none⟩) hg2] at b2
      have HQ := Lib.hid (fun W => eqRule_same gs[k] W)
      clear hc1 hc2 hg1 hg2
      have HB := Lib.hid hB
      clear hB
      go_wp2
      go_still_tail 8, (by kernel_rfl)
      change wpList _ _ _ _ _ wr.drew
      have hB2 : Below w.heap.size w wr.drew := HB.out.drew
      generalize wr.drew = w2 at hB2 ⊢
      clear HB a0 a1 a2 b0 b1 b2
      have HB2 := Lib.hid hB2
      clear hB2
      go_wp2_with fail
      refine (HQ.out _).mono ?_; rintro e w' ⟨rfl, hB'⟩
      have hB3 := HB2.out.trans (hB'.mono HB2.out.size)
      clear hB'
      go_wp2
      go_roundw
      case rel => exact ⟨k + 1, by omega, by go_num, hB3⟩
      case measure => simp [intOf]; omega
    · go_wp2
      go_ret
      exact ⟨rfl, hB⟩
/-- laws.eqGrammar -/
theorem eqGrammar_same (u v : Value) (gs : List Rl) (w : World) (hn : gs.length ≤ 1048576) (h1 : Rules w u gs) (h2 : Rules w v gs) :
    Calls Try.prog 24 #[.agg #[u], .agg #[v]] w fun e w' => e = .returned (.bool true) ∧ Below w.heap.size w w' := by
  have hB0 : Below w.heap.size w ((w.alloc (.cells #[u] 37)).alloc (.cells #[v] 37)) := ((Below.refl _ w).alloc (Nat.le_refl _) _).alloc (by simp) _
  have hk1 := h1.kept hB0
  have hk2 := h2.kept hB0
  have HC := Lib.hid (eqRuleS_same u v gs _ hn hk1 hk2)
  clear hk1 hk2
  obtain ⟨A1, c1, rfl, h1⟩ := h1
  obtain ⟨A2, c2, rfl, h2⟩ := h2
  have HB := Lib.hid hB0
  clear h1 h2 hB0
  go_enter Try.func24, Try.ntmps24
  go_wp2_with fail
  refine HC.out.mono ?_; rintro e w' ⟨rfl, hB'⟩
  have hB3 := HB.out.trans (hB'.mono (by simp; omega))
  clear hB'
  go_wp2
  go_ret
  exact ⟨rfl, hB3⟩
end Go.Proofs.Ytaffachjopjbgaa
namespace Go.Proofs.Ytaffachjopjbgaa
open Go.RowKit
open Wd
set_option linter.unusedVariables false

namespace Wd
/-- numbers as cells -/
def iv (l : List Int) : List Value := l.map fun c => Value.int .i64 c
theorem iv_len (l : List Int) : (iv l).length = l.length := by simp [iv]
theorem iv_app (l m : List Int) : iv (l ++ m) = iv l ++ iv m := by simp [iv]
theorem iv_get (l : List Int) (j : Nat) (h : j < l.length) : (iv l)[j]? = some (.int .i64 l[j]) := by simp [iv, h]
/-- k, k + 1, .. -/
def marks (k : Int) (n : Nat) : List Int := (List.range n).map fun (j : Nat) => k + (j : Int)
theorem marks_len (k : Int) (n : Nat) : (marks k n).length = n := by simp [marks]
theorem marks_snoc (k : Int) (n : Nat) : marks k (n + 1) = marks k n ++ [k + n] := by simp [marks, List.range_succ]
theorem marks_get (k : Int) (n j : Nat) (h : j < n) : (marks k n)[j]? = some (k + j) := by simp [marks, h]
theorem iv_set (k : Int) (zs : List Int) (j : Nat) (h : j < zs.length) :
    (iv (marks k j ++ zs.drop j)).set j (.int .i64 (k + j)) = iv (marks k (j + 1) ++ zs.drop (j + 1)) := by
  have e1 : zs.drop j = zs[j] :: zs.drop (j + 1) := List.drop_eq_getElem_cons h
  rw [e1, marks_snoc]
  generalize zs.drop (j + 1) = d
  have e2 : (iv (marks k j)).length = j := by rw [iv_len, marks_len]
  rw [iv_app, iv_app, iv_app]
  generalize iv (marks k j) = A at e2
  subst e2
  simp [iv]
end Wd

/-- a row of int64 of the call's own -/
abbrev OwnsI (w : World) (B : Nat) (v : Value) (zs : List Int) : Prop := w.ownsRow B 2 1 v zs.length (iv zs)

theorem OwnsI.cell {w : World} {B g cap : Nat} {zs : List Int} (h : OwnsI w B (.slice (some ⟨g, 0, none⟩) zs.length cap) zs) (j : Nat) (hj : j < zs.length) : w.cell? ⟨g, j, none⟩ = some (.int .i64 zs[j]) := by
  rw [h.cellAt j (by omega), iv_get zs j hj]

/-- its shape: nil and empty, or at the head of a block -/
theorem OwnsI.shape {w : World} {B : Nat} {v : Value} {zs : List Int} (h : OwnsI w B v zs) :
    (v = .slice none 0 0 ∧ zs = []) ∨ ∃ g cap, v = .slice (some ⟨g, 0, none⟩) zs.length cap ∧ B ≤ g ∧ g < w.heap.size := by
  rcases h.2 with ⟨rfl, h0⟩ | ⟨g, cap, cur, rfl, hb, hg, _⟩
  · exact .inl ⟨rfl, List.eq_nil_of_length_eq_zero h0⟩
  · exact .inr ⟨g, cap, rfl, hb, (Array.getElem?_eq_some_iff.1 hg).1⟩

theorem OwnsI.below {w w' : World} {B C : Nat} {v : Value} {zs : List Int} (h : OwnsI w B v zs) (hb : Below C w w') (hC : w.heap.size ≤ C) : OwnsI w' B v zs :=
  World.ownsRow.kept h (row := none) ⟨hb.os, hb.tape, hb.output, hb.size, fun k hk _ => hb.block k (by omega)⟩ (by cases hv : v.ownBlock <;> simp)

theorem OwnsI.drawn {w w' : World} {B : Nat} {v : Value} {zs : List Int} (h : OwnsI w B v zs) (hd : Drawn w w') : OwnsI w' B v zs := by
  obtain ⟨n, rfl⟩ := hd; exact h

theorem OwnsI.lower {w : World} {B C : Nat} {v : Value} {zs : List Int} (h : OwnsI w B v zs) (hC : C ≤ B) : OwnsI w C v zs := by
  refine ⟨h.1, ?_⟩
  rcases h.2 with h' | ⟨g, cap, cur, h1, hb, rest⟩
  · exact .inl h'
  · exact .inr ⟨g, cap, cur, h1, by omega, rest⟩
end Go.Proofs.Ytaffachjopjbgaa
namespace Go.Proofs.Ytaffachjopjbgaa
open Go.RowKit
open Wd
set_option linter.unusedVariables false

theorem Try.info_i64 : (Try.prog.info? 2).map (fun i => (i.zero, i.size, i.bytes)) = some (some (.int .i64 0), 1, 8) := by kernel_rfl

namespace Wd
/-- not too much in all -/
def FewR (gs : List Rl) : Prop := gs.length + sumL gs ≤ 1048576
theorem FewR.len {gs : List Rl} (h : FewR gs) : gs.length ≤ 1048576 := by unfold FewR at h; omega
theorem FewR.at_ {gs : List Rl} (h : FewR gs) (k : Nat) (hk : k < gs.length) : gs[k].L.size ≤ maxLen := by
  have := sumL_at gs k hk
  unfold FewR at h; unfold maxLen; omega
/-- a grammar behind a pointer -/
def GP (w : World) (p : Nat) (gs : List Rl) : Prop := ∃ v, w.cell? ⟨p, 0, none⟩ = some v ∧ Rules w v gs
theorem GP.kept {w w' : World} {p : Nat} {gs : List Rl} (h : GP w p gs) (hb : Below w.heap.size w w') : GP w' p gs := by
  obtain ⟨v, h1, h2⟩ := h
  exact ⟨v, (hb.cell (p := ⟨p, 0, none⟩) (lt_of_cell h1)).trans h1, h2.kept hb⟩
end Wd
theorem own_drewN {w : World} {B e s n : Nat} {v : Value} {xs : List Value} (h : w.ownsRow B e s v n xs) (m : Nat) : (w.drewN m).ownsRow B e s v n xs := h
/-- what comes back of the lengths -/
def SizesPost (gs : List Rl) (w : World) (e : Ending) (w' : World) : Prop :=
  ∃ x, e = .returned (.tuple #[x, .bool (fits gs && small gs)]) ∧ ((fits gs && small gs) = true → OwnsI w' w.heap.size x (lens gs)) ∧ Below w.heap.size w w'

theorem sizes_no {gs : List Rl} {w w' : World} {x : Value} (h : (fits gs && small gs) = false) (hB : Below w.heap.size w w') : SizesPost gs w (.returned (.tuple #[x, .bool false])) w' :=
  ⟨x, by rw [h], fun h' => by (rw [h] at h'; cases h'), hB⟩
theorem sizes_yes {gs : List Rl} {w w' : World} {x : Value} (h : (fits gs && small gs) = true) (ho : OwnsI w' w.heap.size x (lens gs)) (hB : Below w.heap.size w w') : SizesPost gs w (.returned (.tuple #[x, .bool true])) w' :=
  ⟨x, by rw [h], fun _ => ho, hB⟩

/-- what holds between two rounds -/
def SzRel (gs : List Rl) (w : World) (out i : Value) (wr : World) : Prop :=
  ∃ k : Nat, k ≤ gs.length ∧ i = .int .i64 k ∧ wr.ownsRow w.heap.size 2 1 out k (iv (lens (gs.take k))) ∧ Below w.heap.size w wr ∧ UpTo gs k
theorem szRel_start (gs : List Rl) (w : World) : SzRel gs w (.slice (some ⟨w.heap.size, 0, none⟩) 0 0) (.int .i64 0) (w.alloc (.cells #[] 2)) :=
  ⟨0, Nat.zero_le _, rfl, World.ownsRow_lit w #[] 0 (Nat.le_refl _) (by decide) rfl, (Below.refl _ _).alloc (Nat.le_refl _) _, upTo_zero _⟩
theorem szRel_step {gs : List Rl} {w wr w1 : World} {k : Nat} {out out' : Value} {o : Obj} (hk : k < gs.length) (hown : wr.ownsRow w.heap.size 2 1 out k (iv (lens (gs.take k)))) (hB : Below w.heap.size w wr)
    (hu : UpTo gs k) (h1 : gs[k].ok k = true) (h2 : (lens gs).getD k 0 ≤ 1000000000000000)
    (hown' : w1.ownsRow w.heap.size 2 1 out' (k + 1) (iv (lens (gs.take k)) ++ [.int .i64 ((lens gs).getD k 0)])) (hgrow : (wr.alloc o).grownBy w1 out.ownBlock) : SzRel gs w out' (.int .i64 ((k + 1 : Nat) : Int)) w1 := by
  have hsz := hB.size
  refine ⟨k + 1, hk, rfl, ?_, (hB.alloc hsz o).grown hgrow (by simp; omega) (fun q hq => (hown.lt q hq).1), upTo_succ hu hk h1 h2⟩
  rw [lens_snoc hk, iv_app]
  exact hown'

set_option maxRecDepth 100000 in
set_option maxHeartbeats 3200000 in
theorem sizes_any (p : Nat) (gs : List Rl) (w : World) (hf : FewR gs) (h : GP w p gs) :
    Calls Try.prog 153 #[.pointer (some ⟨p, 0, none⟩)] w (SizesPost gs w) := by
  obtain ⟨i0, hi, hz0, hz1, hz2⟩ := info_parts Try.info_i64
  obtain ⟨v, hv, A, c, rfl, hr⟩ := h
  obtain ⟨n, hng⟩ : ∃ n, n = gs.length := ⟨_, rfl⟩
  have hn := hf.len
  rw [← hng] at hn hv
  have HN := Lib.hid hng
  have HV := Lib.hid hv
  have HR := Lib.hid hr
  have HF := Lib.hid hf
  clear hng hv hr hf
  go_enter Try.func153, Try.ntmps153
  go_wp2
  go_loopw [4, 5, 6, 7] (fun x i _ _ wr => SzRel gs w x i wr) (fun _ i _ _ _ => n - (intOf i).toNat)
  case atStart => exact szRel_start gs w
  case round =>
    obtain ⟨k, hk, rfl, hown, hB, hu⟩ := hrel
    obtain ⟨x, rfl⟩ : ∃ x : Value, x = u4 := ⟨_, rfl⟩
    obtain ⟨wo, rfl⟩ : ∃ wo : World, wo = wr := ⟨_, rfl⟩
    have hv' : wo.cell? ⟨p, 0, none⟩ = some (.slice A n c) := (hB.cell (p := ⟨p, 0, none⟩) (lt_of_cell HV.out)).trans HV.out
    by_cases hlt : k < n
    · have hkg : k < gs.length := by rw [← HN.out]; exact hlt
      rcases HR.out with hn | ⟨g, rfl, hg, hc⟩
      · rw [hn] at hkg; simp at hkg
      obtain ⟨a0, a1, a2⟩ := rules_cells hc hkg
      rw [← hB.cell (p := ⟨g, k * 3, none⟩) hg] at a0
      rw [← hB.cell (p := ⟨g, k * 3 + 1, none⟩) hg] at a1
      rw [← hB.cell (p := ⟨g, k * 3 + 2, none⟩) hg] at a2
      have hrl := rule_any gs[k] g (k * 3) k wo (HF.out.at_ k hkg) (by unfold maxLen; omega) a0 a1 a2
      clear hc hk
      cases hok : gs[k].ok k
      · rw [hok] at hrl
        have HRL := Lib.hid hrl
        have HBD := Lib.hid (sizes_no (w := w) (w' := wo) (x := x) (bad_fit hkg hok) hB)
        clear hrl hok hown hu a0 a1 a2 hB
        go_wp2_with fail
        refine HRL.out.mono ?_; rintro e w' ⟨rfl, rfl⟩
        go_wp2
        go_ret2
        exact HBD.out
      · rw [hok] at hrl
        have HRL := Lib.hid hrl
        clear hrl
        have HSZ := Lib.hid hB.size
        have hst := fun (Z : Int) (hZ : (lens gs).getD k 0 = Z) (hZ2 : Z ≤ 1000000000000000) (m : Nat) (w1 : World) (out' : Value) (o : Obj) h3 h4 =>
          szRel_step (w1 := w1) (out' := out') (o := o) (wr := wo.drewN m) hkg hown (below_drewN hB m) hu hok (by rw [hZ]; exact hZ2) (by rw [hZ]; exact h3) h4
        by_cases h0 : gs[k].L.size = 0
        · have he := empty_arr h0
          rw [he] at a0
          obtain ⟨a, b, ha, hb, hak, hbk, hsum, pa1, pa2, pb1, pb2⟩ := lens_next hkg hu hok h0
          rw [ha] at a1
          rw [hb] at a2
          have hO := hown
          rcases hown.2 with ⟨_, hk0⟩ | ⟨g', c', cur, rfl, _⟩
          · omega
          have o1 : wo.cell? ⟨g', a, none⟩ = some (.int .i64 ((lens gs).getD a 0)) := by
            rw [hO.cellAt a (by omega)]; simp only [iv, List.getElem?_map, lens_at hak (Nat.le_of_lt hkg), Option.map_some]
          have o2 : wo.cell? ⟨g', b, none⟩ = some (.int .i64 ((lens gs).getD b 0)) := by
            rw [hO.cellAt b (by omega)]; simp only [iv, List.getElem?_map, lens_at hbk (Nat.le_of_lt hkg), Option.map_some]
          generalize (lens gs).getD a 0 = z1 at *
          generalize (lens gs).getD b 0 = z2 at *
          have HO := Lib.hid hO
          have HST := Lib.hid (hst (z1 + z2) hsum)
          have HBD := Lib.hid (fun (h : 1000000000000000 < z1 + z2) m => sizes_no (w := w) (w' := wo.drewN m) (x := .slice (some ⟨g', 0, none⟩) k c') (bad_long hkg (by rw [hsum]; exact h)) (below_drewN hB m))
          clear hst hsum hO hown hu hok ha hb he h0 hB
          by_cases hbig : 1000000000000000 < z1 + z2
          · go_wp2_with fail
            refine HRL.out.mono ?_; rintro e w' ⟨rfl, rfl⟩
            go_wp2
            go_quiet (fail)
            go_wp2
            go_ret2
            exact HBD.out hbig _
          · go_wp2_with fail
            refine HRL.out.mono ?_; rintro e w' ⟨rfl, rfl⟩
            go_wp2
            go_quiet (fail)
            go_wp2_with (first | (at_builtin; refine wpList_append_own _ rfl _ _ 22 rfl w.heap.size 2 i0 (.int .i64 0) 1 8 Try.underlying22 hi hz0 hz1 hz2 rfl (by decide) _ _ _ rfl (World.ownsRow.alloc (own_drewN HO.out _) _) ⟨wo.heap.size, 0, none⟩ 1 1 [.int .i64 (z1 + z2)] rfl rfl (one_new _ _ _) (one_int _ _) (by unfold maxLen; omega) (by omega) (base_alloc HSZ.out _) ?_))
            intro v' w1 hown' hgrow _
            have HNW := Lib.hid (HST.out (by omega) _ w1 v' _ hown' hgrow)
            clear hown' hgrow
            go_wp2
            go_roundw
            case rel => first | exact HNW.out | ((repeat apply Exists.intro); exact ⟨HNW.out, rfl⟩)
            case measure => simp [intOf]; omega
        · have he := full_list h0
          have hz := vals_letter (fun a b => a + b) gs k hkg h0
          have HST := Lib.hid (hst 1 hz (by omega) 0)
          have HO := Lib.hid hown
          clear hst hown hu hok h0 hB hz
          go_wp2_with fail
          refine HRL.out.mono ?_; rintro e w' ⟨rfl, rfl⟩
          go_wp2_with (first | (at_builtin; refine wpList_append_own _ rfl _ _ 22 rfl w.heap.size 2 i0 (.int .i64 0) 1 8 Try.underlying22 hi hz0 hz1 hz2 rfl (by decide) _ _ _ rfl (World.ownsRow.alloc HO.out _) ⟨wo.heap.size, 0, none⟩ 1 1 [.int .i64 1] rfl rfl (one_new _ _ _) (one_int _ _) (by unfold maxLen; omega) (by omega) (base_alloc HSZ.out _) ?_))
          intro v' w1 hown' hgrow _
          have HNW := Lib.hid (HST.out w1 v' _ hown' hgrow)
          clear hown' hgrow
          go_wp2
          go_roundw
          case rel => first | exact HNW.out | ((repeat apply Exists.intro); exact ⟨HNW.out, rfl⟩)
          case measure => simp [intOf]; omega
    · have hg := HN.out
      have hkn : k = gs.length := by omega
      have hy := sizes_yes (w := w) (w' := wo) (x := x) (upTo_all hu (by omega)) (by
        unfold OwnsI; rw [lens_len]; rw [hkn, List.take_of_length_le (Nat.le_refl _)] at hown; exact hown) hB
      have HY := Lib.hid hy
      clear hy hown hu hkn hg hB
      go_wp2
      go_ret2
      exact HY.out
end Go.Proofs.Ytaffachjopjbgaa
namespace Go.Proofs.Ytaffachjopjbgaa
open Go.RowKit
open Wd
set_option linter.unusedVariables false

namespace Wd
/-- the length of the last word -/
def wordLen (gs : List Rl) : Int := (lens gs).getD (gs.length - 1) 0
theorem wordLen_zero {gs : List Rl} (h : gs.length = 0) : wordLen gs = 0 := by
  have : gs = [] := List.eq_nil_of_length_eq_zero h
  subst this; rfl
theorem gOk_len {gs : List Rl} (h : gOk gs = true) : gs.length ≤ 400 := (gOk_iff.1 h).1
theorem gOk_fs {gs : List Rl} (h : gOk gs = true) : (fits gs && small gs) = true := by
  have := gOk_iff.1 h; simp [this.2.1, this.2.2]
theorem gOk_long {gs : List Rl} (h : 400 < gs.length) : gOk gs = false := by
  unfold gOk; rw [decide_eq_false (by omega)]; rfl
theorem gOk_short {gs : List Rl} (h : gs.length ≤ 400) : gOk gs = (fits gs && small gs) := by
  unfold gOk; rw [decide_eq_true h]; rfl
end Wd
/-- what comes back of the lengths of a valid grammar -/
def LensPost (gs : List Rl) (w : World) (e : Ending) (w' : World) : Prop :=
  ∃ x, e = .returned (.tuple #[x, .bool (gOk gs)]) ∧ (gOk gs = true → OwnsI w' w.heap.size x (lens gs)) ∧ Below w.heap.size w w'

set_option maxHeartbeats 800000 in
theorem lengths_any (p : Nat) (gs : List Rl) (w : World) (hf : FewR gs) (h : GP w p gs) :
    Calls Try.prog 81 #[.pointer (some ⟨p, 0, none⟩)] w (LensPost gs w) := by
  have HC := Lib.hid (sizes_any p gs w hf h)
  obtain ⟨v, hv, A, c, rfl, hr⟩ := h
  have hn := hf.len
  by_cases hlong : 400 < gs.length
  · have HP : Hid (∀ x w', Below w.heap.size w w' → LensPost gs w (.returned (.tuple #[x, .bool false])) w') := Lib.hid fun x w' hb => ⟨x, by rw [gOk_long hlong], fun h' => by (rw [gOk_long hlong] at h'; cases h'), hb⟩
    go_enter Try.func81, Try.ntmps81
    go_wp2
    go_ret2
    exact HP.out _ _ ((Below.refl _ _).alloc (Nat.le_refl _) _)
  · have HP : Hid (∀ e w', SizesPost gs w e w' → ∃ x b, e = .returned (.tuple #[x, .bool b]) ∧ LensPost gs w (.returned (.tuple #[x, .bool b])) w') := Lib.hid fun e w' ⟨x, he, ho, hb⟩ =>
      ⟨x, _, he, x, by rw [gOk_short (by omega)], fun h' => ho (by rw [← gOk_short (by omega)]; exact h'), hb⟩
    clear hr
    go_enter Try.func81, Try.ntmps81
    go_wp2_with fail
    refine HC.out.mono ?_
    intro e w' hp
    obtain ⟨x, b, he, hq⟩ := HP.out e w' hp
    clear hp
    subst he
    have HQ := Lib.hid hq
    clear hq
    go_wp2
    go_ret2
    exact HQ.out

theorem l02Ok_any (p : Nat) (gs : List Rl) (w : World) (hf : FewR gs) (h : GP w p gs) :
    Calls Try.prog 79 #[.pointer (some ⟨p, 0, none⟩)] w fun e w' => e = .returned (.bool (gOk gs)) ∧ Below w.heap.size w w' := by
  have HC := Lib.hid (lengths_any p gs w hf h)
  clear h hf
  go_enter Try.func79, Try.ntmps79
  go_wp2_with fail
  refine HC.out.mono ?_
  rintro e w' ⟨x, rfl, _, hB⟩
  go_wp2
  go_ret
  exact ⟨rfl, hB⟩

end Go.Proofs.Ytaffachjopjbgaa
namespace Go.Proofs.Ytaffachjopjbgaa
open Go.RowKit
open Wd
set_option linter.unusedVariables false

theorem ta_ll (v : Value) (w : World) : (Instr.typeAssert (.iface 211 v) 194 211 true).run Try.prog w = .ok (.tuple #[v, .bool true]) w := by kernel_rfl
theorem ta_pp (v : Value) (w : World) : (Instr.typeAssert (.iface 198 v) 194 198 true).run Try.prog w = .ok (.tuple #[v, .bool true]) w := by kernel_rfl
theorem ta_pl (v : Value) (w : World) : (Instr.typeAssert (.iface 198 v) 194 211 true).run Try.prog w = .ok (.tuple #[.agg #[.string ⟨#[]⟩, .int .i64 0, .int .i64 0], .bool false]) w := by kernel_rfl

namespace Wd
/-- rules in a block below a number -/
def RulesU (B : Nat) (w : World) (v : Value) (gs : List Rl) : Prop :=
  ∃ A c, v = .slice A gs.length c ∧ (gs = [] ∨ ∃ g, A = some ⟨g, 0, none⟩ ∧ g < B ∧ ∀ j u, (rv gs)[j]? = some u → w.cell? ⟨g, j, none⟩ = some u)
theorem Rules.under {w w' : World} {v : Value} {gs : List Rl} (h : Rules w v gs) (hb : Below w.heap.size w w') : RulesU w.heap.size w' v gs := by
  obtain ⟨A, c, hv, h | ⟨g, hA, hg, hc⟩⟩ := h
  · exact ⟨A, c, hv, .inl h⟩
  · exact ⟨A, c, hv, .inr ⟨g, hA, hg, fun j u hu => (hb.cell (p := ⟨g, j, none⟩) hg).trans (hc j u hu)⟩⟩
/-- what a memory may hold -/
def MemOk (V : Nat → Int) (mem : List Int) : Prop := ∀ k, k < mem.length → mem.getD k 0 = 0 ∨ mem.getD k 0 = V k
theorem MemOk.set {V : Nat → Int} {mem : List Int} (h : MemOk V mem) (k : Nat) : MemOk V (mem.set k (V k)) := by
  intro j hj
  have hj' : j < mem.length := by simpa using hj
  by_cases e : k = j
  · subst e; right; simp [List.getD_eq_getElem?_getD, hj']
  · have := h j hj'
    simpa [List.getD_eq_getElem?_getD, List.getElem?_set_ne e] using this
theorem MemOk.zero (V : Nat → Int) (n : Nat) : MemOk V (List.replicate n 0) := by
  intro k hk; left
  simp at hk
  simp [List.getD_eq_getElem?_getD, hk]
end Wd

/-- the closure, and what it has captured -/
abbrev measV (bm br bj bf : Nat) : Value := .func (.func 226) #[] #[.pointer (some ⟨bm, 0, none⟩), .pointer (some ⟨br, 0, none⟩), .pointer (some ⟨bj, 0, none⟩), .pointer (some ⟨bf, 0, none⟩)]
/-- the captured variables, and the memory -/
structure MeasSt (B bm br bj bf M : Nat) (jv : Value) (gs : List Rl) (w : World) : Prop where
  m : w.cell? ⟨bm, 0, none⟩ = some (.slice (some ⟨M, 0, none⟩) gs.length gs.length)
  r : ∃ v, w.cell? ⟨br, 0, none⟩ = some v ∧ RulesU B w v gs
  j : w.cell? ⟨bj, 0, none⟩ = some jv
  f : w.cell? ⟨bf, 0, none⟩ = some (measV bm br bj bf)
  nm : bm ≠ M
  nr : br ≠ M
  nj : bj ≠ M
  nf : bf ≠ M
  hB : B ≤ M
  hs : B ≤ w.heap.size
theorem MeasSt.kept {B bm br bj bf M : Nat} {jv : Value} {gs : List Rl} {w w' : World} (h : MeasSt B bm br bj bf M jv gs w) (hg : w.grownBy w' (some M)) : MeasSt B bm br bj bf M jv gs w' := by
  have hcell : ∀ (b o : Nat) v, b ≠ M → w.cell? ⟨b, o, none⟩ = some v → w'.cell? ⟨b, o, none⟩ = some v := fun b o v hne hc => by
    rw [World.cell?_of_block (a := ⟨b, o, none⟩) (hg.block b (lt_of_cell hc) (fun e => hne (by injection e)))]; exact hc
  obtain ⟨v, hv, A, c, rfl, hr⟩ := h.r
  refine ⟨hcell _ _ _ h.nm h.m, ⟨_, hcell _ _ _ h.nr hv, A, c, rfl, ?_⟩, hcell _ _ _ h.nj h.j, hcell _ _ _ h.nf h.f, h.nm, h.nr, h.nj, h.nf, h.hB, Nat.le_trans h.hs hg.size⟩
  rcases hr with hr | ⟨g, hA, hg', hc⟩
  · exact .inl hr
  · exact .inr ⟨g, hA, hg', fun j u hu => hcell _ _ _ (by have := h.hB; omega) (hc j u hu)⟩

/-- what a measuring leaves -/
def MeasPost (B M : Nat) (gs : List Rl) (V : Nat → Int) (k : Nat) (w : World) (e : Ending) (w' : World) : Prop :=
  e = .returned (.int .i64 (V k)) ∧ (∃ mem : List Int, mem.length = gs.length ∧ MemOk V mem ∧ w'.ownsRow B 2 1 (.slice (some ⟨M, 0, none⟩) gs.length gs.length) gs.length (iv mem)) ∧ w.grownBy w' (some M)

set_option maxRecDepth 100000 in
set_option maxHeartbeats 3200000 in
/-- a measure that is known -/
theorem meas_known (B bm br bj bf M : Nat) (jv : Value) (gs : List Rl) (V : Nat → Int) (k : Nat) (w : World) (hk : k < gs.length) (hn : gs.length ≤ 1048576) (hst : MeasSt B bm br bj bf M jv gs w)
    (mem : List Int) (hl : mem.length = gs.length) (hm : MemOk V mem) (hown : w.ownsRow B 2 1 (.slice (some ⟨M, 0, none⟩) gs.length gs.length) gs.length (iv mem)) (h1 : 0 < V k) (h2 : mem.getD k 0 = V k) :
    Calls Try.prog 226 #[.int .i64 k, .pointer (some ⟨bm, 0, none⟩), .pointer (some ⟨br, 0, none⟩), .pointer (some ⟨bj, 0, none⟩), .pointer (some ⟨bf, 0, none⟩)] w (MeasPost B M gs V k w) := by
  have HP : Hid (MeasPost B M gs V k w (.returned (.int .i64 (V k))) w) := Lib.hid ⟨rfl, ⟨mem, hl, hm, hown⟩, World.grownBy.refl _ _⟩
  have hc : w.cell? ⟨M, k, none⟩ = some (.int .i64 (V k)) := by
    rw [hown.cellAt k (by omega)]
    simp only [iv, List.getElem?_map]
    rw [List.getD_eq_getElem?_getD, List.getElem?_eq_getElem (by omega), Option.getD_some] at h2
    rw [List.getElem?_eq_getElem (by omega), Option.map_some, h2]
  have hm1 := hst.m
  generalize V k = z at *
  generalize gs.length = n at *
  clear hown hm hl hst h2
  go_enter Try.func226, Try.ntmps226
  go_wp2_with fail
  go_ret
  exact HP.out
theorem iv_at {mem : List Int} {k : Nat} (h : k < mem.length) : (iv mem)[k]? = some (.int .i64 (mem.getD k 0)) := by
  simp only [iv, List.getElem?_map]
  rw [List.getD_eq_getElem?_getD, List.getElem?_eq_getElem h, Option.getD_some, Option.map_some]
theorem iv_setk (mem : List Int) (k : Nat) (z : Int) : iv (mem.set k z) = (iv mem).set k (.int .i64 z) := by simp [iv, List.map_set]
theorem gbOf {w w' : World} (h : Below w.heap.size w w') (row : Option Nat) : w.grownBy w' row := ⟨h.os, h.tape, h.output, h.size, fun i hi _ => h.block i hi⟩
theorem gbTrans {a b c : World} {row : Option Nat} (h : a.grownBy b row) (h' : b.grownBy c row) : a.grownBy c row :=
  ⟨h'.os.trans h.os, h'.tape.trans h.tape, h'.output.trans h.output, Nat.le_trans h.size h'.size, fun i hi hne => (h'.block i (Nat.lt_of_lt_of_le hi h.size) hne).trans (h.block i hi hne)⟩
theorem only_alloc {a w : World} {row : Option Nat} (h : a.grownBy w row) (o : Obj) : a.grownBy (w.alloc o) row :=
  ⟨h.os, h.tape, h.output, Nat.le_trans h.size (by simp), fun i hi hne => (Below.heap_alloc w o i (Nat.lt_of_lt_of_le hi h.size)).trans (h.block i hi hne)⟩

set_option maxRecDepth 100000 in
set_option maxHeartbeats 3200000 in
/-- a letter -/
theorem meas_letter (B bm br bj bf M : Nat) (jv : Value) (gs : List Rl) (V : Nat → Int) (k : Nat) (w : World) (hk : k < gs.length) (hn : gs.length ≤ 1048576) (hst : MeasSt B bm br bj bf M jv gs w)
    (mem : List Int) (hl : mem.length = gs.length) (hm : MemOk V mem) (hown : w.ownsRow B 2 1 (.slice (some ⟨M, 0, none⟩) gs.length gs.length) gs.length (iv mem)) (h1 : V k = 1) (h2 : mem.getD k 0 = 0) (h0 : gs[k].L.size ≠ 0) :
    Calls Try.prog 226 #[.int .i64 k, .pointer (some ⟨bm, 0, none⟩), .pointer (some ⟨br, 0, none⟩), .pointer (some ⟨bj, 0, none⟩), .pointer (some ⟨bf, 0, none⟩)] w (MeasPost B M gs V k w) := by
  have hc : w.cell? ⟨M, k, none⟩ = some (.int .i64 0) := by
    rw [hown.cellAt k (by omega), iv_at (by omega), h2]
  have hm1 := hst.m
  obtain ⟨v, hv, A, c, rfl, hr⟩ := hst.r
  rcases hr with hr | ⟨g, rfl, hg, hcc⟩
  · rw [hr] at hk; simp at hk
  obtain ⟨a0, a1, a2⟩ := rules_cells hcc hk
  have HK := Lib.hid (fun W => kind_letter gs[k] h0 W)
  have HTA := ta_ll
  have H1 := Lib.hid h1
  have HL := Lib.hid hl
  have HM := Lib.hid hm
  obtain ⟨n, hng⟩ : ∃ n, n = gs.length := ⟨_, rfl⟩
  have HN := Lib.hid hng
  have hkn : k < n := by omega
  rw [← hng] at hm1 hv hn
  clear hng hcc h2 h1 hl hm
  go_enter Try.func226, Try.ntmps226
  go_wp2_with fail
  refine (HK.out _).mono ?_
  rintro e w1 ⟨rfl, hB1⟩
  have l1 := lt_of_cell hm1
  have l2 := lt_of_cell hc
  have d1 := (hB1.cell (p := ⟨bm, 0, none⟩) l1).trans hm1
  have d2 := (hB1.cell (p := ⟨M, k, none⟩) l2).trans hc
  have hown1 := own_below hown hB1 (Nat.le_refl _)
  have f2 : w1.frozen? ⟨M, k, none⟩ = false := by rw [← HN.out] at hown1; exact hown1.frozenAt _
  have l3 : bm < w1.heap.size := Nat.lt_of_lt_of_le l1 hB1.size
  have l4 : M < w1.heap.size := Nat.lt_of_lt_of_le l2 hB1.size
  have HP : Hid (∀ o : Obj, MeasPost B M gs V k w (.returned (.int .i64 1)) ((w1.setCell ⟨M, k, none⟩ (.int .i64 1)).alloc o)) := Lib.hid fun o => by
    obtain ⟨h5, h6⟩ := hown1.stored k (.int .i64 1)
    refine ⟨by rw [H1.out], ⟨mem.set k (V k), by simpa using HL.out, HM.out.set k, ?_⟩, ?_⟩
    · rw [H1.out, iv_setk]; exact World.ownsRow.alloc h5 o
    · exact only_alloc (gbTrans (gbOf hB1 (some M)) h6) o
  have d3 : (w1.setCell ⟨M, k, none⟩ (.int .i64 1)).cell? ⟨bm, 0, none⟩ = some (.slice (some ⟨M, 0, none⟩) n n) := by
    rw [World.cell?_setCell_other _ _ _ _ (fun e => hst.nm (congrArg Addr.block e).symm)]; exact d1
  have d4 : (w1.setCell ⟨M, k, none⟩ (.int .i64 1)).cell? ⟨M, k, none⟩ = some (.int .i64 1) := World.cell?_setCell_same _ _ _ d2
  clear hown hown1 a0 a1 a2 hv hc hm1 hst hB1 l1 l2
  go_wp2_with fail
  go_ret
  exact HP.out _
/-- all that a measuring wants, and keeps -/
def MInv (B bm br bj bf M : Nat) (jv : Value) (gs : List Rl) (V : Nat → Int) (w : World) : Prop :=
  MeasSt B bm br bj bf M jv gs w ∧ ∃ mem : List Int, mem.length = gs.length ∧ MemOk V mem ∧ w.ownsRow B 2 1 (.slice (some ⟨M, 0, none⟩) gs.length gs.length) gs.length (iv mem)
theorem MeasSt.drewN {B bm br bj bf M : Nat} {jv : Value} {gs : List Rl} {w : World} (h : MeasSt B bm br bj bf M jv gs w) (n : Nat) : MeasSt B bm br bj bf M jv gs (w.drewN n) :=
  ⟨h.m, h.r, h.j, h.f, h.nm, h.nr, h.nj, h.nf, h.hB, h.hs⟩
theorem MInv.drewN {B bm br bj bf M : Nat} {jv : Value} {gs : List Rl} {V : Nat → Int} {w : World} (h : MInv B bm br bj bf M jv gs V w) (n : Nat) : MInv B bm br bj bf M jv gs V (w.drewN n) :=
  ⟨h.1.drewN n, h.2⟩
theorem MInv.below {B bm br bj bf M : Nat} {jv : Value} {gs : List Rl} {V : Nat → Int} {w w' : World} (h : MInv B bm br bj bf M jv gs V w) (hb : Below w.heap.size w w') : MInv B bm br bj bf M jv gs V w' := by
  obtain ⟨h1, mem, h2, h3, h4⟩ := h
  exact ⟨h1.kept (gbOf hb _), mem, h2, h3, own_below h4 hb (Nat.le_refl _)⟩
theorem MeasPost.inv {B bm br bj bf M : Nat} {jv : Value} {gs : List Rl} {V : Nat → Int} {k : Nat} {w w' : World} {e : Ending} (h : MeasPost B M gs V k w e w') (h1 : MeasSt B bm br bj bf M jv gs w) :
    e = .returned (.int .i64 (V k)) ∧ MInv B bm br bj bf M jv gs V w' ∧ w.grownBy w' (some M) :=
  ⟨h.1, ⟨h1.kept h.2.2, h.2.1⟩, h.2.2⟩
theorem MInv.slot {B bm br bj bf M : Nat} {jv : Value} {gs : List Rl} {V : Nat → Int} {w : World} (h : MInv B bm br bj bf M jv gs V w) {k : Nat} (hk : k < gs.length) :
    (∃ z, w.cell? ⟨M, k, none⟩ = some (.int .i64 z)) ∧ w.frozen? ⟨M, k, none⟩ = false := by
  obtain ⟨h1, mem, h2, h3, h4⟩ := h
  exact ⟨⟨_, by rw [h4.cellAt k (by omega)]; exact iv_at (by omega)⟩, h4.frozenAt _⟩
theorem MInv.store {B bm br bj bf M : Nat} {jv : Value} {gs : List Rl} {V : Nat → Int} {w : World} (h : MInv B bm br bj bf M jv gs V w) {k : Nat} :
    MInv B bm br bj bf M jv gs V (w.setCell ⟨M, k, none⟩ (.int .i64 (V k))) ∧ w.grownBy (w.setCell ⟨M, k, none⟩ (.int .i64 (V k))) (some M) := by
  obtain ⟨h1, mem, h2, h3, h4⟩ := h
  obtain ⟨h5, h6⟩ := h4.stored k (.int .i64 (V k))
  exact ⟨⟨h1.kept h6, mem.set k (V k), by simpa using h2, h3.set k, by rw [iv_setk]; exact h5⟩, h6⟩

theorem MInv.held {B bm br bj bf M K n : Nat} {jv : Value} {gs : List Rl} {V : Nat → Int} {w w' : World} {a b : Int} (h : MInv B bm br bj bf M jv gs V w') (hg : w.grownBy w' (some M)) (hn : n = gs.length) (hK : K ≠ M)
    (h1 : w.cell? ⟨K, 1, none⟩ = some (.int .i64 a)) (h2 : w.cell? ⟨K, 2, none⟩ = some (.int .i64 b)) :
    w'.cell? ⟨bm, 0, none⟩ = some (.slice (some ⟨M, 0, none⟩) n n) ∧ w'.cell? ⟨bj, 0, none⟩ = some jv ∧ w'.cell? ⟨bf, 0, none⟩ = some (measV bm br bj bf) ∧ w'.cell? ⟨K, 1, none⟩ = some (.int .i64 a) ∧ w'.cell? ⟨K, 2, none⟩ = some (.int .i64 b) := by
  have hcell : ∀ (o : Nat) v, w.cell? ⟨K, o, none⟩ = some v → w'.cell? ⟨K, o, none⟩ = some v := fun o v hc => by
    rw [World.cell?_of_block (a := ⟨K, o, none⟩) (hg.block K (lt_of_cell hc) (fun e => hK (by injection e)))]; exact hc
  exact ⟨by rw [hn]; exact h.1.m, h.1.j, h.1.f, hcell _ _ h1, hcell _ _ h2⟩
theorem grownBy_drewN {a w : World} {row : Option Nat} (h : a.grownBy w row) (n : Nat) : a.grownBy (w.drewN n) row := ⟨h.os, h.tape, h.output, h.size, h.block⟩
theorem grownBy_undrew {a w : World} {row : Option Nat} {n : Nat} (h : (a.drewN n).grownBy w row) : a.grownBy w row := ⟨h.os, h.tape, h.output, h.size, h.block⟩

/-- a measuring at a number -/
abbrev MeasCalls (B bm br bj bf M : Nat) (jv : Value) (gs : List Rl) (V : Nat → Int) (k : Nat) (w : World) : Prop :=
  Calls Try.prog 226 #[.int .i64 k, .pointer (some ⟨bm, 0, none⟩), .pointer (some ⟨br, 0, none⟩), .pointer (some ⟨bj, 0, none⟩), .pointer (some ⟨bf, 0, none⟩)] w
    fun e w' => e = .returned (.int .i64 (V k)) ∧ MInv B bm br bj bf M jv gs V w' ∧ w.grownBy w' (some M)

end Go.Proofs.Ytaffachjopjbgaa
namespace Go.Proofs.Ytaffachjopjbgaa.len
open Go.RowKit
open Wd
set_option linter.unusedVariables false

/-- the join of lengths -/
abbrev joinV : Value := .func (.func 211) #[] #[]

set_option maxRecDepth 100000 in
set_option maxHeartbeats 6400000 in
/-- a pair, out of its two rules -/
theorem meas_pair (B bm br bj bf M : Nat) (gs : List Rl) (V : Nat → Int) (k a b : Nat) (w : World) (hk : k < gs.length) (hn : gs.length ≤ 1048576) (hI : MInv B bm br bj bf M joinV gs V w)
    (h0 : gs[k].L.size = 0) (ha : gs[k].l = a) (hb : gs[k].r = b) (hak : a < k) (hbk : b < k)
    (hz : w.cell? ⟨M, k, none⟩ = some (.int .i64 0))
    (hA : ∀ W, MInv B bm br bj bf M joinV gs V W → MeasCalls B bm br bj bf M joinV gs V a W)
    (hB : ∀ W, MInv B bm br bj bf M joinV gs V W → MeasCalls B bm br bj bf M joinV gs V b W)
    (hJ : ∀ W, Calls Try.prog 211 #[.int .i64 (V a), .int .i64 (V b)] W fun e w' => e = .returned (.int .i64 (V k)) ∧ W = w') :
    MeasCalls B bm br bj bf M joinV gs V k w := by
  have hst := hI.1
  have hm1 := hst.m
  obtain ⟨v, hv, A, c, rfl, hr⟩ := hst.r
  rcases hr with hr | ⟨g, rfl, hg, hcc⟩
  · rw [hr] at hk; simp at hk
  obtain ⟨a0, a1, a2⟩ := rules_cells hcc hk
  have HK := Lib.hid (fun W => kind_pair gs[k] h0 W)
  have he := empty_arr h0
  rw [ha] at a1
  rw [hb] at a2
  have HX := Lib.hid (show agg3 gs[k] = .agg #[.string ⟨#[]⟩, .int .i64 a, .int .i64 b] by unfold agg3; rw [he, ha, hb])
  have HTP := ta_pp
  have HTL := ta_pl
  obtain ⟨n, hng⟩ : ∃ n, n = gs.length := ⟨_, rfl⟩
  have HN := Lib.hid hng
  have hkn : k < n := by omega
  rw [← hng] at hm1 hv hn
  rw [he] at a0
  rw [HX.out] at HK
  have HI := Lib.hid hI
  have HA := Lib.hid hA
  have HB := Lib.hid hB
  have HJ := Lib.hid hJ
  have HS := Lib.hid hst
  clear hng hcc ha hb he hI hst hA hB hJ
  go_enter Try.func226, Try.ntmps226
  go_wp2_with fail
  refine (HK.out _).mono ?_
  rintro e w1 ⟨rfl, hB1⟩
  have HI1 := Lib.hid (HI.out.below hB1)
  have hm2 := HI1.out.1.m
  rw [← HN.out] at hm2
  have hj2 := HI1.out.1.j
  have hf2 := HI1.out.1.f
  have l1 := lt_of_cell hm2
  have l2 := lt_of_cell hj2
  have l3 := lt_of_cell hf2
  clear a0 a1 a2 hv hm1 hz
  go_wp2_with fail
  have hB2 := hB1.alloc hB1.size (.cells #[.string ⟨#[]⟩, .int .i64 a, .int .i64 b] 198)
  have HI2 := Lib.hid (HI.out.below hB2)
  obtain ⟨K, hKe⟩ : ∃ K, K = w1.heap.size := ⟨_, rfl⟩
  have c1 : (w1.alloc (.cells #[.string ⟨#[]⟩, .int .i64 a, .int .i64 b] 198)).cell? ⟨K, 1, none⟩ = some (.int .i64 a) := by rw [hKe, cell_of_row _ _ _ _ _ _ (heap_alloc_new w1 _)]; rfl
  have c2 : (w1.alloc (.cells #[.string ⟨#[]⟩, .int .i64 a, .int .i64 b] 198)).cell? ⟨K, 2, none⟩ = some (.int .i64 b) := by rw [hKe, cell_of_row _ _ _ _ _ _ (heap_alloc_new w1 _)]; rfl
  have hKM : K ≠ M := by
    obtain ⟨z, hz⟩ := (HI1.out.slot hk).1
    have := lt_of_cell hz
    simp only at this
    omega
  rw [← hKe]
  generalize w1.alloc (.cells #[.string ⟨#[]⟩, .int .i64 a, .int .i64 b] 198) = w2 at *
  have HH := Lib.hid (fun w' (h : MInv B bm br bj bf M joinV gs V w') (hg : w2.grownBy w' (some M)) => h.held hg HN.out hKM c1 c2)
  have HS2 := Lib.hid (HH.out _ HI2.out (World.grownBy.refl _ _))
  clear hm2 hj2 hf2 l1 l2 l3 hKe
  obtain ⟨t1, t2, t3, t4, t5⟩ := HS2.out
  clear c1 c2
  go_region_held3 (fun w' => w'.cell? ⟨bm, 0, none⟩ = some (.slice (some ⟨M, 0, none⟩) n n) ∧ w'.cell? ⟨bj, 0, none⟩ = some (.func (.func 211) #[] #[]) ∧ w'.cell? ⟨bf, 0, none⟩ = some (measV bm br bj bf) ∧ w'.cell? ⟨K, 1, none⟩ = some (.int .i64 a) ∧ w'.cell? ⟨K, 2, none⟩ = some (.int .i64 b))
    (first | go_keep | exact hSA | exact hSB | exact HSC.out)
    (first
      | (go_at_call_of 226 (Value.int .i64 a); refine (HA.out _ (HI2.out.drewN _)).mono ?_; rintro e wA ⟨rfl, hIA, hgA⟩; have hSA := HH.out _ hIA (grownBy_undrew hgA))
      | (go_at_call_of 226 (Value.int .i64 b); refine (HB.out _ hIA).mono ?_; rintro e wB ⟨rfl, hIB, hgB⟩; have hSB := HH.out _ hIB (gbTrans (grownBy_undrew hgA) hgB); obtain ⟨⟨zB, hzB⟩, hfB⟩ := hIB.slot hk; have hstB := Lib.hid (hIB.store (k := k)); have hgB2 := Lib.hid (gbTrans (gbTrans (grownBy_undrew hgA) hgB) hstB.out.2); have HSC := Lib.hid (HH.out _ hstB.out.1 hgB2.out))
      | (go_at_call 211; refine (HJ.out _).mono ?_; rintro e wJ ⟨rfl, rfl⟩))
  have q1 := HSC.out.1
  have q2 : (wB.setCell ⟨M, k, none⟩ (.int .i64 (V k))).cell? ⟨M, k, none⟩ = some (.int .i64 (V k)) := World.cell?_setCell_same _ _ _ hzB
  have HF := Lib.hid (gbTrans (gbOf hB2 (some M)) hgB2.out)
  clear hSA hSB t1 t2 t3 t4 t5 hzB hfB hgA hgB hIA hIB
  go_wp2_with fail
  go_ret
  exact ⟨rfl, hstB.out.1, HF.out⟩

theorem join_any (a b : Int) (w : World) (h1 : 1 ≤ a) (h2 : a ≤ 1000000000000000) (h3 : 1 ≤ b) (h4 : b ≤ 1000000000000000) :
    Calls Try.prog 211 #[.int .i64 a, .int .i64 b] w fun e w' => e = .returned (.int .i64 (a + b)) ∧ w = w' := by
  go_enter Try.func211, Try.ntmps211
  go_wp2
  go_ret
  exact ⟨rfl, rfl⟩

/-- the length of a word, out of those below -/
def lenV (gs : List Rl) (j : Nat) : Int := (lens gs).getD j 0
theorem meas_any (B bm br bj bf M : Nat) (gs : List Rl) (hn : gs.length ≤ 1048576) : ∀ m k, k < m → (hk : k < gs.length) → UpTo gs k → gs[k].ok k = true → ∀ W, MInv B bm br bj bf M joinV gs (lenV gs) W → MeasCalls B bm br bj bf M joinV gs (lenV gs) k W
  | 0, k, hm, _, _, _, _, _ => by omega
  | m + 1, k, hm, hk, hu, hok, W, hI => by
    have hpos : 1 ≤ lenV gs k := lens_pos hk fun j hj hjk => by
      by_cases e : j = k
      · subst e; exact hok
      · exact (hu j hj (by omega)).1
    obtain ⟨hst, mem, hl, hmem, hown⟩ := hI
    rcases hmem k (by omega) with h2 | h2
    · by_cases h0 : gs[k].L.size = 0
      · obtain ⟨a, b, ha, hb, hak, hbk, hsum, pa1, pa2, pb1, pb2⟩ := lens_next hk hu hok h0
        have hz : W.cell? ⟨M, k, none⟩ = some (.int .i64 0) := by rw [hown.cellAt k (by omega), iv_at (by omega), h2]
        refine meas_pair B bm br bj bf M gs (lenV gs) k a b W hk hn ⟨hst, mem, hl, hmem, hown⟩ h0 ha hb hak hbk hz ?_ ?_ ?_
        · exact fun W' hI' => meas_any B bm br bj bf M gs hn m a (by omega) (by omega) (fun j hj hja => hu j hj (by omega)) (hu a (by omega) hak).1 W' hI'
        · exact fun W' hI' => meas_any B bm br bj bf M gs hn m b (by omega) (by omega) (fun j hj hjb => hu j hj (by omega)) (hu b (by omega) hbk).1 W' hI'
        · intro W'
          have := join_any (lenV gs a) (lenV gs b) W' pa1 pa2 pb1 pb2
          rw [← show lenV gs k = lenV gs a + lenV gs b from hsum] at this
          exact this
      · exact (meas_letter B bm br bj bf M joinV gs (lenV gs) k W hk hn hst mem hl hmem hown (vals_letter _ gs k hk h0) h2 h0).mono fun e w' h => h.inv hst
    · exact (meas_known B bm br bj bf M joinV gs (lenV gs) k W hk hn hst mem hl hmem hown (by omega) h2).mono fun e w' h => h.inv hst
end Go.Proofs.Ytaffachjopjbgaa.len
namespace Go.Proofs.Ytaffachjopjbgaa.len
open Go.RowKit
open Wd
set_option linter.unusedVariables false

theorem made_inv {w w1 : World} {B : Nat} {gs : List Rl} {A : Option Addr} {c n t1 t2 t3 t4 : Nat} (V : Nat → Int) (hn : n = gs.length) (hBs : B ≤ w.heap.size)
    (hr : gs = [] ∨ ∃ g, A = some ⟨g, 0, none⟩ ∧ g < B ∧ ∀ j u, (rv gs)[j]? = some u → w.cell? ⟨g, j, none⟩ = some u)
    (hown : w1.ownsRow w.heap.size 2 1 (.slice (some ⟨w.heap.size + 1 + 1, 0, none⟩) n n) n (iv (List.replicate n 0)))
    (hg : ((w.alloc (.cells #[.slice A n c] t1)).alloc (.cells #[joinV] t2)).grownBy w1 none) :
    w.heap.size + 1 + 1 < w1.heap.size ∧ Below w.heap.size w ((w1.alloc (.cells #[.slice (some ⟨w.heap.size + 1 + 1, 0, none⟩) n n] t3)).alloc (.cells #[measV w1.heap.size w.heap.size (w.heap.size + 1) (w1.heap.size + 1)] t4)) ∧
    MInv B w1.heap.size w.heap.size (w.heap.size + 1) (w1.heap.size + 1) (w.heap.size + 1 + 1) joinV gs V ((w1.alloc (.cells #[.slice (some ⟨w.heap.size + 1 + 1, 0, none⟩) n n] t3)).alloc (.cells #[measV w1.heap.size w.heap.size (w.heap.size + 1) (w1.heap.size + 1)] t4)) := by
  have hlt : w.heap.size + 1 + 1 < w1.heap.size := (hown.lt _ rfl).2
  have hB1 := below_of_grown hg
  have hBw : Below w.heap.size w w1 := (((Below.refl _ w).alloc (Nat.le_refl _) _).alloc (by simp) _).trans (hB1.mono (by simp; omega))
  obtain ⟨o1, ho1⟩ : ∃ o1, o1 = Obj.cells #[.slice (some ⟨w.heap.size + 1 + 1, 0, none⟩) n n] t3 := ⟨_, rfl⟩
  obtain ⟨o2, ho2⟩ : ∃ o2, o2 = Obj.cells #[measV w1.heap.size w.heap.size (w.heap.size + 1) (w1.heap.size + 1)] t4 := ⟨_, rfl⟩
  have hBf : Below w1.heap.size w1 ((w1.alloc o1).alloc o2) := ((Below.refl _ w1).alloc (Nat.le_refl _) _).alloc (by simp) _
  have c1 : ((w1.alloc o1).alloc o2).cell? ⟨w1.heap.size, 0, none⟩ = some (.slice (some ⟨w.heap.size + 1 + 1, 0, none⟩) n n) := by
    rw [((Below.refl _ (w1.alloc o1)).alloc (Nat.le_refl _) o2).cell (p := ⟨w1.heap.size, 0, none⟩) (by simp), ho1]; exact cell_new _ _ _
  have c2 : ((w1.alloc o1).alloc o2).cell? ⟨w1.heap.size + 1, 0, none⟩ = some (measV w1.heap.size w.heap.size (w.heap.size + 1) (w1.heap.size + 1)) := by
    have := cell_new (w1.alloc o1) (measV w1.heap.size w.heap.size (w.heap.size + 1) (w1.heap.size + 1)) t4
    rw [ho2]
    simp at this ⊢
  have c3 : ((w1.alloc o1).alloc o2).cell? ⟨w.heap.size, 0, none⟩ = some (.slice A n c) := by
    rw [hBf.cell (p := ⟨w.heap.size, 0, none⟩) (by simp; omega), hB1.cell (p := ⟨w.heap.size, 0, none⟩) (by simp; omega), ((Below.refl _ (w.alloc _)).alloc (Nat.le_refl _) _).cell (p := ⟨w.heap.size, 0, none⟩) (by simp)]; exact cell_new _ _ _
  have c4 : ((w1.alloc o1).alloc o2).cell? ⟨w.heap.size + 1, 0, none⟩ = some joinV := by
    rw [hBf.cell (p := ⟨w.heap.size + 1, 0, none⟩) (by simp; omega), hB1.cell (p := ⟨w.heap.size + 1, 0, none⟩) (by simp)]
    have := cell_new (w.alloc (.cells #[.slice A n c] t1)) joinV t2
    simp at this ⊢
  have hBa := hBw.trans (hBf.mono (by omega))
  have hoF := own_below (own_below hown ((Below.refl _ w1).alloc (Nat.le_refl _) o1) (Nat.le_refl _)) ((Below.refl _ (w1.alloc o1)).alloc (Nat.le_refl _) o2) (Nat.le_refl _)
  rw [← ho1, ← ho2]
  refine ⟨hlt, hBa, ⟨by rw [← hn]; exact c1, ⟨_, c3, A, c, by rw [hn], ?_⟩, c4, c2, by omega, by omega, by omega, by omega, by omega, Nat.le_trans hBs hBa.size⟩, List.replicate n 0, by simp [hn], MemOk.zero _ _, by rw [← hn]; exact own_lower hoF hBs⟩
  rcases hr with hr | ⟨g, hA, hg', hc⟩
  · exact .inl hr
  · exact .inr ⟨g, hA, hg', fun j u hu => (hBa.cell (p := ⟨g, j, none⟩) (Nat.lt_of_lt_of_le hg' hBs)).trans (hc j u hu)⟩
theorem made_i64 (n : Nat) : (madeCells #[.int .i64 0] n).toList = iv (List.replicate n 0) := by
  apply List.ext_getElem
  · simp [madeCells, iv]
  · intro i h1 h2
    simp [madeCells, iv, Nat.mod_one]

set_option maxRecDepth 100000 in
set_option maxHeartbeats 3200000 in
/-- impl.measured at the join of lengths -/
theorem measured_any (B : Nat) (v : Value) (gs : List Rl) (w : World) (hn : gs.length ≤ 1048576) (hBs : B ≤ w.heap.size) (hr : RulesU B w v gs) :
    Calls Try.prog 210 #[v, joinV] w fun e w' => ∃ bm br bj bf M, e = .returned (measV bm br bj bf) ∧ (w.heap.size ≤ bm ∧ w.heap.size ≤ br ∧ w.heap.size ≤ bj ∧ w.heap.size ≤ bf ∧ w.heap.size ≤ M) ∧ MInv B bm br bj bf M joinV gs (lenV gs) w' ∧ Below w.heap.size w w' := by
  obtain ⟨i0, hi, hz0, hz1, hz2⟩ := info_parts Try.info_i64
  obtain ⟨A, c, rfl, hr⟩ := hr
  obtain ⟨n, hng⟩ : ∃ n, n = gs.length := ⟨_, rfl⟩
  rw [← hng] at hn ⊢
  have HN := Lib.hid hng
  have HR := Lib.hid hr
  have HBS := Lib.hid hBs
  clear hng hr hBs
  go_enter Try.func210, Try.ntmps210
  go_wp2_with (refine wpList_make_full _ rfl _ _ 22 rfl w.heap.size 2 i0 (.int .i64 0) 1 Try.underlying22 hi hz0 hz1 .i64 .i64 _ _ n rfl rfl rfl rfl (by rw [hz2]; omega) (by unfold maxLen; omega) (by simp; omega) ?_)
  intro w1 hown hg
  rw [made_i64] at hown
  have hm := made_inv (t3 := 22) (t4 := 120) (lenV gs) HN.out HBS.out HR.out hown hg
  have HM := Lib.hid hm
  clear hown hg hm
  go_wp2
  go_ret
  obtain ⟨h1, h2, h3⟩ := HM.out
  exact ⟨_, _, _, _, _, rfl, ⟨by omega, by omega, by omega, by omega, by omega⟩, h3, h2⟩

theorem mt_p (v : Value) (w : World) : (method 391 198 v "loop.example/g01133/impl.fits").run Try.prog w = .ok (254, v) w := by kernel_rfl
theorem mt_l (v : Value) (w : World) : (method 391 211 v "loop.example/g01133/impl.fits").run Try.prog w = .ok (256, v) w := by kernel_rfl
/-- a store elsewhere -/
theorem MInv.far {B bm br bj bf M : Nat} {jv : Value} {gs : List Rl} {V : Nat → Int} {w : World} (h : MInv B bm br bj bf M jv gs V w) (L k : Nat) (u : Value) (hL : B ≤ L) (h1 : L < bm) (h2 : L < br) (h3 : L < bj) (h4 : L < bf) (h5 : L < M) :
    MInv B bm br bj bf M jv gs V (w.setCell ⟨L, k, none⟩ u) := by
  obtain ⟨hs, mem, hl, hm, ho⟩ := h
  have hc : ∀ (b o : Nat) v, L ≠ b → w.cell? ⟨b, o, none⟩ = some v → (w.setCell ⟨L, k, none⟩ u).cell? ⟨b, o, none⟩ = some v := fun b o v hne hc => by
    rw [World.cell?_setCell_other _ _ _ _ (fun e => hne (congrArg Addr.block e))]; exact hc
  obtain ⟨v, hv, A, c, rfl, hr⟩ := hs.r
  refine ⟨⟨hc _ _ _ (by omega) hs.m, ⟨_, hc _ _ _ (by omega) hv, A, c, rfl, ?_⟩, hc _ _ _ (by omega) hs.j, hc _ _ _ (by omega) hs.f, hs.nm, hs.nr, hs.nj, hs.nf, hs.hB, by simpa [World.setCell] using hs.hs⟩, mem, hl, hm, ?_⟩
  · rcases hr with hr | ⟨g, hA, hg', hcc⟩
    · exact .inl hr
    · exact .inr ⟨g, hA, hg', fun j u' hu => hc _ _ _ (by omega) (hcc j u' hu)⟩
  · exact World.ownsRow.kept ho (only_setCell (World.grownBy.refl w (some L)) (.inl rfl) u) (.inr (by simp [Value.ownBlock]; omega))
/-- the lengths so far, and zeros behind them -/
def lensK (gs : List Rl) (k : Nat) : List Int := lens (gs.take k) ++ List.replicate (gs.length - k) 0
theorem lensK_len (gs : List Rl) (k : Nat) (h : k ≤ gs.length) : (lensK gs k).length = gs.length := by
  simp [lensK, lens_len]; omega
theorem lensK_set (gs : List Rl) (k : Nat) (h : k < gs.length) : (lensK gs k).set k (lenV gs k) = lensK gs (k + 1) := by
  unfold lensK
  have h1 : (lens (gs.take k)).length = k := by rw [lens_len]; simp; omega
  rw [List.set_append_right _ _ (by omega), h1, Nat.sub_self, show gs.length - k = (gs.length - (k + 1)) + 1 from by omega, List.replicate_succ, List.set_cons_zero, lens_snoc h, List.append_assoc]
  rfl
theorem lensK_all (gs : List Rl) : lensK gs gs.length = lens gs := by simp [lensK]
theorem lensK_zero (gs : List Rl) : lensK gs 0 = List.replicate gs.length 0 := by simp [lensK, lens, vals, valsOn]
/-- all rules fit up to a number -/
def FitTo (gs : List Rl) (k : Nat) : Prop := ∀ j (h : j < gs.length), j < k → gs[j].ok j = true

set_option maxRecDepth 100000 in
set_option maxHeartbeats 3200000 in
theorem vlen_any (v : Value) (gs : List Rl) (w : World) (hf : FewR gs) (hr : Rules w v gs) :
    Calls Try.prog 173 #[.agg #[v]] w (LensPost gs w) := by
  have hR0 := hr
  obtain ⟨A, c, rfl, hr⟩ := hr
  have hn := hf.len
  by_cases hlong : 400 < gs.length
  · have HP : Hid (∀ x w', Below w.heap.size w w' → LensPost gs w (.returned (.tuple #[x, .bool false])) w') := Lib.hid fun x w' hb => ⟨x, by rw [gOk_long hlong], fun h' => by (rw [gOk_long hlong] at h'; cases h'), hb⟩
    clear hr hR0
    go_enter Try.func173, Try.ntmps173
    go_wp2
    go_ret2
    exact HP.out _ _ ((Below.refl _ _).alloc (Nat.le_refl _) _)
  · have h4 : gs.length ≤ 400 := by omega
    have HG := Lib.hid (gOk_short h4)
    obtain ⟨n, hng⟩ : ∃ n, n = gs.length := ⟨_, rfl⟩
    rw [← hng] at hn h4 ⊢
    have HN := Lib.hid hng
    have HR := Lib.hid hr
    have HR0 := Lib.hid hR0
    have HF := Lib.hid hf
    clear hr hR0 hf hlong hng
    go_enter Try.func173, Try.ntmps173
    go_wp2
    go_loopw [4, 5, 16] (fun _ _ i wr => ∃ k : Nat, k ≤ n ∧ i = .int .i64 k ∧ Below w.heap.size w wr ∧ FitTo gs k ∧ wr.cell? ⟨w.heap.size, 0, none⟩ = some (.slice A n c)) (fun _ _ i _ => n - (intOf i).toNat)
    case atStart => exact ⟨0, Nat.zero_le _, rfl, (Below.refl _ _).alloc (Nat.le_refl _) _, fun _ _ h => by omega, cell_new _ _ _⟩
    case round =>
      obtain ⟨k, hk, rfl, hB, hu, hc0⟩ := hrel
      obtain ⟨wo, rfl⟩ : ∃ wo : World, wo = wr := ⟨_, rfl⟩
      by_cases hlt : k < n
      · have hkg : k < gs.length := by rw [← HN.out]; exact hlt
        rcases HR.out with hn | ⟨g, rfl, hg, hc⟩
        · rw [hn] at hkg; simp at hkg
        obtain ⟨a0, a1, a2⟩ := rules_cells hc hkg
        rw [← hB.cell (p := ⟨g, k * 3, none⟩) hg] at a0
        rw [← hB.cell (p := ⟨g, k * 3 + 1, none⟩) hg] at a1
        rw [← hB.cell (p := ⟨g, k * 3 + 2, none⟩) hg] at a2
        clear hc
        by_cases h0 : gs[k].L.size = 0
        · have HK := Lib.hid (fun W => kind_pair gs[k] h0 W)
          have HQ := Lib.hid (fun W => pair_fits gs[k] h0 k W)
          have HM := mt_p
          have hB0 := hB
          have hs0 := hB.size
          cases hok : gs[k].ok k
          · have HBD := Lib.hid (bad_fit hkg hok)
            rw [hok] at HQ
            have HBB := Lib.hid hB
            clear hok hu hB hB0 h0
            go_wp2_with fail
            refine (HK.out _).mono ?_
            rintro e w1 ⟨rfl, hB1⟩
            go_wp2_with fail
            refine (HQ.out _).mono ?_
            rintro e w2 ⟨rfl, hB2⟩
            have HF2 : Hid (∀ x, LensPost gs w (.returned (.tuple #[x, .bool false])) w2) := Lib.hid fun x => ⟨x, by rw [HG.out, HBD.out], fun h' => by (rw [HG.out, HBD.out] at h'; cases h'), ((HBB.out.alloc hs0 _).trans (hB1.mono (by simp; omega))).trans (hB2.mono (Nat.le_trans (by simp; omega) hB1.size))⟩
            clear hB1 hB2
            go_wp2_with fail
            go_ret2
            exact HF2.out _
          · have HU : Hid (FitTo gs (k + 1)) := Lib.hid fun j hj hjk => by
              by_cases e : j = k
              · subst e; exact hok
              · exact hu j hj (by omega)
            rw [hok] at HQ
            have HBB := Lib.hid hB
            have HC0 := Lib.hid hc0
            clear hok hu hB hB0 h0
            go_wp2_with fail
            refine (HK.out _).mono ?_
            rintro e w1 ⟨rfl, hB1⟩
            go_wp2_with fail
            refine (HQ.out _).mono ?_
            rintro e w2 ⟨rfl, hB2⟩
            have hB3 := ((HBB.out.alloc hs0 (.cells #[.string gs[k].L, .int .i64 gs[k].l, .int .i64 gs[k].r] 127)).trans (hB1.mono (by simp; omega))).trans (hB2.mono (Nat.le_trans (by simp; omega) hB1.size))
            have hlc := lt_of_cell HC0.out
            have hc3 : w2.cell? ⟨w.heap.size, 0, none⟩ = some (.slice (some ⟨g, 0, none⟩) n c) := by
              rw [hB2.cell (p := ⟨w.heap.size, 0, none⟩) (Nat.lt_of_lt_of_le (by simp; omega) hB1.size), hB1.cell (p := ⟨w.heap.size, 0, none⟩) (by simp; omega), ((Below.refl _ wo).alloc (Nat.le_refl _) _).cell (p := ⟨w.heap.size, 0, none⟩) hlc]; exact HC0.out
            have HB3 := Lib.hid hB3
            have HC3 := Lib.hid hc3
            clear hB1 hB2 hB3 hc3 hlc
            go_wp2_with fail
            go_roundw
            case rel => first | exact ⟨k + 1, by omega, by go_num, HB3.out, HU.out, HC3.out⟩ | ((repeat apply Exists.intro); exact ⟨⟨k + 1, by omega, by go_num, HB3.out, HU.out, HC3.out⟩, rfl⟩)
            case measure => simp [intOf]; omega
        · have HK := Lib.hid (fun W => kind_letter gs[k] h0 W)
          have HQ := Lib.hid (fun W => letter_fits gs[k] h0 k W)
          have HM := mt_l
          have hB0 := hB
          have hs0 := hB.size
          cases hok : gs[k].ok k
          · have HBD := Lib.hid (bad_fit hkg hok)
            rw [hok] at HQ
            have HBB := Lib.hid hB
            clear hok hu hB hB0 h0
            go_wp2_with fail
            refine (HK.out _).mono ?_
            rintro e w1 ⟨rfl, hB1⟩
            go_wp2_with fail
            refine (HQ.out _).mono ?_
            rintro e w2 ⟨rfl, hB2⟩
            have HF2 : Hid (∀ x, LensPost gs w (.returned (.tuple #[x, .bool false])) w2) := Lib.hid fun x => ⟨x, by rw [HG.out, HBD.out], fun h' => by (rw [HG.out, HBD.out] at h'; cases h'), ((HBB.out.alloc hs0 _).trans (hB1.mono (by simp; omega))).trans (hB2.mono (Nat.le_trans (by simp; omega) hB1.size))⟩
            clear hB1 hB2
            go_wp2_with fail
            go_ret2
            exact HF2.out _
          · have HU : Hid (FitTo gs (k + 1)) := Lib.hid fun j hj hjk => by
              by_cases e : j = k
              · subst e; exact hok
              · exact hu j hj (by omega)
            rw [hok] at HQ
            have HBB := Lib.hid hB
            have HC0 := Lib.hid hc0
            clear hok hu hB hB0 h0
            go_wp2_with fail
            refine (HK.out _).mono ?_
            rintro e w1 ⟨rfl, hB1⟩
            go_wp2_with fail
            refine (HQ.out _).mono ?_
            rintro e w2 ⟨rfl, hB2⟩
            have hB3 := ((HBB.out.alloc hs0 (.cells #[.string gs[k].L, .int .i64 gs[k].l, .int .i64 gs[k].r] 127)).trans (hB1.mono (by simp; omega))).trans (hB2.mono (Nat.le_trans (by simp; omega) hB1.size))
            have hlc := lt_of_cell HC0.out
            have hc3 : w2.cell? ⟨w.heap.size, 0, none⟩ = some (.slice (some ⟨g, 0, none⟩) n c) := by
              rw [hB2.cell (p := ⟨w.heap.size, 0, none⟩) (Nat.lt_of_lt_of_le (by simp; omega) hB1.size), hB1.cell (p := ⟨w.heap.size, 0, none⟩) (by simp; omega), ((Below.refl _ wo).alloc (Nat.le_refl _) _).cell (p := ⟨w.heap.size, 0, none⟩) hlc]; exact HC0.out
            have HB3 := Lib.hid hB3
            have HC3 := Lib.hid hc3
            clear hB1 hB2 hB3 hc3 hlc
            go_wp2_with fail
            go_roundw
            case rel => first | exact ⟨k + 1, by omega, by go_num, HB3.out, HU.out, HC3.out⟩ | ((repeat apply Exists.intro); exact ⟨⟨k + 1, by omega, by go_num, HB3.out, HU.out, HC3.out⟩, rfl⟩)
            case measure => simp [intOf]; omega
      · have hall : FitTo gs gs.length := fun j hj hjk => hu j hj (by have := HN.out; omega)
        have hn' : gs.length ≤ 1048576 := by have := HN.out; omega
        obtain ⟨i0, hi, hz0, hz1, hz2⟩ := info_parts Try.info_i64
        have hsz := hB.size
        have HALL := Lib.hid hall
        have HB := Lib.hid hB
        have HC0 := Lib.hid hc0
        have hk2 : k = n := by omega
        clear hall hu hB
        obtain rfl : k = n := hk2
        go_wp2_with (refine wpList_make_full _ rfl _ _ 22 rfl w.heap.size 2 i0 (.int .i64 0) 1 Try.underlying22 hi hz0 hz1 .i64 .i64 _ _ k rfl rfl rfl rfl (by rw [hz2]; omega) (by unfold maxLen; omega) hsz ?_)
        intro w1 hown hg
        have hB1 := below_of_grown hg
        have hlo := (hown.lt _ rfl).2
        have hBw := HB.out.trans (hB1.mono hsz)
        have c1 : w1.cell? ⟨w.heap.size, 0, none⟩ = some (.slice A k c) := (hB1.cell (p := ⟨w.heap.size, 0, none⟩) (lt_of_cell HC0.out)).trans HC0.out
        have hmd := measured_any w.heap.size (.slice A k c) gs w1 hn' hBw.size (by have := HR0.out.under hBw; rw [← HN.out] at this; exact this)
        have HMD := Lib.hid hmd
        have HO := Lib.hid hown
        have HBW := Lib.hid hBw
        clear hmd hown hg hB1 hBw hc0
        obtain ⟨L, hLe⟩ : ∃ L, L = wo.heap.size := ⟨_, rfl⟩
        rw [← hLe] at hlo HO ⊢
        have HLE := Lib.hid hLe
        clear hLe
        go_wp2_with fail
        refine HMD.out.mono ?_
        rintro e w2 ⟨bm, br, bj, bf, M, rfl, ⟨b1, b2, b3, b4, b5⟩, hI, hB2⟩
        have hB3 := HBW.out.trans (hB2.mono HBW.out.size)
        have hown2 := own_below HO.out hB2 (Nat.le_refl _)
        have hst0 : ∃ j : Nat, j ≤ k ∧ Value.int .i64 0 = .int .i64 j ∧ w2.ownsRow w.heap.size 2 1 (.slice (some ⟨L, 0, none⟩) k k) k (iv (lensK gs j)) ∧ Below w.heap.size w w2 ∧ MInv w.heap.size bm br bj bf M joinV gs (lenV gs) w2 ∧ UpTo gs j :=
          ⟨0, Nat.zero_le _, rfl, by rw [lensK_zero, ← HN.out, ← made_i64]; exact hown2, hB3, hI, upTo_zero _⟩
        have HST0 := Lib.hid hst0
        have hLw : w.heap.size ≤ L := by rw [HLE.out]; exact hsz
        clear hst0 hown2 hB3 hI hB2
        go_wp2_with fail
        go_loopw [8, 36] (fun _ i wr => ∃ j : Nat, j ≤ k ∧ i = .int .i64 j ∧ wr.ownsRow w.heap.size 2 1 (.slice (some ⟨L, 0, none⟩) k k) k (iv (lensK gs j)) ∧ Below w.heap.size w wr ∧ MInv w.heap.size bm br bj bf M joinV gs (lenV gs) wr ∧ UpTo gs j) (fun _ i _ => k - (intOf i).toNat)
        case atStart => exact HST0.out
        case round =>
          obtain ⟨j, hj, rfl, hown, hB, hI, hu⟩ := hrel
          obtain ⟨wp, rfl⟩ : ∃ wp : World, wp = wr := ⟨_, rfl⟩
          by_cases hjk : j < k
          · have hjg : j < gs.length := by rw [← HN.out]; exact hjk
            have hok := HALL.out j hjg hjg
            have HMS := Lib.hid (meas_any w.heap.size bm br bj bf M gs hn' (j + 1) j (by omega) hjg hu hok wp hI)
            have HU := Lib.hid hu
            have HB := Lib.hid hB
            have HO := Lib.hid hown
            have HOK := Lib.hid hok
            clear hu hB hown hok hI
            go_wp2_with fail
            refine HMS.out.mono ?_
            rintro e w3 ⟨rfl, hI3, hg3⟩
            have hown3 := World.ownsRow.kept HO.out hg3 (.inr (by simp [Value.ownBlock]; omega))
            have hB3 := HB.out.grown hg3 HB.out.size (fun q hq => by injection hq with hq; omega)
            have hc3 : w3.cell? ⟨L, j, none⟩ = some (.int .i64 ((lensK gs j).getD j 0)) := by rw [hown3.cellAt j (by omega)]; exact iv_at (by rw [lensK_len _ _ (by omega)]; exact hjg)
            have hf3 : w3.frozen? ⟨L, j, none⟩ = false := hown3.frozenAt _
            generalize (lensK gs j).getD j 0 = zz at hc3
            have hc4 : (w3.setCell ⟨L, j, none⟩ (.int .i64 (lenV gs j))).cell? ⟨L, j, none⟩ = some (.int .i64 (lenV gs j)) := World.cell?_setCell_same _ _ _ hc3
            have hst := (hown3.stored j (.int .i64 (lenV gs j))).1
            rw [← iv_setk, lensK_set gs j hjg] at hst
            have hI4 := MInv.far hI3 L j (.int .i64 (lenV gs j)) hLw (by omega) (by omega) (by omega) (by omega) (by omega)
            have hB4 := hB3.setCell (p := ⟨L, j, none⟩) hLw (.int .i64 (lenV gs j))
            by_cases hbig : 1000000000000000 < lenV gs j
            · have HF2 : Hid (∀ x, LensPost gs w (.returned (.tuple #[x, .bool false])) (w3.setCell ⟨L, j, none⟩ (.int .i64 (lenV gs j)))) := Lib.hid fun x => ⟨x, by rw [HG.out, bad_long hjg hbig], fun h' => by (rw [HG.out, bad_long hjg hbig] at h'; cases h'), hB4⟩
              clear hst hI4 hB4 hB3 hown3 hI3 hg3
              go_wp2_with fail
              go_ret2
              exact HF2.out _
            · have HNW : Hid (∃ j' : Nat, j' ≤ k ∧ Value.int .i64 ((j + 1 : Nat) : Int) = .int .i64 j' ∧ (w3.setCell ⟨L, j, none⟩ (.int .i64 (lenV gs j))).ownsRow w.heap.size 2 1 (.slice (some ⟨L, 0, none⟩) k k) k (iv (lensK gs j')) ∧ Below w.heap.size w (w3.setCell ⟨L, j, none⟩ (.int .i64 (lenV gs j))) ∧ MInv w.heap.size bm br bj bf M joinV gs (lenV gs) (w3.setCell ⟨L, j, none⟩ (.int .i64 (lenV gs j))) ∧ UpTo gs j') :=
                Lib.hid ⟨j + 1, by omega, rfl, hst, hB4, hI4, upTo_succ HU.out hjg HOK.out (by unfold lenV at hbig; omega)⟩
              clear hst hI4 hB4 hB3 hown3 hI3 hg3
              go_wp2_with fail
              go_roundw
              case rel => first | exact HNW.out | ((repeat apply Exists.intro); exact ⟨HNW.out, rfl⟩)
              case measure => simp [intOf]; omega
          · have hjn : j = gs.length := by have := HN.out; omega
            have hfs := upTo_all hu (by omega)
            rw [hjn, lensK_all] at hown
            have HY : Hid (LensPost gs w (.returned (.tuple #[.slice (some ⟨L, 0, none⟩) k k, .bool true])) wp) := Lib.hid ⟨_, by rw [HG.out, hfs], fun _ => by unfold OwnsI; rw [lens_len, ← HN.out]; exact hown, hB⟩
            clear hown hB hI hu hfs hjn
            go_wp2_with fail
            go_ret2
            exact HY.out
end Go.Proofs.Ytaffachjopjbgaa.len
namespace Go.Proofs.Ytaffachjopjbgaa
open Go.RowKit
open Wd
set_option linter.unusedVariables false

theorem implValidGrammar (v : Value) (gs : List Rl) (w : World) (hf : FewR gs) (hr : Rules w v gs) :
    Calls Try.prog 121 #[.agg #[v]] w fun e w' => e = .returned (.bool (gOk gs)) ∧ Below w.heap.size w w' := by
  have hb := (Below.refl _ w).alloc (Nat.le_refl _) (.cells #[v] 37)
  have h1 := len.vlen_any v gs _ hf (hr.kept hb)
  have H1 := Lib.hid h1
  have HB := Lib.hid hb
  obtain ⟨A, c, rfl, _⟩ := hr
  clear h1 hb
  go_enter Try.func121, Try.ntmps121
  go_wp2_with fail
  refine H1.out.mono ?_
  rintro e w1 ⟨x, rfl, _, hB1⟩
  have HB1 := Lib.hid hB1
  clear hB1
  go_wp2_with fail
  go_ret
  exact ⟨rfl, HB.out.trans (HB1.out.mono (by simp))⟩
end Go.Proofs.Ytaffachjopjbgaa
namespace Go.Proofs.Ytaffachjopjbgaa
open Go.RowKit
open Wd
set_option linter.unusedVariables false

theorem run_append_of_nil {P : Program} (w : World) (base : Nat) (t ty e : TypeId) (i : TypeInfo) (size : Nat) (ht : P.underlying t = some (.slice e)) (hi : P.info? e = some i)
    (v : Value) (n : Nat) (xs : List Value) (hown : w.ownsRow base e size v n xs) (c : Nat) : (Builtin.append_ #[t, t] ty #[v, .slice none 0 c]).run P w = .ok v w := by
  rcases hown.2 with ⟨rfl, rfl⟩ | ⟨g, cap, cur, rfl, _, _, hnc, _⟩
  · simp [Builtin.append_, run_underlying ht, sizeOf, typeInfo, hi, Builtin.lenOf, Builtin.firstCells]
  · simp [Builtin.append_, run_underlying ht, sizeOf, typeInfo, hi, Builtin.lenOf, Builtin.firstCells, hnc, storeCells]
theorem wpList_append_nilc {P : Program} {w : World} {ops : Array Oper} {rest : List Oper} {o : Oper} {a : Act} {Q : Exit → Act → World → Prop} (hgd : o.guard = none) (s x : Operand) (t : TypeId)
    (ho : o.op = .call { callee := .builtin .append, args := #[s, x], argTypes := #[t, t] })
    (base : Nat) (e : TypeId) (i : TypeInfo) (size : Nat) (ht : P.underlying t = some (.slice e)) (hi : P.info? e = some i)
    (v : Value) (n : Nat) (xs : List Value) (hs : a.eval s = v) (hown : w.ownsRow base e size v n xs) (c : Nat) (hx : a.eval x = .slice none 0 c)
    (h : wpList P ops Q rest (a.put o.dst v) w) : wpList P ops Q (o :: rest) a w := by
  refine wpList_plain hgd fun K hK => ?_
  have hrun := run_append_of_nil (P := P) w base t o.type e i size ht hi v n xs hown c
  unfold Oper.wp
  simp [execOp, ho, resolve, invoke, builtin, hs, hx, hrun, Result.andThen]
  exact hK _ _ h

end Go.Proofs.Ytaffachjopjbgaa
namespace Go.Proofs.Ytaffachjopjbgaa
open Go.RowKit
open Wd
set_option linter.unusedVariables false

theorem eqI_zero (a b : Option Addr) (c d : Nat) (w : World) :
    Calls Try.prog 35 #[.slice a 0 c, .slice b 0 d] w fun e w' => e = .returned (.bool true) ∧ Drawn w w' := by
  go_enter Try.func35, Try.ntmps35
  go_wp2
  refine wp_loop_rounds 1 ?_
  rw [rounds_succ]
  go_wp2
  go_ret
  exact ⟨rfl, Drawn.refl _⟩

set_option maxHeartbeats 400000 in
theorem eqI_some (g1 g2 c d n : Nat) (zs : List Int) (hn : zs.length = n) (hn' : n ≤ 1000000) (w : World) (h1 : ∀ j (hj : j < zs.length), w.cell? ⟨g1, j, none⟩ = some (.int .i64 zs[j])) (h2 : ∀ j (hj : j < zs.length), w.cell? ⟨g2, j, none⟩ = some (.int .i64 zs[j])) :
    Calls Try.prog 35 #[.slice (some ⟨g1, 0, none⟩) n c, .slice (some ⟨g2, 0, none⟩) n d] w fun e w' => e = .returned (.bool true) ∧ Drawn w w' := by
  have H1 := Lib.hid h1
  have H2 := Lib.hid h2
  have HN := Lib.hid hn
  clear h1 h2 hn
  go_enter Try.func35, Try.ntmps35
  go_wp2
  go_loopw [5] (fun i wr => ∃ k : Nat, k ≤ n ∧ i = .int .i64 k ∧ Drawn w wr) (fun i _ => n - (intOf i).toNat)
  case atStart => exact ⟨0, Nat.zero_le _, rfl, Drawn.refl _⟩
  case round =>
    obtain ⟨k, hk, rfl, hD⟩ := hrel
    by_cases hlt : k < n
    · have hkz : k < zs.length := by rw [HN.out]; exact hlt
      have c1 : wr.cell? ⟨g1, k, none⟩ = some (.int .i64 zs[k]) := by obtain ⟨m, rfl⟩ := hD; exact H1.out k hkz
      have c2 : wr.cell? ⟨g2, k, none⟩ = some (.int .i64 zs[k]) := by obtain ⟨m, rfl⟩ := hD; exact H2.out k hkz
      generalize zs[k] = z at c1 c2
      clear hkz
      go_wp2
      go_quiet (fail)
      go_wp2
      go_roundw
      case rel => exact ⟨k + 1, by omega, by go_num, hD.drewN _⟩
      case measure => simp [intOf]; omega
    · go_wp2
      go_ret
      exact ⟨rfl, hD⟩

theorem eqI (a b : Value) (zs : List Int) (B C : Nat) (w : World) (h1 : OwnsI w B a zs) (h2 : OwnsI w C b zs) (hn : zs.length ≤ 1000000) :
    Calls Try.prog 35 #[a, b] w fun e w' => e = .returned (.bool true) ∧ Drawn w w' := by
  by_cases h0 : zs.length = 0
  · have hz := List.eq_nil_of_length_eq_zero h0
    subst hz
    have sh : ∀ {v B}, OwnsI w B v [] → ∃ a c, v = .slice a 0 c := fun h => by
      rcases h.shape with ⟨rfl, _⟩ | ⟨g, cap, rfl, _⟩
      · exact ⟨_, _, rfl⟩
      · exact ⟨_, _, rfl⟩
    obtain ⟨_, _, rfl⟩ := sh h1
    obtain ⟨_, _, rfl⟩ := sh h2
    exact eqI_zero _ _ _ _ _
  · rcases h1.shape with ⟨_, rfl⟩ | ⟨g1, c1, rfl, _⟩
    · simp at h0
    rcases h2.shape with ⟨_, rfl⟩ | ⟨g2, c2, rfl, _⟩
    · simp at h0
    exact eqI_some g1 g2 c1 c2 _ zs rfl hn w (fun j hj => h1.cell j hj) (fun j hj => h2.cell j hj)

theorem markI_zero (a : Option Addr) (c : Nat) (k : Int) (w : World) :
    Calls Try.prog 38 #[.slice a 0 c, .int .i64 k] w fun e w' => e = .returned (.int .i64 k) ∧ w = w' := by
  go_enter Try.func38, Try.ntmps38
  go_wp2
  refine wp_loop_rounds 1 ?_
  rw [rounds_succ]
  go_wp2
  go_ret
  exact ⟨rfl, rfl⟩

set_option maxHeartbeats 400000 in
theorem markI_some (g c n B : Nat) (zs : List Int) (hn : zs.length = n) (hn' : n ≤ 1048576) (k : Int) (hk0 : 0 ≤ k) (hk1 : k ≤ 8796093022208) (w : World) (h : w.ownsRow B 2 1 (.slice (some ⟨g, 0, none⟩) n c) n (iv zs)) :
    Calls Try.prog 38 #[.slice (some ⟨g, 0, none⟩) n c, .int .i64 k] w fun e w' => e = .returned (.int .i64 (k + n)) ∧
      w'.ownsRow B 2 1 (.slice (some ⟨g, 0, none⟩) n c) n (iv (marks k n)) ∧ w.grownBy w' (some g) := by
  have HN := Lib.hid hn
  clear hn
  go_enter Try.func38, Try.ntmps38
  go_wp2
  go_loopw [1, 5] (fun q i wr => ∃ j : Nat, j ≤ n ∧ i = .int .i64 j ∧ q = .int .i64 (k + j) ∧ wr.ownsRow B 2 1 (.slice (some ⟨g, 0, none⟩) n c) n (iv (marks k j ++ zs.drop j)) ∧ w.grownBy wr (some g))
    (fun _ i _ => n - (intOf i).toNat)
  case atStart => exact ⟨0, Nat.zero_le _, rfl, by simp, by simpa [marks] using h, World.grownBy.refl _ _⟩
  case round =>
    obtain ⟨j, hj, rfl, rfl, hown, hgr⟩ := hrel
    by_cases hlt : j < n
    · have hjz : j < zs.length := by rw [HN.out]; exact hlt
      have hc : wr.cell? ⟨g, j, none⟩ = some (.int .i64 zs[j]) := by
        have hw : (marks k j ++ zs.drop j)[j]? = some zs[j] := by
          rw [List.getElem?_append_right (by rw [marks_len]; omega), marks_len, Nat.sub_self, List.getElem?_drop]; simp [hjz]
        rw [hown.cellAt j (by omega)]
        simp only [iv, List.getElem?_map, hw, Option.map_some]
      have hf : wr.frozen? ⟨g, j, none⟩ = false := hown.frozenAt j
      have hst := hown.stored j (.int .i64 (k + j))
      rw [iv_set k zs j hjz] at hst
      obtain ⟨hst1, hst2⟩ := hst
      have hg2 : w.grownBy (wr.setCell ⟨g, j, none⟩ (.int .i64 (k + j))) (some g) := ⟨hst2.os.trans hgr.os, hst2.tape.trans hgr.tape, hst2.output.trans hgr.output, Nat.le_trans hgr.size hst2.size, fun q hq hne => (hst2.block q (Nat.lt_of_lt_of_le hq hgr.size) hne).trans (hgr.block q hq hne)⟩
      generalize zs[j] = z at hc
      clear hst2 hgr hown hjz
      go_wp2
      go_roundw
      case rel => exact ⟨j + 1, by omega, by go_num, by go_num, hst1, hg2⟩
      case measure => simp [intOf]; omega
    · have hjn : j = n := by omega
      have hown' : wr.ownsRow B 2 1 (.slice (some ⟨g, 0, none⟩) n c) n (iv (marks k n)) := by
        rw [hjn, List.drop_of_length_le (by rw [HN.out]; omega), List.append_nil] at hown; exact hown
      have HJ := Lib.hid hjn
      clear hjn hown
      go_wp2
      go_ret
      exact ⟨ret_int (by have := HJ.out; omega), hown', hgr⟩

theorem markI (v : Value) (zs : List Int) (B : Nat) (k : Int) (hk0 : 0 ≤ k) (hk1 : k ≤ 8796093022208) (w : World) (h : OwnsI w B v zs) (hn : zs.length ≤ 1048576) :
    Calls Try.prog 38 #[v, .int .i64 k] w fun e w' => e = .returned (.int .i64 (k + zs.length)) ∧ OwnsI w' B v (marks k zs.length) ∧ w.grownBy w' v.ownBlock := by
  rcases h.shape with ⟨rfl, rfl⟩ | ⟨g, c, rfl, _⟩
  · refine (markI_zero none 0 k w).mono fun e w' ⟨he, hw⟩ => ?_
    subst hw
    exact ⟨by rw [he]; simp, World.ownsRow_nil _ _ _ _, World.grownBy.refl _ _⟩
  · refine (markI_some g c _ B zs rfl hn k hk0 hk1 w h).mono fun e w' ⟨he, hw, hg⟩ => ⟨he, ?_, hg⟩
    unfold OwnsI
    rw [marks_len]
    exact hw

theorem heldI_zero (a : Option Addr) (c : Nat) (k : Int) (w : World) :
    Calls Try.prog 39 #[.slice a 0 c, .int .i64 k] w fun e w' => e = .returned (.int .i64 k) ∧ w = w' := by
  go_enter Try.func39, Try.ntmps39
  go_wp2
  refine wp_loop_rounds 1 ?_
  rw [rounds_succ]
  go_wp2
  go_ret
  exact ⟨rfl, rfl⟩

set_option maxHeartbeats 400000 in
theorem heldI_some (g c n : Nat) (hn' : n ≤ 1048576) (k : Int) (hk0 : 0 ≤ k) (hk1 : k ≤ 8796093022208) (w : World) (h : ∀ j, j < n → w.cell? ⟨g, j, none⟩ = some (.int .i64 (k + j))) :
    Calls Try.prog 39 #[.slice (some ⟨g, 0, none⟩) n c, .int .i64 k] w fun e w' => e = .returned (.int .i64 (k + n)) ∧ w = w' := by
  have H := Lib.hid h
  clear h
  go_enter Try.func39, Try.ntmps39
  go_wp2
  go_loop [1, 5] (fun q i => ∃ j : Nat, j ≤ n ∧ i = .int .i64 j ∧ q = .int .i64 (k + j)) (fun _ i => n - (intOf i).toNat)
  case atStart => exact ⟨0, Nat.zero_le _, rfl, by simp⟩
  case round =>
    obtain ⟨j, hj, rfl, rfl⟩ := hrel
    by_cases hlt : j < n
    · have hc := H.out j hlt
      go_wp2
      go_round
      case rel => exact ⟨j + 1, by omega, by go_num, by go_num⟩
      case measure => simp [intOf]; omega
    · have hjn : j = n := by omega
      have HJ := Lib.hid hjn
      clear hjn
      go_wp2
      go_ret
      exact ⟨ret_int (by have := HJ.out; omega), rfl⟩

theorem heldI (v : Value) (n B : Nat) (k : Int) (hk0 : 0 ≤ k) (hk1 : k ≤ 8796093022208) (w : World) (h : OwnsI w B v (marks k n)) (hn : n ≤ 1048576) :
    Calls Try.prog 39 #[v, .int .i64 k] w fun e w' => e = .returned (.int .i64 (k + n)) ∧ w = w' := by
  rcases h.shape with ⟨rfl, h0⟩ | ⟨g, c, rfl, _⟩
  · have : n = 0 := by have := congrArg List.length h0; rw [marks_len] at this; simpa using this
    subst this
    refine (heldI_zero none 0 k w).mono fun e w' ⟨he, hw⟩ => ⟨by rw [he]; simp, hw⟩
  · have hc : ∀ j, j < n → w.cell? ⟨g, j, none⟩ = some (.int .i64 (k + j)) := fun j hj => by
      have := h.cell j (by rw [marks_len]; exact hj)
      rw [this]
      simp [marks]
    rw [marks_len]
    exact heldI_some g c n hn k hk0 hk1 w hc
end Go.Proofs.Ytaffachjopjbgaa
namespace Go.Proofs.Ytaffachjopjbgaa
open Go.RowKit
open Wd
set_option linter.unusedVariables false

theorem rules_gpT {w : World} {v : Value} {gs : List Rl} (h : Rules w v gs) (t : TypeId) : GP (w.alloc (.cells #[v] t)) w.heap.size gs :=
  ⟨v, cell_new w v t, h.kept ((Below.refl _ w).alloc (Nat.le_refl _) _)⟩
/-- a variable in a block of its own -/
def Var (w : World) (b : Nat) (v : Value) (t : TypeId) : Prop := w.heap[b]? = some (.cells #[v] t (0, 0))
theorem Var.new (w : World) (v : Value) (t : TypeId) : Var (w.alloc (.cells #[v] t)) w.heap.size v t := heap_alloc_new w _
theorem Var.cell {w : World} {b : Nat} {v : Value} {t : TypeId} (h : Var w b v t) : w.cell? ⟨b, 0, none⟩ = some v ∧ w.frozen? ⟨b, 0, none⟩ = false := by
  refine ⟨by rw [cell_of_row _ _ _ _ _ _ h]; rfl, ?_⟩
  unfold Var at h
  simp [World.frozen?, h]
theorem Var.lt {w : World} {b : Nat} {v : Value} {t : TypeId} (h : Var w b v t) : b < w.heap.size := (Array.getElem?_eq_some_iff.1 h).1
theorem Var.kept {w w' : World} {b : Nat} {v : Value} {t : TypeId} (h : Var w b v t) (hb : Below w.heap.size w w') : Var w' b v t := (hb.block b h.lt).trans h
theorem Var.far {w : World} {b : Nat} {v : Value} {t : TypeId} (h : Var w b v t) (p : Addr) (u : Value) (hp : b ≠ p.block) : Var (w.setCell p u) b v t := (Below.heap_setCell w p u b hp).trans h
theorem Var.drewN {w : World} {b : Nat} {v : Value} {t : TypeId} (h : Var w b v t) (n : Nat) : Var (w.drewN n) b v t := h
theorem rules_cases {w : World} {v : Value} {gs : List Rl} (h : Rules w v gs) :
    (∃ c, v = .slice none 0 c ∧ gs = []) ∨ ∃ ad c, v = .slice (some ad) gs.length c ∧ ∀ j u, (rv gs)[j]? = some u → w.cell? (ad.add j) = some u := by
  obtain ⟨A, c, rfl, h | ⟨g, rfl, hg, hc⟩⟩ := h
  · subst h
    cases A with
    | none => exact .inl ⟨c, rfl, rfl⟩
    | some ad => exact .inr ⟨ad, c, rfl, fun j u hu => by simp [rv] at hu⟩
  · refine .inr ⟨_, c, rfl, fun j u hu => ?_⟩
    have := hc j u hu
    unfold Addr.add
    split
    · subst_vars; exact this
    · simpa using this

end Go.Proofs.Ytaffachjopjbgaa
namespace Go.Proofs.Ytaffachjopjbgaa
open Go.RowKit
open Wd
set_option linter.unusedVariables false

namespace Wd
/-- the number of a letter -/
def ltNo (x : Rl) : Nat := (x.L.data.toList.headD 97).toNat - 97
/-- a letter as its one byte -/
theorem letter_byte {x : Rl} {n : Nat} (h0 : x.L.size ≠ 0) (h : x.ok n = true) : ∃ c : UInt8, x.L = ⟨#[c]⟩ ∧ 97 ≤ (c.toNat : Int) ∧ (c.toNat : Int) ≤ 100 ∧ ltNo x = c.toNat - 97 := by
  obtain ⟨⟨h1, h2⟩, _⟩ := (ok_letter h0).1 h
  obtain ⟨⟨⟨l⟩⟩, a, b⟩ := x
  match l, h1 with
  | [c], _ =>
    have h3 := of_lt (okL_at h2 (i := 0) (by simp))
    exact ⟨c, rfl, by simpa using h3.1, by simpa using h3.2, rfl⟩
theorem own_addr {w : World} {B e s n c : Nat} {A : Option Addr} {xs : List Value} (h : w.ownsRow B e s (.slice A n c) n xs) (hn : 0 < n) : ∃ g, A = some ⟨g, 0, none⟩ ∧ B ≤ g ∧ g < w.heap.size := by
  rcases h.2 with ⟨_, h0⟩ | ⟨g, cap, cur, hv, hb, hg, _⟩
  · omega
  · injection hv with hv
    exact ⟨g, hv, hb, (Array.getElem?_eq_some_iff.1 hg).1⟩
end Wd
theorem cell_far0 {w : World} {a b i j : Nat} (h : a ≠ b) (u : Value) : (w.setCell ⟨b, j, none⟩ u).cell? ⟨a, i, none⟩ = w.cell? ⟨a, i, none⟩ :=
  World.cell?_of_block (a := ⟨a, i, none⟩) (Below.heap_setCell w ⟨b, j, none⟩ u a h)
theorem own_kinds_ne {w : World} {B B' e e' s s' n n' : Nat} {v u : Value} {xs ys : List Value} (h : w.ownsRow B e s v n xs) (h' : w.ownsRow B' e' s' u n' ys) (hne : e ≠ e') : v.ownBlock = none ∨ v.ownBlock ≠ u.ownBlock := by
  rcases h.2 with ⟨rfl, _⟩ | ⟨g1, cap, cur, rfl, _, hg, _⟩
  · exact .inl rfl
  · refine .inr fun e => ?_
    rcases h'.2 with ⟨rfl, _⟩ | ⟨g', cap', cur', rfl, _, hg', _⟩
    · simp [Value.ownBlock] at e
    · have : g1 = g' := by simpa [Value.ownBlock] using e
      subst this
      rw [hg] at hg'
      injection hg' with h1
      injection h1 with _ h2
      exact hne h2
theorem own_other {w w5 : World} {B B' e e' s s' n n' : Nat} {v u : Value} {xs ys : List Value} {o : Obj} (h : w.ownsRow B e s v n xs) (h' : w.ownsRow B' e' s' u n' ys) (hne : e ≠ e') (hg : (w.alloc o).grownBy w5 u.ownBlock) : w5.ownsRow B e s v n xs :=
  World.ownsRow.kept (h.alloc o) hg (own_kinds_ne h h' hne)
theorem made_i64 (n : Nat) : (madeCells #[.int .i64 0] n).toList = iv (List.replicate n 0) := by
  apply List.ext_getElem
  · simp [madeCells, iv]
  · intro i h1 h2
    simp [madeCells, iv, Nat.mod_one]
theorem iv_setU (mem : List Int) (k : Nat) (z : Int) : iv (mem.set k z) = (iv mem).set k (.int .i64 z) := by simp [iv, List.map_set]
theorem u_store {w : World} {B e g n : Nat} {u : List Int} (h : w.ownsRow B e 1 (.slice (some ⟨g, 0, none⟩) n n) n (iv u)) (k : Nat) (z : Int) :
    (w.setCell ⟨g, k, none⟩ (.int .i64 z)).ownsRow B e 1 (.slice (some ⟨g, 0, none⟩) n n) n (iv (u.set k z)) := by
  rw [iv_setU]; exact (h.stored k (.int .i64 z)).1
end Go.Proofs.Ytaffachjopjbgaa
namespace Go.Proofs.Ytaffachjopjbgaa
open Go.RowKit
open Wd
set_option linter.unusedVariables false

set_option maxHeartbeats 800000 in
/-- spec.l02Length of a grammar whose rules are right -/
theorem l02Length_any (p : Nat) (gs : List Rl) (w : World) (hf : FewR gs) (h : GP w p gs) (hok : (fits gs && small gs) = true) :
    Calls Try.prog 100 #[.pointer (some ⟨p, 0, none⟩)] w fun e w' => e = .returned (.int .i64 (wordLen gs)) ∧ Below w.heap.size w w' := by
  have HC := Lib.hid (sizes_any p gs w hf h)
  have hn := hf.len
  clear h hf
  have HK := Lib.hid hok
  clear hok
  go_enter Try.func100, Try.ntmps100
  go_wp2_with fail
  refine HC.out.mono ?_
  rintro e w' ⟨x, rfl, ho, hB⟩
  rw [HK.out]
  have ho := ho HK.out
  by_cases h0 : gs.length = 0
  · have hz := wordLen_zero h0
    have hl : (lens gs).length = 0 := by rw [lens_len]; exact h0
    obtain ⟨A, c, rfl⟩ := own_slice ho
    rw [hl]
    have HZ := Lib.hid hz
    clear ho h0 hz hl
    go_wp2
    go_ret
    exact ⟨ret_int HZ.out.symm, hB⟩
  · obtain ⟨m, hm⟩ : ∃ m, gs.length = m + 1 := ⟨gs.length - 1, by omega⟩
    have hl : (lens gs).length = m + 1 := by rw [lens_len]; exact hm
    rcases ho.shape with ⟨_, h'⟩ | ⟨g, cap, rfl, _⟩
    · rw [h'] at hl; simp at hl
    have hc := ho.cell m (by omega)
    have hw : wordLen gs = (lens gs)[m] := by
      unfold wordLen
      rw [hm, Nat.add_sub_cancel, List.getD_eq_getElem?_getD, List.getElem?_eq_getElem (by omega), Option.getD_some]
    rw [← hw] at hc
    rw [hl]
    have hm' : m ≤ 1048576 := by omega
    clear ho h0 hw hl hm hn
    go_wp2
    go_ret
    exact ⟨rfl, hB⟩
end Go.Proofs.Ytaffachjopjbgaa
