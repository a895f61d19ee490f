/-
  Contracts and numbers of the functions that the laws of this place call, one text behind the other. No condition beyond those that each theorem names.
-/
import Derived.WalkKit
import Derived.Test.YtapemoehcohjgaaProg
import Derived.WalkSpells
import Derived.WalkLawsBesides
import Derived.BigQuiet
import Derived.Deep.QuietTactic
import Derived.Lib.Hide
import Derived.Lib.Strings
import Derived.Laws.IdiomStrings
import Derived.Laws.BytesArg
import Derived.Below
import Derived.Laws.OwnMore
import Derived.Deep.Draws
import Derived.Laws.Rows
import Derived.Outline
import Derived.StillTailTactics
import Derived.OwnWalk
import Derived.Laws.MakeOwn
import Derived.Deep.RegionHeld3
import Derived.Laws.Tables
import Derived.Deep.MidRow
import Derived.Deep.WholeRow
import Derived.Deep.Cut
import Derived.Deep.AppendLies
import Derived.Deep.Matrix
import Derived.Deep.Fields
import Derived.ChangeSame
import Derived.Lib.SmallJoins
import Derived.ProofKit
import Derived.OpenShut
import Derived.Deep.Strs
import Derived.Deep.Slices
import Derived.Deep.RegionLaw
namespace Go.Proofs.Ytapemoehcohjgaa
namespace Wd

/-- a letter -/
def lt (c : UInt8) : Bool := 97 ≤ c && c ≤ 100
/-- a plain word -/
def okL (l : List UInt8) : Bool := decide (l.length ≤ 2000) && l.all lt

theorem lt_true {c : UInt8} (h1 : (97 : Int) ≤ (c.toNat : Int)) (h2 : (c.toNat : Int) ≤ 100) : lt c = true := by
  simp [lt, UInt8.le_iff_toNat_le]; omega
theorem lt_low {c : UInt8} (h1 : (c.toNat : Int) < 97) : lt c = false := by
  simp [lt, UInt8.le_iff_toNat_le]; omega
theorem lt_high {c : UInt8} (h1 : (100 : Int) < (c.toNat : Int)) : lt c = false := by
  simp [lt, UInt8.le_iff_toNat_le]; omega
theorem of_lt {c : UInt8} (h : lt c = true) : (97 : Int) ≤ (c.toNat : Int) ∧ (c.toNat : Int) ≤ 100 := by
  simp [lt, UInt8.le_iff_toNat_le] at h; omega
theorem of_not_lt {c : UInt8} (h : lt c = false) : (c.toNat : Int) < 97 ∨ (100 : Int) < (c.toNat : Int) := by
  by_cases h1 : (c.toNat : Int) < 97
  · exact .inl h1
  · by_cases h2 : (100 : Int) < (c.toNat : Int)
    · exact .inr h2
    · exact absurd (lt_true (c := c) (by omega) (by omega)) (by rw [h]; simp)

theorem take_snoc (s : ByteArray) (k : Nat) (h : k < s.size) : s.data.toList.take (k + 1) = s.data.toList.take k ++ [s[k]] := by
  rw [List.take_succ_eq_append_getElem (by simpa using h)]; rfl

theorem rev_snoc (s : ByteArray) (j m : Nat) (h : j + (m + 1) = s.size) : s.data.toList.reverse.take (j + 1) = s.data.toList.reverse.take j ++ [s[m]] := by
  have hl : s.data.toList.length = s.size := by simp
  rw [List.take_succ_eq_append_getElem (by simp; omega)]
  congr 1
  have : s[m] = s.data.toList[m]'(by omega) := rfl
  rw [this, List.getElem_reverse]
  congr 2
  omega

theorem extract_one (s : ByteArray) (k : Nat) (h : k < s.size) : (s.extract k (k + 1)).data.toList = [s[k]] := by
  have h' : k < s.data.size := h
  rw [ByteArray.data_extract, Array.toList_extract, List.extract_eq_take_drop]
  rw [show k + 1 - k = 1 from by omega, List.drop_eq_getElem_cons (by simpa using h')]
  simp
  rfl

theorem okL_long {l : List UInt8} (h : 2000 < l.length) : okL l = false := by
  simp [okL]; omega
theorem okL_len {l : List UInt8} (h : okL l = true) : l.length ≤ 2000 := by
  simp [okL] at h; exact h.1
theorem okL_of {l : List UInt8} (h : l.length ≤ 2000) (ha : l.all lt = true) : okL l = true := by
  simp only [okL, h, ha]; rfl
theorem okL_bad {l : List UInt8} {i : Nat} (h : i < l.length) (hb : lt l[i] = false) : okL l = false := by
  have : l.all lt = false := by
    rw [List.all_eq_false]; exact ⟨l[i], List.getElem_mem _, by simp [hb]⟩
  simp [okL, this]
theorem okL_at {l : List UInt8} (h : okL l = true) {i : Nat} (hi : i < l.length) : lt l[i] = true := by
  simp only [okL, Bool.and_eq_true, List.all_eq_true] at h
  exact h.2 _ (List.getElem_mem _)
/-- how many letters two lists have in common from the beginning on -/
def lcp : List UInt8 → List UInt8 → Nat
  | a :: u, b :: v => if a = b then lcp u v + 1 else 0
  | _, _ => 0
theorem lcp_of : ∀ (u v : List UInt8) (k : Nat), k ≤ u.length → k ≤ v.length → u.take k = v.take k →
    ((k = u.length ∨ k = v.length) ∨ ∃ (h1 : k < u.length) (h2 : k < v.length), u[k] ≠ v[k]) → lcp u v = k
  | [], v, k, h1, _, _, _ => by simp at h1; subst h1; simp [lcp]
  | _ :: _, [], k, _, h2, _, _ => by simp at h2; subst h2; simp [lcp]
  | a :: u, b :: v, 0, _, _, _, h => by
    rcases h with (h | h) | ⟨h1, h2, h⟩
    · simp at h
    · simp at h
    · simp at h; simp [lcp, h]
  | a :: u, b :: v, k + 1, h1, h2, ht, h => by
    simp only [List.take_succ_cons, List.cons.injEq] at ht
    simp only [lcp, ht.1, if_true]
    rw [lcp_of u v k (by simpa using h1) (by simpa using h2) ht.2]
    rcases h with (h | h) | ⟨h3, h4, h⟩
    · exact .inl (.inl (by simpa using h))
    · exact .inl (.inr (by simpa using h))
    · exact .inr ⟨by simpa using h3, by simpa using h4, by simpa using h⟩
end Wd
end Go.Proofs.Ytapemoehcohjgaa
namespace Go.Proofs.Ytapemoehcohjgaa
open Go.RowKit
open Wd

theorem ret_bool {a b : Bool} (h : a = b) : Ending.returned (.bool a) = .returned (.bool b) := by rw [h]

/-- spec.l01Ok -/
theorem specOk (s : ByteArray) (w : World) (hs : s.size ≤ maxLen) :
    Calls Try.prog 46 #[.string s] w fun e w' => e = .returned (.bool (okL s.data.toList)) ∧ w = w' := by
  unfold maxLen at hs
  by_cases hbig : 2000 < s.size
  · go_enter Try.func46, Try.ntmps46
    go_wp2
    go_ret
    exact ⟨ret_bool (okL_long (by simpa using hbig)).symm, rfl⟩
  · go_enter Try.func46, Try.ntmps46
    go_wp2
    go_loop [3] (fun i => ∃ k : Nat, k ≤ s.size ∧ i = .int .i64 k ∧ (s.data.toList.take k).all lt = true) (fun i => s.size - (intOf i).toNat)
    case atStart => exact ⟨0, Nat.zero_le _, rfl, rfl⟩
    case round =>
      obtain ⟨k, hk, rfl, hall⟩ := hrel
      by_cases hlt : k < s.size
      · have hsn := take_snoc s k hlt
        have HS : Hid (s.data.toList.take (k + 1) = s.data.toList.take k ++ [s[k]]) := hsn
        have HA : Hid ((s.data.toList.take k).all lt = true) := hall
        clear hsn hall
        by_cases h1 : (s[k].toNat : Int) < 97
        · go_wp2
          go_ret
          exact ⟨ret_bool (okL_bad (i := k) (by simpa using hlt) (lt_low h1)).symm, rfl⟩
        · have h1' : decide ((s[k].toNat : Int) < 97) = false := by simpa using h1
          by_cases h2 : (100 : Int) < (s[k].toNat : Int)
          · go_wp2
            go_ret
            exact ⟨ret_bool (okL_bad (i := k) (by simpa using hlt) (lt_high h2)).symm, rfl⟩
          · go_wp2
            go_round
            case rel => exact ⟨k + 1, by omega, by go_num, by rw [HS.out, List.all_append, HA.out]; simp [lt_true (c := s[k]) (by omega) (by omega)]⟩
            case measure => simp [intOf]; omega
      · have hk' : k = s.size := by omega
        have hfin : okL s.data.toList = true := okL_of (by simp; omega) (by rw [← hall, List.take_of_length_le (by simp; omega)])
        have HF : Hid (okL s.data.toList = true) := hfin
        clear hfin hall
        go_wp2
        go_ret
        exact ⟨ret_bool HF.out.symm, rfl⟩

theorem implLetter0 (s : ByteArray) (w : World) (h0 : 0 < s.size) (hz : ((s.size : Int) == 1) = true) :
    Calls Try.prog 82 #[.string s] w fun e w' => e = .returned (.bool (lt s[0])) ∧ w = w' := by
  by_cases h1 : (s[0].toNat : Int) < 97
  · go_enter Try.func82, Try.ntmps82
    go_wp2
    go_ret
    exact ⟨ret_bool (lt_low h1).symm, rfl⟩
  · by_cases h2 : (100 : Int) < (s[0].toNat : Int)
    · go_enter Try.func82, Try.ntmps82
      go_wp2
      go_ret
      exact ⟨ret_bool (by rw [lt_high h2]; simp; omega), rfl⟩
    · go_enter Try.func82, Try.ntmps82
      go_wp2
      go_ret
      exact ⟨ret_bool (lt_true (by omega) (by omega)).symm, rfl⟩
/-- impl.isLetter at a text of one byte -/
theorem implLetter (s : ByteArray) (c : UInt8) (w : World) (hs : s.data.toList = [c]) :
    Calls Try.prog 82 #[.string s] w fun e w' => e = .returned (.bool (lt c)) ∧ w = w' := by
  have h1 : s.size = 1 := by have := congrArg List.length hs; simpa using this
  have h0 : 0 < s.size := by omega
  have hc : s[0] = c := by
    have : s[0] = s.data.toList[0]'(by simpa using h0) := rfl
    rw [this]; simp [hs]
  rw [← hc]
  exact implLetter0 s w h0 (by simp; omega)

/-- impl.ValidWord -/
theorem implOk (s : ByteArray) (w : World) (hs : s.size ≤ maxLen) :
    Calls Try.prog 48 #[.string s] w fun e w' => e = .returned (.bool (okL s.data.toList)) ∧ w = w' := by
  unfold maxLen at hs
  by_cases hbig : 2000 < s.size
  · go_enter Try.func48, Try.ntmps48
    go_wp2
    go_ret
    exact ⟨ret_bool (okL_long (by simpa using hbig)).symm, rfl⟩
  · go_enter Try.func48, Try.ntmps48
    go_wp2
    go_loop [9] (fun i => ∃ k : Nat, k ≤ s.size ∧ i = .int .i64 k ∧ (s.data.toList.take k).all lt = true) (fun i => s.size - (intOf i).toNat)
    case atStart => exact ⟨0, Nat.zero_le _, rfl, rfl⟩
    case round =>
      obtain ⟨k, hk, rfl, hall⟩ := hrel
      by_cases hlt : k < s.size
      · have hsn := take_snoc s k hlt
        have HS : Hid (s.data.toList.take (k + 1) = s.data.toList.take k ++ [s[k]]) := hsn
        have HA : Hid ((s.data.toList.take k).all lt = true) := hall
        have hone : (s.extract k (k + 1)).data.toList = [s[k]] := extract_one s k hlt
        have HO := Lib.hid hone
        clear hsn hall hone
        cases hb : lt s[k]
        · have HB := Lib.hid hb
          clear hb
          go_wp2_with (go_at_call 82; refine (implLetter _ s[k] _ HO.out).mono ?_; rw [HB.out]; rintro e w' ⟨rfl, rfl⟩)
          go_ret
          exact ⟨ret_bool (okL_bad (i := k) (by simpa using hlt) HB.out).symm, rfl⟩
        · have HB := Lib.hid hb
          clear hb
          go_wp2_with (go_at_call 82; refine (implLetter _ s[k] _ HO.out).mono ?_; rw [HB.out]; rintro e w' ⟨rfl, rfl⟩)
          go_round
          case rel => exact ⟨k + 1, by omega, by go_num, by rw [HS.out, List.all_append, HA.out]; simp [HB.out]⟩
          case measure => simp [intOf]; omega
      · have hk' : k = s.size := by omega
        have hfin : okL s.data.toList = true := okL_of (by simp; omega) (by rw [← hall, List.take_of_length_le (by simp; omega)])
        have HF : Hid (okL s.data.toList = true) := hfin
        clear hfin hall
        go_wp2
        go_ret
        exact ⟨ret_bool HF.out.symm, rfl⟩

end Go.Proofs.Ytapemoehcohjgaa
namespace Go.Proofs.Ytapemoehcohjgaa
open Go.RowKit
namespace Wd
/-- bytes as cells -/
def bv (l : List UInt8) : List Value := l.map fun c => Value.int .u8 c.toNat
theorem bv_len (l : List UInt8) : (bv l).length = l.length := by simp [bv]
theorem bv_app (l m : List UInt8) : bv (l ++ m) = bv l ++ bv m := by simp [bv]
theorem bv_one (c : UInt8) : bv [c] = [Value.int .u8 c.toNat] := rfl
theorem bv_cell (l : List UInt8) : ∀ u ∈ bv l, u.oneCell' = true := by
  intro u hu; obtain ⟨_, _, rfl⟩ := List.mem_map.1 hu; rfl
theorem bv_get (l : List UInt8) (j : Nat) (h : j < l.length) : (bv l)[j]? = some (.int .u8 l[j].toNat) := by
  simp [bv, h]

theorem conv_owned {P : Program} {w : World} {B : Nat} {e src dst : TypeId} {v : Value} {n : Nat} {l : List UInt8} (h : w.ownsRow B e 1 v n (bv l))
    (hs : P.underlying src = some (.slice e)) (he : P.underlying e = some (.int .u8)) (hd : P.underlying dst = some .string) :
    (convert src dst v).run P w = .ok (.string ⟨l.toArray⟩) w := by
  have hn : l.length = n := by have := h.1; rw [bv_len] at this; omega
  rcases h.2 with ⟨rfl, h0⟩ | ⟨g, cap, cur, rfl, hb, hg, hc, hm, hz, ht⟩
  · have : l = [] := List.eq_nil_of_length_eq_zero (by omega)
    subst this
    exact run_convert_bytes_nil w src e hs he 0 0 dst hd
  · subst hn
    refine run_convert_bytes_back w src dst e ⟨g, 0, none⟩ cap l hs he hd (fun j hj => ?_)
    have := h.cells (g := g) rfl j (.int .u8 l[j].toNat) (bv_get l j hj)
    exact this
end Wd
end Go.Proofs.Ytapemoehcohjgaa
namespace Go.Proofs.Ytapemoehcohjgaa
open Go.RowKit
set_option linter.unusedVariables false

theorem Try.info_u8 : (Try.prog.info? 5).map (fun i => (i.zero, i.size, i.bytes)) = some (some (.int .u8 0), 1, 1) := by kernel_rfl

theorem ret_str {a b : ByteArray} (h : a = b) : Ending.returned (.string a) = .returned (.string b) := by rw [h]
theorem ret_int {k : IntKind} {a b : Int} (h : a = b) : Ending.returned (.int k a) = .returned (.int k b) := by rw [h]
theorem ret_int2 {k k' : IntKind} {a b c : Int} (h : a = b) : Ending.returned (.tuple #[.int k a, .int k' c]) = .returned (.tuple #[.int k b, .int k' c]) := by rw [h]
/-- at most the tape has moved -/
def Drawn (w w' : World) : Prop := ∃ n, w' = w.drewN n
theorem one_new (w : World) (v : Value) (t : TypeId) : ∀ j u, [v][j]? = some u → (w.alloc (.cells #[v] t)).cell? ((⟨w.heap.size, 0, none⟩ : Addr).add j) = some u := by
  intro x u hx
  match x, hx with
  | 0, hx => simp at hx; subst hx; simp [Addr.add]
theorem one_str (a : ByteArray) : ∀ u ∈ [Value.string a], u.oneCell' = true := by intro u hu; simp at hu; subst hu; rfl
theorem one_int (k : IntKind) (a : Int) : ∀ u ∈ [Value.int k a], u.oneCell' = true := by intro u hu; simp at hu; subst hu; rfl
theorem base_alloc {w wr : World} (h : w.heap.size ≤ wr.heap.size) (o : Obj) : w.heap.size ≤ (wr.alloc o).heap.size := by simp; omega
theorem Drawn.refl (w : World) : Drawn w w := ⟨0, rfl⟩
theorem Drawn.drewN {w w' : World} (h : Drawn w w') (m : Nat) : Drawn w (w'.drewN m) := by
  obtain ⟨n, rfl⟩ := h; exact ⟨n + m, World.drewN_drewN _ _ _⟩
theorem Drawn.trans {w w' w'' : World} (h : Drawn w w') (h' : Drawn w' w'') : Drawn w w'' := by
  obtain ⟨n, rfl⟩ := h'; exact h.drewN n
theorem Drawn.below {w w' : World} (h : Drawn w w') (B : Nat) : Below B w w' := by
  obtain ⟨n, rfl⟩ := h; exact below_drewN (Below.refl _ _) n


end Go.Proofs.Ytapemoehcohjgaa
namespace Go.Proofs.Ytapemoehcohjgaa
open Go.RowKit
set_option linter.unusedVariables false
namespace Wd

/-- a rule as it is read -/
structure Rl where
  L : ByteArray
  l : Int
  r : Int

/-- its cells -/
def rc (x : Rl) : List Value := [.string x.L, .int .i64 x.l, .int .i64 x.r]
/-- those of a list -/
def rv (gs : List Rl) : List Value := gs.flatMap rc
theorem rv_len (gs : List Rl) : (rv gs).length = gs.length * 3 := by
  induction gs with
  | nil => rfl
  | cons x gs ih => simp only [rv, List.flatMap_cons, List.length_append, List.length_cons] at ih ⊢; simp only [rc, List.length_cons, List.length_nil]; omega
theorem rv_app (gs hs : List Rl) : rv (gs ++ hs) = rv gs ++ rv hs := by simp [rv]
theorem rv_one (x : Rl) : rv [x] = rc x := by simp [rv]
theorem rv_cell (gs : List Rl) : ∀ u ∈ rv gs, u.oneCell' = true := by
  intro u hu
  obtain ⟨x, _, hx⟩ := List.mem_flatMap.1 hu
  simp only [rc, List.mem_cons, List.not_mem_nil, or_false] at hx
  rcases hx with rfl | rfl | rfl <;> rfl
theorem rv_get (gs : List Rl) (k : Nat) (h : k < gs.length) (j : Nat) (hj : j < 3) : (rv gs)[k * 3 + j]? = (rc gs[k])[j]? := by
  induction gs generalizing k with
  | nil => simp at h
  | cons x gs ih =>
    have hx : (rc x).length = 3 := rfl
    cases k with
    | zero =>
      rw [show rv (x :: gs) = rc x ++ rv gs from rfl, List.getElem?_append_left (by omega)]
      simp
    | succ k =>
      rw [show rv (x :: gs) = rc x ++ rv gs from rfl, List.getElem?_append_right (by omega), show (k + 1) * 3 + j - (rc x).length = k * 3 + j from by omega]
      simpa using ih k (by simpa using h)

/-- may the rule stand at this number? -/
def Rl.ok (x : Rl) (n : Nat) : Bool :=
  if x.L.size = 0 then decide (0 ≤ x.l) && decide (x.l < n) && (decide (0 ≤ x.r) && decide (x.r < n))
  else decide (x.L.size = 1) && okL x.L.data.toList && (decide (x.l = 0) && decide (x.r = 0))
theorem ok_pair {x : Rl} {n : Nat} (h0 : x.L.size = 0) : x.ok n = true ↔ (0 ≤ x.l ∧ x.l < n) ∧ (0 ≤ x.r ∧ x.r < n) := by
  simp [Rl.ok, h0]
theorem ok_letter {x : Rl} {n : Nat} (h0 : x.L.size ≠ 0) : x.ok n = true ↔ (x.L.size = 1 ∧ okL x.L.data.toList = true) ∧ (x.l = 0 ∧ x.r = 0) := by
  simp [Rl.ok, h0]

/-- the measure of a rule behind those -/
def val1 (J : Int → Int → Int) (d : List Int) (x : Rl) : Int := if x.L.size = 0 then J (d.getD x.l.toNat 0) (d.getD x.r.toNat 0) else 1
/-- the measures of all rules -/
def valsOn (J : Int → Int → Int) (d : List Int) (gs : List Rl) : List Int := gs.foldl (fun d x => d ++ [val1 J d x]) d
def vals (J : Int → Int → Int) (gs : List Rl) : List Int := valsOn J [] gs
theorem vals_snoc (J) (gs : List Rl) (x : Rl) : vals J (gs ++ [x]) = vals J gs ++ [val1 J (vals J gs) x] := by
  simp [vals, valsOn, List.foldl_append]
theorem valsOn_len (J) (d : List Int) (gs : List Rl) : (valsOn J d gs).length = d.length + gs.length := by
  induction gs generalizing d with
  | nil => rfl
  | cons x gs ih => have := ih (d ++ [val1 J d x]); simp only [valsOn, List.foldl_cons, List.length_append, List.length_cons, List.length_nil] at this ⊢; omega
theorem vals_len (J) (gs : List Rl) : (vals J gs).length = gs.length := by
  have := valsOn_len J [] gs; simpa [vals] using this
theorem vals_take_succ (J) (gs : List Rl) (k : Nat) (h : k < gs.length) : vals J (gs.take (k + 1)) = vals J (gs.take k) ++ [val1 J (vals J (gs.take k)) gs[k]] := by
  rw [List.take_succ_eq_append_getElem h, vals_snoc]
theorem vals_app (J) (gs hs : List Rl) : vals J (gs ++ hs) = valsOn J (vals J gs) hs := by simp [vals, valsOn, List.foldl_append]
theorem valsOn_take (J) (d : List Int) (hs : List Rl) : (valsOn J d hs).take d.length = d := by
  induction hs generalizing d with
  | nil => simp [valsOn]
  | cons x hs ih =>
    have h1 := ih (d ++ [val1 J d x])
    have h2 : valsOn J d (x :: hs) = valsOn J (d ++ [val1 J d x]) hs := rfl
    rw [h2]
    have h3 := congrArg (List.take d.length) h1
    rw [List.take_take, List.take_left] at h3
    rw [Nat.min_eq_left (by simp)] at h3
    exact h3
theorem vals_take (J) (gs : List Rl) (k : Nat) : (vals J gs).take k = vals J (gs.take k) := by
  rcases Nat.lt_or_ge k gs.length with h | h
  · have h1 := valsOn_take J (vals J (gs.take k)) (gs.drop k)
    rw [← vals_app, List.take_append_drop, vals_len, List.length_take, Nat.min_eq_left (by omega)] at h1
    exact h1
  · rw [List.take_of_length_le (by rw [vals_len]; omega), List.take_of_length_le h]
theorem vals_get (J) (gs : List Rl) (k : Nat) (h : k < gs.length) : (vals J gs).getD k 0 = val1 J (vals J (gs.take k)) gs[k] := by
  have h1 := vals_take_succ J gs k h
  rw [← vals_take, ← vals_take] at h1
  have hk : k < (vals J gs).length := by rw [vals_len]; exact h
  rw [List.take_succ_eq_append_getElem hk] at h1
  have h2 := List.append_cancel_left h1
  rw [List.getD_eq_getElem?_getD, List.getElem?_eq_getElem hk, Option.getD_some]
  rw [vals_take] at h2
  simpa using h2
theorem getD_take {d : List Int} {j k : Nat} (h : j < k) : (d.take k).getD j 0 = d.getD j 0 := by
  simp only [List.getD_eq_getElem?_getD, List.getElem?_take, h, if_true]
theorem vals_pair (J) (gs : List Rl) (k : Nat) (h : k < gs.length) (h0 : gs[k].L.size = 0) (hok : gs[k].ok k = true) :
    (vals J gs).getD k 0 = J ((vals J gs).getD gs[k].l.toNat 0) ((vals J gs).getD gs[k].r.toNat 0) := by
  obtain ⟨⟨a1, a2⟩, b1, b2⟩ := (ok_pair h0).1 hok
  rw [vals_get J gs k h, val1, if_pos h0, ← vals_take, getD_take (by omega), getD_take (by omega)]
theorem vals_letter (J) (gs : List Rl) (k : Nat) (h : k < gs.length) (h0 : gs[k].L.size ≠ 0) : (vals J gs).getD k 0 = 1 := by
  rw [vals_get J gs k h, val1, if_neg h0]

/-- the lengths of the words -/
def lens (gs : List Rl) : List Int := vals (fun a b => a + b) gs
theorem lens_len (gs : List Rl) : (lens gs).length = gs.length := vals_len _ _
/-- do all rules fit? -/
def fits (gs : List Rl) : Bool := decide (∀ k (h : k < gs.length), gs[k].ok k = true)
/-- is no word too long? -/
def small (gs : List Rl) : Bool := decide (∀ k, k < gs.length → (lens gs).getD k 0 ≤ 1000000000000000)
/-- is the grammar valid? -/
def gOk (gs : List Rl) : Bool := decide (gs.length ≤ 400) && (fits gs && small gs)
theorem fits_at {gs : List Rl} (h : fits gs = true) (k : Nat) (hk : k < gs.length) : gs[k].ok k = true := of_decide_eq_true h k hk
theorem small_at {gs : List Rl} (h : small gs = true) (k : Nat) (hk : k < gs.length) : (lens gs).getD k 0 ≤ 1000000000000000 := of_decide_eq_true h k hk
theorem gOk_iff {gs : List Rl} : gOk gs = true ↔ gs.length ≤ 400 ∧ fits gs = true ∧ small gs = true := by
  simp [gOk]

/-- up to a number all fit and none is too long -/
def UpTo (gs : List Rl) (k : Nat) : Prop := ∀ j (h : j < gs.length), j < k → gs[j].ok j = true ∧ (lens gs).getD j 0 ≤ 1000000000000000
theorem upTo_zero (gs : List Rl) : UpTo gs 0 := fun _ _ h => by omega
theorem upTo_succ {gs : List Rl} {k : Nat} (h : UpTo gs k) (hk : k < gs.length) (h1 : gs[k].ok k = true) (h2 : (lens gs).getD k 0 ≤ 1000000000000000) : UpTo gs (k + 1) := fun j hj hjk => by
  by_cases e : j = k
  · subst e; exact ⟨h1, h2⟩
  · exact h j hj (by omega)
theorem upTo_all {gs : List Rl} {k : Nat} (h : UpTo gs k) (hk : gs.length ≤ k) : (fits gs && small gs) = true := by
  rw [Bool.and_eq_true]
  exact ⟨decide_eq_true fun j hj => (h j hj (by omega)).1, decide_eq_true fun j hj => (h j hj (by omega)).2⟩
theorem bad_fit {gs : List Rl} {k : Nat} (hk : k < gs.length) (h1 : gs[k].ok k = false) : (fits gs && small gs) = false := by
  have : fits gs = false := decide_eq_false fun h => by rw [h k hk] at h1; cases h1
  rw [this]; rfl
theorem bad_long {gs : List Rl} {k : Nat} (hk : k < gs.length) (h1 : 1000000000000000 < (lens gs).getD k 0) : (fits gs && small gs) = false := by
  have : small gs = false := decide_eq_false fun h => by have := h k hk; omega
  rw [this]; simp
/-- the lengths are at least 1 as long as the rules fit -/
theorem vals_pos (J) (hJ : ∀ a b, 1 ≤ a → 1 ≤ b → 1 ≤ J a b) (gs : List Rl) : ∀ n k (h : k < gs.length), k < n → (∀ j (h : j < gs.length), j ≤ k → gs[j].ok j = true) → 1 ≤ (vals J gs).getD k 0
  | 0, k, h, hn, _ => by omega
  | n + 1, k, h, hn, hok => by
    by_cases h0 : gs[k].L.size = 0
    · have hk := hok k h (Nat.le_refl _)
      obtain ⟨⟨a1, a2⟩, b1, b2⟩ := (ok_pair h0).1 hk
      rw [vals_pair J gs k h h0 hk]
      exact hJ _ _ (vals_pos J hJ gs n _ (by omega) (by omega) fun j hj hjk => hok j hj (by omega)) (vals_pos J hJ gs n _ (by omega) (by omega) fun j hj hjk => hok j hj (by omega))
    · rw [vals_letter J gs k h h0]; omega
theorem lens_pos {gs : List Rl} {k : Nat} (h : k < gs.length) (hok : ∀ j (h : j < gs.length), j ≤ k → gs[j].ok j = true) : 1 ≤ (lens gs).getD k 0 :=
  vals_pos _ (fun a b ha hb => by omega) gs (k + 1) k h (by omega) hok
/-- the next length out of those before -/
theorem lens_next {gs : List Rl} {k : Nat} (h : k < gs.length) (hu : UpTo gs k) (hk : gs[k].ok k = true) (h0 : gs[k].L.size = 0) :
    ∃ a b : Nat, gs[k].l = a ∧ gs[k].r = b ∧ a < k ∧ b < k ∧ (lens gs).getD k 0 = (lens gs).getD a 0 + (lens gs).getD b 0 ∧
      1 ≤ (lens gs).getD a 0 ∧ (lens gs).getD a 0 ≤ 1000000000000000 ∧ 1 ≤ (lens gs).getD b 0 ∧ (lens gs).getD b 0 ≤ 1000000000000000 := by
  obtain ⟨⟨a1, a2⟩, b1, b2⟩ := (ok_pair h0).1 hk
  have ha : gs[k].l.toNat < gs.length := by omega
  have hb : gs[k].r.toNat < gs.length := by omega
  refine ⟨gs[k].l.toNat, gs[k].r.toNat, by omega, by omega, by omega, by omega, vals_pair _ gs k h h0 hk, ?_, (hu _ ha (by omega)).2, ?_, (hu _ hb (by omega)).2⟩
  · exact lens_pos ha fun j hj hjk => (hu j hj (by omega)).1
  · exact lens_pos hb fun j hj hjk => (hu j hj (by omega)).1
theorem lens_snoc {gs : List Rl} {k : Nat} (h : k < gs.length) : lens (gs.take (k + 1)) = lens (gs.take k) ++ [(lens gs).getD k 0] := by
  unfold lens
  rw [vals_take_succ _ gs k h, vals_get _ gs k h]
theorem lens_at {gs : List Rl} {j k : Nat} (h : j < k) (hk : k ≤ gs.length) : (lens (gs.take k))[j]? = some ((lens gs).getD j 0) := by
  unfold lens
  rw [← vals_take, List.getElem?_take, if_pos h]
  have : j < (vals (fun a b => a + b) gs).length := by rw [vals_len]; omega
  rw [List.getD_eq_getElem?_getD, List.getElem?_eq_getElem this, Option.getD_some]

/-- where the rules lie that a slice value holds -/
def Rules (w : World) (v : Value) (gs : List Rl) : Prop :=
  ∃ A c, v = .slice A gs.length c ∧ (gs = [] ∨ ∃ g, A = some ⟨g, 0, none⟩ ∧ g < w.heap.size ∧ ∀ j u, (rv gs)[j]? = some u → w.cell? ⟨g, j, none⟩ = some u)
theorem Rules.kept {w w' : World} {v : Value} {gs : List Rl} (h : Rules w v gs) (hb : Below w.heap.size w w') : Rules w' v gs := by
  obtain ⟨A, c, hv, h | ⟨g, hA, hg, hc⟩⟩ := h
  · exact ⟨A, c, hv, .inl h⟩
  · exact ⟨A, c, hv, .inr ⟨g, hA, Nat.lt_of_lt_of_le hg hb.size, fun j u hu => (hb.cell (p := ⟨g, j, none⟩) hg).trans (hc j u hu)⟩⟩
/-- the three cells of a rule -/
theorem rules_cells {w : World} {gs : List Rl} {g k : Nat} (hc : ∀ j u, (rv gs)[j]? = some u → w.cell? ⟨g, j, none⟩ = some u) (h : k < gs.length) :
    w.cell? ⟨g, k * 3, none⟩ = some (.string gs[k].L) ∧ w.cell? ⟨g, k * 3 + 1, none⟩ = some (.int .i64 gs[k].l) ∧ w.cell? ⟨g, k * 3 + 2, none⟩ = some (.int .i64 gs[k].r) :=
  ⟨hc _ _ (rv_get gs k h 0 (by omega)), hc _ _ (rv_get gs k h 1 (by omega)), hc _ _ (rv_get gs k h 2 (by omega))⟩
theorem Rules.of_own {w : World} {B e : Nat} {v : Value} {gs : List Rl} (h : w.ownsRow B e 3 v gs.length (rv gs)) : Rules w v gs := by
  rcases h.2 with ⟨rfl, h0⟩ | ⟨g, cap, cur, rfl, hb, hg, _⟩
  · exact ⟨none, 0, by rw [h0], .inl (List.eq_nil_of_length_eq_zero h0)⟩
  · exact ⟨_, _, rfl, .inr ⟨g, rfl, (Array.getElem?_eq_some_iff.1 hg).1, fun j u hu => by have := h.cells (g := g) rfl j u hu; unfold Addr.add at this; split at this <;> simp_all⟩⟩
theorem lt_of_cell {w : World} {A : Addr} {v : Value} (h : w.cell? A = some v) : A.block < w.heap.size := by
  rcases Nat.lt_or_ge A.block w.heap.size with h' | h'
  · exact h'
  · simp [World.cell?, Array.getElem?_eq_none h'] at h
theorem cell_new (w : World) (v : Value) (t : TypeId) : (w.alloc (.cells #[v] t)).cell? ⟨w.heap.size, 0, none⟩ = some v := by
  rw [cell_of_row _ _ _ _ _ _ (heap_alloc_new w _)]; rfl
theorem below_undrew {B n : Nat} {w w' : World} (h : Below B (w.drewN n) w') : Below B w w' := ⟨h.os, h.tape, h.output, h.size, h.block⟩
/-- a slice of rules that came in -/
def InRules (w : World) (A : Option Addr) (len : Nat) (gs : List Rl) : Prop :=
  gs.length = len ∧ (gs = [] ∨ ∃ x, A = some x ∧ ∀ i (h : i < gs.length), (w.cell? (x.add (i * 3)) = some (.string gs[i].L) ∧ w.cell? (x.add (i * 3 + 1)) = some (.int .i64 gs[i].l) ∧ w.cell? (x.add (i * 3 + 2)) = some (.int .i64 gs[i].r)) ∧ gs[i].L.size ≤ maxLen)
theorem InRules.kept {w w' : World} {A : Option Addr} {len : Nat} {gs : List Rl} (h : InRules w A len gs) (hb : Below w.heap.size w w') : InRules w' A len gs := by
  obtain ⟨hl, h | ⟨x, hA, hc⟩⟩ := h
  · exact ⟨hl, .inl h⟩
  · refine ⟨hl, .inr ⟨x, hA, fun i hi => ?_⟩⟩
    obtain ⟨⟨h0, h1, h2⟩, h3⟩ := hc i hi
    exact ⟨⟨(hb.cell (lt_of_cell h0)).trans h0, (hb.cell (lt_of_cell h1)).trans h1, (hb.cell (lt_of_cell h2)).trans h2⟩, h3⟩
/-- the letters of all -/
def sumL (gs : List Rl) : Nat := (gs.map fun x => x.L.size).sum
theorem sumL_take (gs : List Rl) (k : Nat) (h : k < gs.length) : sumL (gs.take (k + 1)) = sumL (gs.take k) + gs[k].L.size := by
  rw [List.take_succ_eq_append_getElem h]; simp only [sumL, List.map_append, List.sum_append, List.map_cons, List.map_nil, List.sum_cons, List.sum_nil]; omega
theorem sumL_le (gs : List Rl) (k : Nat) : sumL (gs.take k) ≤ sumL gs := by
  have : sumL gs = sumL (gs.take k) + sumL (gs.drop k) := by
    conv => lhs; rw [← List.take_append_drop k gs]
    simp only [sumL, List.map_append, List.sum_append]
  omega
theorem sumL_at (gs : List Rl) (k : Nat) (h : k < gs.length) : gs[k].L.size ≤ sumL gs := by
  have h1 := sumL_take gs k h
  have h2 := sumL_le gs (k + 1)
  omega
/-- what is left of a purse, -1 if it does not do -/
def purse (left : Int) (gs : List Rl) : Int := if (gs.length : Int) + (sumL gs : Int) ≤ left then left - gs.length - sumL gs else -1
theorem purse_ok {left : Int} {gs : List Rl} (h : (gs.length : Int) + (sumL gs : Int) ≤ left) : purse left gs = left - gs.length - sumL gs := if_pos h
theorem purse_no {left : Int} {gs : List Rl} (h : ¬ (gs.length : Int) + (sumL gs : Int) ≤ left) : purse left gs = -1 := if_neg h
theorem purse_bad {left : Int} {gs : List Rl} {k : Nat} (hk : k < gs.length) (h : left - gs.length - sumL (gs.take k) - gs[k].L.size < 0) : purse left gs = -1 := by
  have h1 := sumL_take gs k hk
  have h2 := sumL_le gs (k + 1)
  exact purse_no (by omega)
end Wd
end Go.Proofs.Ytapemoehcohjgaa
namespace Go.Proofs.Ytapemoehcohjgaa
open Go.RowKit
open Wd
set_option linter.unusedVariables false

/-- a rule as a value -/
abbrev agg3 (x : Rl) : Value := .agg #[.string x.L, .int .i64 x.l, .int .i64 x.r]
theorem empty_list {L : ByteArray} (h : L.size = 0) : L.data.toList = [] := List.eq_nil_of_length_eq_zero (by simpa using h)
theorem empty_arr {L : ByteArray} (h : L.size = 0) : L = ⟨#[]⟩ := by
  have := empty_list h
  obtain ⟨⟨l⟩⟩ := L
  simp at this
  subst this; rfl
theorem full_list {L : ByteArray} (h : L.size ≠ 0) : L.toList.isEmpty = false := by
  rw [List.isEmpty_eq_false_iff]
  intro h0
  apply h
  have h1 : L.data.toList = [] := by rw [← h0, ByteArray.toList_eq]
  have := congrArg List.length h1
  simpa using this

theorem kind_pair (x : Rl) (h : x.L.size = 0) (w : World) :
    Calls Try.prog 78 #[agg3 x] w fun e w' => e = .returned (.iface 148 (agg3 x)) ∧ Below w.heap.size w w' := by
  obtain ⟨L, l, r⟩ := x
  simp only at h
  obtain rfl := empty_arr h
  clear h
  go_enter Try.func78, Try.ntmps78
  go_wp2
  go_ret
  exact ⟨rfl, (Below.refl _ _).alloc (Nat.le_refl _) _⟩
theorem kind_letter (x : Rl) (h : x.L.size ≠ 0) (w : World) :
    Calls Try.prog 78 #[agg3 x] w fun e w' => e = .returned (.iface 132 (agg3 x)) ∧ Below w.heap.size w w' := by
  obtain ⟨L, l, r⟩ := x
  simp only at h
  have h1 := full_list h
  clear h
  go_enter Try.func78, Try.ntmps78
  go_wp2
  go_ret
  exact ⟨rfl, (Below.refl _ _).alloc (Nat.le_refl _) _⟩

theorem pair_fits (x : Rl) (h : x.L.size = 0) (n : Nat) (w : World) :
    Calls Try.prog 137 #[agg3 x, .int .i64 n] w fun e w' => e = .returned (.bool (x.ok n)) ∧ Below w.heap.size w w' := by
  obtain ⟨L, l, r⟩ := x
  simp only at h
  obtain rfl := empty_arr h
  clear h
  go_enter Try.func137, Try.ntmps137
  go_wp2
  all_goals (go_ret; refine ⟨ret_bool ?_, (Below.refl _ _).alloc (Nat.le_refl _) _⟩; rw [Bool.eq_iff_iff, ok_pair rfl]; simp; omega)

theorem isLetter_any (L : ByteArray) (h : L.size ≠ 0) (w : World) :
    Calls Try.prog 82 #[.string L] w fun e w' => e = .returned (.bool (decide (L.size = 1) && okL L.data.toList)) ∧ w = w' := by
  by_cases h1 : L.size = 1
  · obtain ⟨c, hc⟩ : ∃ c, L.data.toList = [c] := by
      have : L.data.toList.length = 1 := by simpa using h1
      match hl : L.data.toList, this with
      | [c], _ => exact ⟨c, rfl⟩
    refine (implLetter L c w hc).mono fun e w' he => ⟨he.1.trans (ret_bool ?_), he.2⟩
    rw [hc]; simp [h1, okL]
  · have hz : ((L.size : Int) == 1) = false := by rw [beq_eq_false_iff_ne]; omega
    have H1 := Lib.hid h1
    clear h1
    go_enter Try.func82, Try.ntmps82
    go_wp2
    go_ret
    exact ⟨ret_bool (by simp [H1.out]), rfl⟩
theorem letter_fits (x : Rl) (h : x.L.size ≠ 0) (n : Nat) (w : World) :
    Calls Try.prog 135 #[agg3 x, .int .i64 n] w fun e w' => e = .returned (.bool (x.ok n)) ∧ Below w.heap.size w w' := by
  obtain ⟨L, l, r⟩ := x
  simp only at h
  have c1 := fun W => isLetter_any L h W
  have hx : Rl.ok ⟨L, l, r⟩ n = (decide (L.size = 1) && okL L.data.toList && (decide (l = 0) && decide (r = 0))) := by simp [Rl.ok, h]
  generalize (decide (L.size = 1) && okL L.data.toList) = b at c1 hx
  have HX := Lib.hid hx
  have C1 := Lib.hid c1
  clear h hx c1
  cases b
  all_goals
    go_enter Try.func135, Try.ntmps135
    go_wp2_with (go_at_call 82; refine (C1.out _).mono ?_; rintro e w' ⟨rfl, rfl⟩)
    all_goals (go_ret; refine ⟨ret_bool ?_, (Below.refl _ _).alloc (Nat.le_refl _) _⟩; rw [HX.out]; first | (simp; done) | (rw [Bool.eq_iff_iff]; simp; omega))

theorem in_any (n lo hi : Int) (w : World) :
    Calls Try.prog 69 #[.int .i64 n, .int .i64 lo, .int .i64 hi] w fun e w' => e = .returned (.bool (decide (lo ≤ n) && decide (n ≤ hi))) ∧ w = w' := by
  by_cases h1 : lo ≤ n
  · by_cases h2 : n ≤ hi
    · go_enter Try.func69, Try.ntmps69
      go_wp2
      go_ret
      exact ⟨ret_bool (by rw [Bool.eq_iff_iff]; simp; omega), rfl⟩
    · go_enter Try.func69, Try.ntmps69
      go_wp2
      go_ret
      exact ⟨ret_bool (by rw [Bool.eq_iff_iff]; simp; omega), rfl⟩
  · go_enter Try.func69, Try.ntmps69
    go_wp2
    go_ret
    exact ⟨ret_bool (by rw [Bool.eq_iff_iff]; simp; omega), rfl⟩
set_option maxRecDepth 100000 in
set_option maxHeartbeats 800000 in
/-- spec.l02Rule -/
theorem rule_any (x : Rl) (g o n : Nat) (w : World) (hs : x.L.size ≤ maxLen) (hn : n ≤ maxLen)
    (h0 : w.cell? ⟨g, o, none⟩ = some (.string x.L)) (h1 : w.cell? ⟨g, o + 1, none⟩ = some (.int .i64 x.l)) (h2 : w.cell? ⟨g, o + 2, none⟩ = some (.int .i64 x.r)) :
    Calls Try.prog 108 #[.pointer (some ⟨g, o, none⟩), .int .i64 n] w fun e w' => e = .returned (.bool (x.ok n)) ∧ w = w' := by
  unfold maxLen at hs hn
  by_cases h : x.L.size = 0
  · have he := empty_arr h
    have hx : x.ok n = (decide (0 ≤ x.l) && decide (x.l ≤ (n : Int) - 1) && (decide (0 ≤ x.r) && decide (x.r ≤ (n : Int) - 1))) := by
      rw [Bool.eq_iff_iff, ok_pair h]; simp; omega
    have c1 := fun W => in_any x.l 0 ((n : Int) - 1) W
    have c2 := fun W => in_any x.r 0 ((n : Int) - 1) W
    generalize (decide (0 ≤ x.l) && decide (x.l ≤ (n : Int) - 1)) = b1 at c1 hx
    generalize (decide (0 ≤ x.r) && decide (x.r ≤ (n : Int) - 1)) = b2 at c2 hx
    rw [he] at h0
    have HX := Lib.hid hx
    have C1 := Lib.hid c1
    have C2 := Lib.hid c2
    clear hx c1 c2 he h
    cases b1
    · go_enter Try.func108, Try.ntmps108
      go_wp2_with fail
      refine (C1.out _).mono ?_; rintro e w' ⟨rfl, rfl⟩
      go_wp2_with fail
      go_ret
      exact ⟨ret_bool (by rw [HX.out]; simp), rfl⟩
    · go_enter Try.func108, Try.ntmps108
      go_wp2_with fail
      refine (C1.out _).mono ?_; rintro e w' ⟨rfl, rfl⟩
      go_wp2_with fail
      refine (C2.out _).mono ?_; rintro e w' ⟨rfl, rfl⟩
      go_wp2_with fail
      go_ret
      exact ⟨ret_bool (by rw [HX.out]; simp), rfl⟩
  · have hx : x.ok n = (decide (x.L.size = 1) && okL x.L.data.toList && (decide (x.l = 0) && decide (x.r = 0))) := by simp [Rl.ok, h]
    have c1 := fun W => specOk x.L W (by unfold maxLen; omega)
    have h3 := full_list h
    generalize okL x.L.data.toList = b1 at c1 hx
    have HX := Lib.hid hx
    have C1 := Lib.hid c1
    clear hx c1 h
    by_cases h1 : x.L.size = 1
    · have h4 : ((x.L.size : Int) == 1) = true := by rw [beq_iff_eq]; omega
      have H4 := Lib.hid h1
      clear h1
      cases b1
      all_goals
        go_enter Try.func108, Try.ntmps108
        go_wp2_with (go_at_call 46; refine (C1.out _).mono ?_; rintro e w' ⟨rfl, rfl⟩)
        all_goals (go_ret; refine ⟨ret_bool ?_, rfl⟩; rw [HX.out]; have h5 := H4.out; first | (simp; done) | (rw [Bool.eq_iff_iff]; simp; omega))
    · have h4 : ((x.L.size : Int) == 1) = false := by rw [beq_eq_false_iff_ne]; omega
      have H4 := Lib.hid h1
      clear h1
      go_enter Try.func108, Try.ntmps108
      go_wp2_with fail
      go_ret
      exact ⟨ret_bool (by rw [HX.out]; simp [H4.out]), rfl⟩
end Go.Proofs.Ytapemoehcohjgaa
namespace Go.Proofs.Ytapemoehcohjgaa
open Go.RowKit
open Wd
set_option linter.unusedVariables false

theorem add_next (x : Addr) (m j : Nat) (hj : 0 < j) : x.add (m + j) = ⟨(x.add m).block, (x.add m).off + j, none⟩ := by
  unfold Addr.add
  rw [if_neg (by omega)]
  split
  · subst_vars; simp
  · simp [Nat.add_assoc]

theorem szRule_any (x : Rl) (left : Int) (w : World) (hs : x.L.size ≤ maxLen) (h0 : 0 ≤ left) (h1 : left ≤ 1048576) :
    Calls Try.prog 68 #[agg3 x, .int .i64 left] w fun e w' => e = .returned (.int .i64 (if left - x.L.size < 0 then -1 else left - x.L.size)) ∧ Below w.heap.size w w' := by
  obtain ⟨L, l, r⟩ := x
  simp only at hs ⊢
  unfold maxLen at hs
  by_cases h : left - (L.size : Int) < 0
  all_goals
    go_enter Try.func68, Try.ntmps68
    go_wp2
    go_ret
    refine ⟨ret_int ?_, (Below.refl _ _).alloc (Nat.le_refl _) _⟩
    first | (rw [if_pos h]; done) | (rw [if_neg h]; done) | (rw [if_pos (by omega)]; done) | (rw [if_neg (by omega)]; done) | simp

set_option maxHeartbeats 800000 in
theorem szRuleS_any (A : Option Addr) (len cap : Nat) (gs : List Rl) (left : Int) (w : World) (hl : len ≤ maxLen) (h : InRules w A len gs) (h0 : 0 ≤ left) (h1 : left ≤ 1048576) :
    Calls Try.prog 34 #[.slice A len cap, .int .i64 left] w fun e w' => e = .returned (.int .i64 (purse left gs)) ∧ Below w.heap.size w w' := by
  unfold maxLen at hl
  obtain ⟨hlen, hin⟩ := h
  by_cases hbig : left - (len : Int) < 0
  · have hp := purse_no (left := left) (gs := gs) (by omega)
    have HP := Lib.hid hp
    clear hp hin hlen
    go_enter Try.func34, Try.ntmps34
    go_wp2
    go_ret
    exact ⟨ret_int HP.out.symm, Below.refl _ _⟩
  · have HI := Lib.hid hin
    have HLN := Lib.hid hlen
    clear hin hlen
    go_enter Try.func34, Try.ntmps34
    go_wp2
    go_loopw [1, 5] (fun p i wr => ∃ k : Nat, k ≤ len ∧ i = .int .i64 k ∧ p = .int .i64 (left - len - sumL (gs.take k)) ∧ 0 ≤ left - (len : Int) - sumL (gs.take k) ∧ Below w.heap.size w wr) (fun _ i _ => len - (intOf i).toNat)
    case atStart => exact ⟨0, Nat.zero_le _, rfl, by simp [sumL], by simp [sumL]; omega, Below.refl _ _⟩
    case round =>
      obtain ⟨k, hk, rfl, rfl, hpos, hB⟩ := hrel
      by_cases hlt : k < len
      · have hkg : k < gs.length := by rw [HLN.out]; exact hlt
        rcases HI.out with hn | ⟨x, rfl, hc⟩
        · rw [hn] at hkg; simp at hkg
        obtain ⟨⟨c0, c1, c2⟩, hsz⟩ := hc k hkg
        have d0 := (hB.cell (lt_of_cell c0)).trans c0
        have d1 := (hB.cell (lt_of_cell c1)).trans c1
        have d2 := (hB.cell (lt_of_cell c2)).trans c2
        clear c0 c1 c2 hc
        rw [add_next _ _ _ (by omega)] at d1 d2
        have hs := sumL_take gs k hkg
        have HZ := Lib.hid (fun W => szRule_any gs[k] (left - (len : Int) - sumL (gs.take k)) W hsz hpos (by omega))
        have HBD := Lib.hid (fun (h : left - (len : Int) - sumL (gs.take k) - gs[k].L.size < 0) => purse_bad (left := left) (gs := gs) hkg (by rw [HLN.out]; exact h))
        have HS := Lib.hid hs
        have HB := Lib.hid hB
        clear hs hsz hB
        by_cases hneg : left - (len : Int) - sumL (gs.take k) - gs[k].L.size < 0
        · have HN := Lib.hid hneg
          clear hneg
          go_wp2_with fail
          refine (HZ.out _).mono ?_; rintro e w' ⟨rfl, hB'⟩
          rw [if_pos HN.out]
          have HB' := Lib.hid hB'
          clear hB'
          go_wp2
          go_ret
          exact ⟨ret_int (HBD.out HN.out).symm, HB.out.trans (HB'.out.mono HB.out.size)⟩
        · have HN := Lib.hid hneg
          clear hneg
          go_wp2_with fail
          refine (HZ.out _).mono ?_; rintro e w' ⟨rfl, hB'⟩
          rw [if_neg (Int.not_lt.2 HN.out)]
          have HB' := Lib.hid hB'
          have hnn : 0 ≤ left - (len : Int) - sumL (gs.take k) - gs[k].L.size := by have := HN.out; omega
          clear hB'
          go_wp2
          go_roundw
          case rel => exact ⟨k + 1, by omega, by go_num, by rw [HS.out]; go_num, by rw [HS.out]; omega, HB.out.trans (HB'.out.mono HB.out.size)⟩
          case measure => simp [intOf]; omega
      · have hp : purse left gs = left - len - sumL (gs.take k) := by
          have hg := HLN.out
          rw [List.take_of_length_le (by omega)] at hpos ⊢
          rw [purse_ok (by omega), hg]
        have HP := Lib.hid hp
        clear hp
        go_wp2
        go_ret
        exact ⟨ret_int HP.out.symm, hB⟩

theorem szGrammar_any (A : Option Addr) (len cap : Nat) (gs : List Rl) (left : Int) (w : World) (hl : len ≤ maxLen) (h : InRules w A len gs) (h0 : 0 ≤ left) (h1 : left ≤ 1048576) :
    Calls Try.prog 9 #[.agg #[.slice A len cap], .int .i64 left] w fun e w' => e = .returned (.int .i64 (purse left gs)) ∧ Below w.heap.size w w' := by
  have HS := Lib.hid (fun W (hW : InRules W A len gs) => szRuleS_any A len cap gs left W hl hW h0 h1)
  have HI := Lib.hid h
  clear h
  by_cases hneg : purse left gs < 0
  all_goals
    have HN := Lib.hid hneg
    clear hneg
    go_enter Try.func9, Try.ntmps9
    go_wp2_with fail
    refine (HS.out _ (HI.out.kept ((Below.refl _ _).alloc (Nat.le_refl _) _))).mono ?_; rintro e w' ⟨rfl, hB⟩
  · have hp : purse left gs = -1 := by
      have := HN.out
      unfold purse at this ⊢
      split <;> simp_all <;> omega
    rw [hp]
    have HP := Lib.hid hp
    have HB := Lib.hid hB
    clear hp hB
    go_wp2
    go_ret
    exact ⟨ret_int HP.out.symm, ((Below.refl _ _).alloc (Nat.le_refl _) _).trans (HB.out.mono (by simp))⟩
  · have hp := HN.out
    have HB := Lib.hid hB
    clear hB
    go_wp2
    go_ret
    exact ⟨rfl, ((Below.refl _ _).alloc (Nat.le_refl _) _).trans (HB.out.mono (by simp))⟩
theorem purse_few {gs : List Rl} (h : ¬ purse 1048576 gs < 0) : gs.length + sumL gs ≤ 1048576 := by
  unfold purse at h
  split at h <;> omega
end Go.Proofs.Ytapemoehcohjgaa
namespace Go.Proofs.Ytapemoehcohjgaa
open Go.RowKit
open Wd
set_option linter.unusedVariables false

theorem Try.info_rule : (Try.prog.info? 128).map (fun i => (i.zero, i.size, i.bytes)) = some (some (.agg #[.string ⟨#[]⟩, .int .i64 0, .int .i64 0]), 3, 32) := by kernel_rfl

namespace Wd
def zr : Rl := ⟨⟨#[]⟩, 0, 0⟩
theorem rv_set (gs : List Rl) (k : Nat) (x : Rl) (h : k < gs.length) :
    (((rv gs).set (k * 3) (.string x.L)).set (k * 3 + 1) (.int .i64 x.l)).set (k * 3 + 2) (.int .i64 x.r) = rv (gs.set k x) := by
  induction gs generalizing k with
  | nil => simp at h
  | cons y gs ih =>
    cases k with
    | zero => rfl
    | succ k =>
      have h1 := ih k (by simpa using h)
      have e : rv (y :: gs) = .string y.L :: .int .i64 y.l :: .int .i64 y.r :: rv gs := rfl
      have e2 : rv ((y :: gs).set (k + 1) x) = .string y.L :: .int .i64 y.l :: .int .i64 y.r :: rv (gs.set k x) := rfl
      rw [e, e2, ← h1, show (k + 1) * 3 = k * 3 + 1 + 1 + 1 from by omega, show k * 3 + 1 + 1 + 1 + 1 = k * 3 + 1 + 1 + 1 + 1 from rfl, show k * 3 + 1 + 1 + 1 + 2 = k * 3 + 2 + 1 + 1 + 1 from by omega]
      simp only [List.set_cons_succ]
/-- the first k rules, and zeros behind them -/
def outK (gs : List Rl) (k : Nat) : List Rl := gs.take k ++ List.replicate (gs.length - k) zr
theorem outK_len (gs : List Rl) (k : Nat) (h : k ≤ gs.length) : (outK gs k).length = gs.length := by simp [outK]; omega
theorem outK_set (gs : List Rl) (k : Nat) (h : k < gs.length) : (outK gs k).set k gs[k] = outK gs (k + 1) := by
  unfold outK
  have h1 : (gs.take k).length = k := by simp; omega
  rw [List.set_append_right _ _ (by omega), h1, Nat.sub_self, show gs.length - k = (gs.length - (k + 1)) + 1 from by omega, List.replicate_succ, List.set_cons_zero, List.take_succ_eq_append_getElem h, List.append_assoc]
  rfl
theorem outK_zero (gs : List Rl) : outK gs 0 = List.replicate gs.length zr := by simp [outK]
theorem outK_all (gs : List Rl) : outK gs gs.length = gs := by simp [outK]
theorem outK_get (gs : List Rl) (k : Nat) (h : k < gs.length) : (outK gs k)[k]? = some zr := by
  have h1 : (gs.take k).length = k := by simp; omega
  rw [outK, List.getElem?_append_right (by omega), h1, Nat.sub_self, List.getElem?_replicate, if_pos (by omega)]
theorem made_zr (n : Nat) : (madeCells #[.string ⟨#[]⟩, .int .i64 0, .int .i64 0] (n * 3)).toList = rv (List.replicate n zr) := by
  apply List.ext_getElem
  · rw [rv_len]; simp [madeCells]
  · intro i h1 h2
    have hi : i < n * 3 := by simpa [madeCells] using h1
    have hk : i / 3 < n := by omega
    have h3 := rv_get (List.replicate n zr) (i / 3) (by simpa using hk) (i % 3) (by omega)
    rw [show i / 3 * 3 + i % 3 = i from by omega, List.getElem?_eq_getElem h2] at h3
    rw [List.getElem_replicate, show rc zr = [Value.string ⟨#[]⟩, .int .i64 0, .int .i64 0] from rfl] at h3
    have h4 : (madeCells #[.string ⟨#[]⟩, .int .i64 0, .int .i64 0] (n * 3)).toList[i] = (#[.string ⟨#[]⟩, .int .i64 0, .int .i64 0] : Array Value)[i % 3]! := by simp [madeCells]
    rw [h4]
    have h5 : i % 3 = 0 ∨ i % 3 = 1 ∨ i % 3 = 2 := by omega
    rcases h5 with h5 | h5 | h5 <;> rw [h5] at h3 ⊢ <;> simpa using h3.symm
end Wd

/-- rules of the call's own -/
abbrev OwnsR (w : World) (B : Nat) (v : Value) (gs : List Rl) : Prop := w.ownsRow B 128 3 v gs.length (rv gs)
theorem own_below {w w' : World} {B C e s n : Nat} {v : Value} {xs : List Value} (h : w.ownsRow B e s v n xs) (hb : Below C w w') (hC : w.heap.size ≤ C) : w'.ownsRow B e s v n xs :=
  World.ownsRow.kept h (row := none) ⟨hb.os, hb.tape, hb.output, hb.size, fun k hk _ => hb.block k (by omega)⟩ (by cases hv : v.ownBlock <;> simp)
theorem own_slice {w : World} {B e s n : Nat} {v : Value} {xs : List Value} (h : w.ownsRow B e s v n xs) : ∃ A c, v = .slice A n c := by
  rcases h.2 with ⟨rfl, h0⟩ | ⟨g, cap, cur, rfl, _⟩
  · exact ⟨none, 0, by rw [h0]⟩
  · exact ⟨_, _, rfl⟩
theorem only_setCell {a w : World} {g : Nat} (h : a.grownBy w (some g)) {p : Addr} (hp : p.block = g ∨ a.heap.size ≤ p.block) (u : Value) : a.grownBy (w.setCell p u) (some g) :=
  ⟨h.os, h.tape, h.output, by simpa [World.setCell] using h.size, fun i hi hne => (Below.heap_setCell w p u i (by
    rintro rfl
    rcases hp with hp | hp
    · exact hne (by rw [hp])
    · omega)).trans (h.block i hi hne)⟩
theorem own_setLow {w : World} {B e s n : Nat} {v : Value} {xs : List Value} (h : w.ownsRow B e s v n xs) (p : Addr) (u : Value) (hp : p.block < B) : (w.setCell p u).ownsRow B e s v n xs :=
  World.ownsRow.kept h (only_setCell (World.grownBy.refl w (some p.block)) (.inl rfl) u) (by
    cases hv : v.ownBlock with
    | none => simp
    | some g => refine .inr fun hg => ?_; have := (h.lt g hv).1; injection hg with hg; omega)
theorem own_lower {w : World} {B C e s n : Nat} {v : Value} {xs : List Value} (h : w.ownsRow B e s v n xs) (hC : C ≤ B) : w.ownsRow C e s v n xs := by
  refine ⟨h.1, ?_⟩
  rcases h.2 with h' | ⟨g, cap, cur, h1, hb, rest⟩
  · exact .inl h'
  · exact .inr ⟨g, cap, cur, h1, by omega, rest⟩
theorem below_of_grown {w w' : World} (h : w.grownBy w' none) : Below w.heap.size w w' := (Below.refl _ w).grown h (Nat.le_refl _) (by intro k h; cases h)

theorem own_set3 {w : World} {C e B n c : Nat} {gs : List Rl} (h : w.ownsRow C e 3 (.slice (some ⟨B, 0, none⟩) n c) n (rv gs)) (k : Nat) (hk : k < gs.length) (x : Rl) :
    (((w.setCell ⟨B, k * 3, none⟩ (.string x.L)).setCell ⟨B, k * 3 + 1, none⟩ (.int .i64 x.l)).setCell ⟨B, k * 3 + 2, none⟩ (.int .i64 x.r)).ownsRow C e 3 (.slice (some ⟨B, 0, none⟩) n c) n (rv (gs.set k x)) := by
  have h1 := (((h.stored (k * 3) (.string x.L)).1.stored (k * 3 + 1) (.int .i64 x.l)).1.stored (k * 3 + 2) (.int .i64 x.r)).1
  rw [rv_set gs k x hk] at h1
  exact h1
theorem toRule_any (x : Rl) (w : World) : Calls Try.prog 75 #[agg3 x] w fun e w' => e = .returned (agg3 x) ∧ Below w.heap.size w w' := by
  obtain ⟨L, l, r⟩ := x
  go_enter Try.func75, Try.ntmps75
  go_wp2
  refine bodyPost_ret (v := .agg #[.string L, .int .i64 l, .int .i64 r]) (by simp [results, Try.results75, go_sem]) rfl ⟨rfl, ?_⟩
  exact (((Below.refl _ _).alloc (Nat.le_refl _) _).alloc (by simp) _).alloc (by simp; omega) _

set_option maxRecDepth 100000 in
set_option maxHeartbeats 1600000 in
theorem toRuleS_any (A : Option Addr) (len cap : Nat) (gs : List Rl) (w : World) (hl : len ≤ 1048576) (h : InRules w A len gs) :
    Calls Try.prog 40 #[.slice A len cap] w fun e w' => ∃ v, e = .returned v ∧ OwnsR w' w.heap.size v gs ∧ Below w.heap.size w w' := by
  obtain ⟨i0, hi, hz0, hz1, hz2⟩ := info_parts Try.info_rule
  obtain ⟨hlen, hin⟩ := h
  have HI := Lib.hid hin
  have HLN := Lib.hid hlen
  clear hin hlen
  go_enter Try.func40, Try.ntmps40
  go_wp2_with (refine wpList_make_full _ rfl _ _ 35 rfl w.heap.size 128 i0 (.agg #[.string ⟨#[]⟩, .int .i64 0, .int .i64 0]) 3 Try.underlying35 hi hz0 hz1 .i64 .i64 _ _ len rfl rfl rfl rfl (by rw [hz2]; omega) (by unfold maxLen; omega) (Nat.le_refl _) ?_)
  intro w1 hown hg
  have hB1 := below_of_grown hg
  rw [made_zr, show List.replicate len zr = outK gs 0 from by rw [outK_zero, HLN.out]] at hown
  obtain ⟨B, hBe⟩ : ∃ B, B = w.heap.size := ⟨_, rfl⟩
  rw [← hBe] at hown ⊢
  have HBE := Lib.hid hBe
  clear hg hBe
  go_wp2
  go_loopw [4] (fun i wr => ∃ k : Nat, k ≤ len ∧ i = .int .i64 k ∧ wr.ownsRow B 128 3 (.slice (some ⟨B, 0, none⟩) len len) len (rv (outK gs k)) ∧ Below w.heap.size w wr) (fun i _ => len - (intOf i).toNat)
  case atStart => exact ⟨0, Nat.zero_le _, rfl, hown, hB1⟩
  case round =>
    obtain ⟨k, hk, rfl, hown, hB⟩ := hrel
    by_cases hlt : k < len
    · have hkg : k < gs.length := by rw [HLN.out]; exact hlt
      rcases HI.out with hn | ⟨x, rfl, hc⟩
      · rw [hn] at hkg; simp at hkg
      obtain ⟨⟨c0, c1, c2⟩, hsz⟩ := hc k hkg
      have d0 := (hB.cell (lt_of_cell c0)).trans c0
      have d1 := (hB.cell (lt_of_cell c1)).trans c1
      have d2 := (hB.cell (lt_of_cell c2)).trans c2
      rw [add_next _ _ _ (by omega)] at d1 d2
      clear c0 c1 c2 hc hsz
      go_wp2_with fail
      refine (toRule_any gs[k] _).mono ?_; rintro e w' ⟨rfl, hB'⟩
      have hown' := own_below hown hB' (Nat.le_refl _)
      have hB2 := hB.trans (hB'.mono hB.size)
      have hkl : k < (outK gs k).length := by rw [outK_len _ _ (by omega)]; exact hkg
      have hz : (outK gs k)[k] = zr := by have := outK_get gs k hkg; rw [List.getElem?_eq_getElem hkl] at this; simpa using this
      have e0 : w'.cell? ⟨B, k * 3, none⟩ = some (.string ⟨#[]⟩) := by rw [hown'.cellAt (k * 3) (by omega)]; have := rv_get _ k hkl 0 (by omega); rw [hz] at this; exact this
      have e1 : w'.cell? ⟨B, k * 3 + 1, none⟩ = some (.int .i64 0) := by rw [hown'.cellAt (k * 3 + 1) (by omega)]; have := rv_get _ k hkl 1 (by omega); rw [hz] at this; exact this
      have e2 : w'.cell? ⟨B, k * 3 + 2, none⟩ = some (.int .i64 0) := by rw [hown'.cellAt (k * 3 + 2) (by omega)]; have := rv_get _ k hkl 2 (by omega); rw [hz] at this; exact this
      have f0 : w'.frozen? ⟨B, k * 3, none⟩ = false := hown'.frozenAt _
      have f1 : w'.frozen? ⟨B, k * 3 + 1, none⟩ = false := hown'.frozenAt _
      have f2 : w'.frozen? ⟨B, k * 3 + 2, none⟩ = false := hown'.frozenAt _
      have HO := Lib.hid hown'
      clear hown hown' hz hkl
      go_wp2
      go_roundw
      case rel =>
        refine ⟨k + 1, by omega, by go_num, ?_, ((hB2.setCell (by rw [HBE.out]; exact Nat.le_refl _) _).setCell (by rw [HBE.out]; exact Nat.le_refl _) _).setCell (by rw [HBE.out]; exact Nat.le_refl _) _⟩
        rw [← outK_set gs k hkg]
        exact own_set3 HO.out k (by rw [outK_len _ _ (by omega)]; exact hkg) _
      case measure => simp [intOf]; omega
    · have hown' : OwnsR wr w.heap.size (.slice (some ⟨B, 0, none⟩) len len) gs := by
        have hg := HLN.out
        rw [show k = gs.length from by omega, outK_all, HBE.out] at hown
        unfold OwnsR
        rw [hg, HBE.out]
        exact hown
      have HO := Lib.hid hown'
      clear hown hown'
      go_wp2
      go_ret
      exact ⟨_, rfl, HO.out, hB⟩

set_option maxHeartbeats 800000 in
theorem toGrammar_any (A : Option Addr) (len cap : Nat) (gs : List Rl) (w : World) (hl : len ≤ 1048576) (h : InRules w A len gs) :
    Calls Try.prog 12 #[.agg #[.slice A len cap]] w fun e w' => ∃ v, e = .returned (.agg #[v]) ∧ OwnsR w' w.heap.size v gs ∧ Below w.heap.size w w' := by
  have HS := Lib.hid (fun W (hW : InRules W A len gs) => toRuleS_any A len cap gs W hl hW)
  have HI := Lib.hid h
  clear h
  go_enter Try.func12, Try.ntmps12
  go_wp2_with fail
  have hin := HI.out.kept ((((Below.refl _ w).alloc (Nat.le_refl _) (.cells #[.slice A len cap] 28)).alloc (by simp) (.cells #[.slice none 0 0] 37)).alloc (by simp; omega) (.cells #[.slice none 0 0] 37))
  refine (HS.out _ hin).mono ?_
  clear hin
  rintro e w' ⟨v, rfl, ho, hB⟩
  obtain ⟨A', c', rfl⟩ := own_slice ho
  have hz : w.heap.size + 1 + 1 < w'.heap.size := by have := hB.size; simp at this; omega
  have HO := Lib.hid ho
  obtain ⟨hc, hf⟩ : (∀ b o, b < w.heap.size + 3 → w'.cell? ⟨b, o, none⟩ = _) ∧ (∀ b o, b < w.heap.size + 3 → w'.frozen? ⟨b, o, none⟩ = _) := ⟨fun b o h => hB.cell (p := ⟨b, o, none⟩) (by simpa using h), fun b o h => hB.frozen (p := ⟨b, o, none⟩) (by simpa using h)⟩
  have HB := Lib.hid hB
  clear ho hB
  go_wp2
  refine bodyPost_ret (v := .agg #[.slice A' gs.length c']) (by simp [results, Try.results12, go_sem, hc]) rfl ⟨_, rfl, ?_, ?_⟩
  · have h1 := own_setLow (own_setLow HO.out ⟨w.heap.size + 1 + 1, 0, none⟩ (.slice A' gs.length c') (by simp)) ⟨w.heap.size + 1, 0, none⟩ (.slice A' gs.length c') (by simp)
    exact own_lower h1 (by simp; omega)
  · have h1 : Below w.heap.size w w' := ((((Below.refl _ w).alloc (Nat.le_refl _) _).alloc (by simp) _).alloc (by simp; omega) _).trans (HB.out.mono (by simp; omega))
    exact (h1.setCell (by simp; omega) _).setCell (by simp) _
end Go.Proofs.Ytapemoehcohjgaa
namespace Go.Proofs.Ytapemoehcohjgaa
open Go.RowKit
open Wd
set_option linter.unusedVariables false

namespace Wd
/-- numbers as cells -/
def iv (l : List Int) : List Value := l.map fun c => Value.int .i64 c
theorem iv_len (l : List Int) : (iv l).length = l.length := by simp [iv]
theorem iv_app (l m : List Int) : iv (l ++ m) = iv l ++ iv m := by simp [iv]
theorem iv_get (l : List Int) (j : Nat) (h : j < l.length) : (iv l)[j]? = some (.int .i64 l[j]) := by simp [iv, h]
/-- k, k + 1, .. -/
def marks (k : Int) (n : Nat) : List Int := (List.range n).map fun (j : Nat) => k + (j : Int)
theorem marks_len (k : Int) (n : Nat) : (marks k n).length = n := by simp [marks]
theorem marks_snoc (k : Int) (n : Nat) : marks k (n + 1) = marks k n ++ [k + n] := by simp [marks, List.range_succ]
theorem marks_get (k : Int) (n j : Nat) (h : j < n) : (marks k n)[j]? = some (k + j) := by simp [marks, h]
theorem iv_set (k : Int) (zs : List Int) (j : Nat) (h : j < zs.length) :
    (iv (marks k j ++ zs.drop j)).set j (.int .i64 (k + j)) = iv (marks k (j + 1) ++ zs.drop (j + 1)) := by
  have e1 : zs.drop j = zs[j] :: zs.drop (j + 1) := List.drop_eq_getElem_cons h
  rw [e1, marks_snoc]
  generalize zs.drop (j + 1) = d
  have e2 : (iv (marks k j)).length = j := by rw [iv_len, marks_len]
  rw [iv_app, iv_app, iv_app]
  generalize iv (marks k j) = A at e2
  subst e2
  simp [iv]
end Wd

/-- a row of int64 of the call's own -/
abbrev OwnsI (w : World) (B : Nat) (v : Value) (zs : List Int) : Prop := w.ownsRow B 2 1 v zs.length (iv zs)

theorem OwnsI.cell {w : World} {B g cap : Nat} {zs : List Int} (h : OwnsI w B (.slice (some ⟨g, 0, none⟩) zs.length cap) zs) (j : Nat) (hj : j < zs.length) : w.cell? ⟨g, j, none⟩ = some (.int .i64 zs[j]) := by
  rw [h.cellAt j (by omega), iv_get zs j hj]

/-- its shape: nil and empty, or at the head of a block -/
theorem OwnsI.shape {w : World} {B : Nat} {v : Value} {zs : List Int} (h : OwnsI w B v zs) :
    (v = .slice none 0 0 ∧ zs = []) ∨ ∃ g cap, v = .slice (some ⟨g, 0, none⟩) zs.length cap ∧ B ≤ g ∧ g < w.heap.size := by
  rcases h.2 with ⟨rfl, h0⟩ | ⟨g, cap, cur, rfl, hb, hg, _⟩
  · exact .inl ⟨rfl, List.eq_nil_of_length_eq_zero h0⟩
  · exact .inr ⟨g, cap, rfl, hb, (Array.getElem?_eq_some_iff.1 hg).1⟩

theorem OwnsI.below {w w' : World} {B C : Nat} {v : Value} {zs : List Int} (h : OwnsI w B v zs) (hb : Below C w w') (hC : w.heap.size ≤ C) : OwnsI w' B v zs :=
  World.ownsRow.kept h (row := none) ⟨hb.os, hb.tape, hb.output, hb.size, fun k hk _ => hb.block k (by omega)⟩ (by cases hv : v.ownBlock <;> simp)

theorem OwnsI.drawn {w w' : World} {B : Nat} {v : Value} {zs : List Int} (h : OwnsI w B v zs) (hd : Drawn w w') : OwnsI w' B v zs := by
  obtain ⟨n, rfl⟩ := hd; exact h

theorem OwnsI.lower {w : World} {B C : Nat} {v : Value} {zs : List Int} (h : OwnsI w B v zs) (hC : C ≤ B) : OwnsI w C v zs := by
  refine ⟨h.1, ?_⟩
  rcases h.2 with h' | ⟨g, cap, cur, h1, hb, rest⟩
  · exact .inl h'
  · exact .inr ⟨g, cap, cur, h1, by omega, rest⟩
end Go.Proofs.Ytapemoehcohjgaa
namespace Go.Proofs.Ytapemoehcohjgaa
open Go.RowKit
open Wd
set_option linter.unusedVariables false

theorem eqRule_same (x : Rl) (w : World) : Calls Try.prog 81 #[agg3 x, agg3 x] w fun e w' => e = .returned (.bool true) ∧ Below w.heap.size w w' := by
  obtain ⟨L, l, r⟩ := x
  go_enter Try.func81, Try.ntmps81
  go_wp2
  go_ret
  exact ⟨rfl, ((Below.refl _ _).alloc (Nat.le_refl _) _).alloc (by simp) _⟩

set_option maxRecDepth 100000 in
set_option maxHeartbeats 1600000 in
theorem eqRuleS_same (u v : Value) (gs : List Rl) (w : World) (hn : gs.length ≤ 1048576) (h1 : Rules w u gs) (h2 : Rules w v gs) :
    Calls Try.prog 45 #[u, v] w fun e w' => e = .returned (.bool true) ∧ Below w.heap.size w w' := by
  obtain ⟨A1, c1, rfl, h1⟩ := h1
  obtain ⟨A2, c2, rfl, h2⟩ := h2
  obtain ⟨n, hng⟩ : ∃ n, n = gs.length := ⟨_, rfl⟩
  rw [← hng] at hn ⊢
  have HN := Lib.hid hng
  have H1 := Lib.hid h1
  have H2 := Lib.hid h2
  clear h1 h2 hng
  go_enter Try.func45, Try.ntmps45
  go_wp2
  go_loopw [5] (fun i wr => ∃ k : Nat, k ≤ n ∧ i = .int .i64 k ∧ Below w.heap.size w wr) (fun i _ => n - (intOf i).toNat)
  case atStart => exact ⟨0, Nat.zero_le _, rfl, Below.refl _ _⟩
  case round =>
    obtain ⟨k, hk, rfl, hB⟩ := hrel
    by_cases hlt : k < n
    · have hkg : k < gs.length := by rw [← HN.out]; exact hlt
      rcases H1.out with hn | ⟨g1, rfl, hg1, hc1⟩
      · rw [hn] at hkg; simp at hkg
      rcases H2.out with hn | ⟨g2, rfl, hg2, hc2⟩
      · rw [hn] at hkg; simp at hkg
      obtain ⟨a0, a1, a2⟩ := rules_cells hc1 hkg
      obtain ⟨b0, b1, b2⟩ := rules_cells hc2 hkg
      rw [← hB.cell (p := ⟨g1, k * 3, none⟩) hg1] at a0
      rw [← hB.cell (p := ⟨g1, k * 3 + 1, none⟩) hg1] at a1
      rw [← hB.cell (p := ⟨g1, k * 3 + 2, none⟩) hg1] at a2
      rw [← hB.cell (p := ⟨g2, k * 3, none⟩) hg2] at b0
      rw [← hB.cell (p := ⟨g2, k * 3 + 1, none⟩) hg2] at b1
      rw [← hB.cell (p := ⟨g2, k * 3 + 2, none⟩) hg2] at b2
      have HQ := Lib.hid (fun W => eqRule_same gs[k] W)
      clear hc1 hc2 hg1 hg2
      have HB := Lib.hid hB
      clear hB
      go_wp2
      go_still_tail 8, (by kernel_rfl)
      change wpList _ _ _ _ _ wr.drew
      have hB2 : Below w.heap.size w wr.drew := HB.out.drew
      generalize wr.drew = w2 at hB2 ⊢
      clear HB a0 a1 a2 b0 b1 b2
      have HB2 := Lib.hid hB2
      clear hB2
      go_wp2_with fail
      refine (HQ.out _).mono ?_; rintro e w' ⟨rfl, hB'⟩
      have hB3 := HB2.out.trans (hB'.mono HB2.out.size)
      clear hB'
      go_wp2
      go_roundw
      case rel => exact ⟨k + 1, by omega, by go_num, hB3⟩
      case measure => simp [intOf]; omega
    · go_wp2
      go_ret
      exact ⟨rfl, hB⟩
/-- laws.eqGrammar -/
theorem eqGrammar_same (u v : Value) (gs : List Rl) (w : World) (hn : gs.length ≤ 1048576) (h1 : Rules w u gs) (h2 : Rules w v gs) :
    Calls Try.prog 15 #[.agg #[u], .agg #[v]] w fun e w' => e = .returned (.bool true) ∧ Below w.heap.size w w' := by
  have hB0 : Below w.heap.size w ((w.alloc (.cells #[u] 37)).alloc (.cells #[v] 37)) := ((Below.refl _ w).alloc (Nat.le_refl _) _).alloc (by simp) _
  have hk1 := h1.kept hB0
  have hk2 := h2.kept hB0
  have HC := Lib.hid (eqRuleS_same u v gs _ hn hk1 hk2)
  clear hk1 hk2
  obtain ⟨A1, c1, rfl, h1⟩ := h1
  obtain ⟨A2, c2, rfl, h2⟩ := h2
  have HB := Lib.hid hB0
  clear h1 h2 hB0
  go_enter Try.func15, Try.ntmps15
  go_wp2_with fail
  refine HC.out.mono ?_; rintro e w' ⟨rfl, hB'⟩
  have hB3 := HB.out.trans (hB'.mono (by simp; omega))
  clear hB'
  go_wp2
  go_ret
  exact ⟨rfl, hB3⟩
end Go.Proofs.Ytapemoehcohjgaa
namespace Go.Proofs.Ytapemoehcohjgaa
open Go.RowKit
open Wd
set_option linter.unusedVariables false

theorem Try.info_i64 : (Try.prog.info? 2).map (fun i => (i.zero, i.size, i.bytes)) = some (some (.int .i64 0), 1, 8) := by kernel_rfl

namespace Wd
/-- not too much in all -/
def FewR (gs : List Rl) : Prop := gs.length + sumL gs ≤ 1048576
theorem FewR.len {gs : List Rl} (h : FewR gs) : gs.length ≤ 1048576 := by unfold FewR at h; omega
theorem FewR.at_ {gs : List Rl} (h : FewR gs) (k : Nat) (hk : k < gs.length) : gs[k].L.size ≤ maxLen := by
  have := sumL_at gs k hk
  unfold FewR at h; unfold maxLen; omega
/-- a grammar behind a pointer -/
def GP (w : World) (p : Nat) (gs : List Rl) : Prop := ∃ v, w.cell? ⟨p, 0, none⟩ = some v ∧ Rules w v gs
theorem GP.kept {w w' : World} {p : Nat} {gs : List Rl} (h : GP w p gs) (hb : Below w.heap.size w w') : GP w' p gs := by
  obtain ⟨v, h1, h2⟩ := h
  exact ⟨v, (hb.cell (p := ⟨p, 0, none⟩) (lt_of_cell h1)).trans h1, h2.kept hb⟩
end Wd
theorem own_drewN {w : World} {B e s n : Nat} {v : Value} {xs : List Value} (h : w.ownsRow B e s v n xs) (m : Nat) : (w.drewN m).ownsRow B e s v n xs := h
/-- what comes back of the lengths -/
def SizesPost (gs : List Rl) (w : World) (e : Ending) (w' : World) : Prop :=
  ∃ x, e = .returned (.tuple #[x, .bool (fits gs && small gs)]) ∧ ((fits gs && small gs) = true → OwnsI w' w.heap.size x (lens gs)) ∧ Below w.heap.size w w'

theorem sizes_no {gs : List Rl} {w w' : World} {x : Value} (h : (fits gs && small gs) = false) (hB : Below w.heap.size w w') : SizesPost gs w (.returned (.tuple #[x, .bool false])) w' :=
  ⟨x, by rw [h], fun h' => by (rw [h] at h'; cases h'), hB⟩
theorem sizes_yes {gs : List Rl} {w w' : World} {x : Value} (h : (fits gs && small gs) = true) (ho : OwnsI w' w.heap.size x (lens gs)) (hB : Below w.heap.size w w') : SizesPost gs w (.returned (.tuple #[x, .bool true])) w' :=
  ⟨x, by rw [h], fun _ => ho, hB⟩

/-- what holds between two rounds -/
def SzRel (gs : List Rl) (w : World) (out i : Value) (wr : World) : Prop :=
  ∃ k : Nat, k ≤ gs.length ∧ i = .int .i64 k ∧ wr.ownsRow w.heap.size 2 1 out k (iv (lens (gs.take k))) ∧ Below w.heap.size w wr ∧ UpTo gs k
theorem szRel_start (gs : List Rl) (w : World) : SzRel gs w (.slice (some ⟨w.heap.size, 0, none⟩) 0 0) (.int .i64 0) (w.alloc (.cells #[] 2)) :=
  ⟨0, Nat.zero_le _, rfl, World.ownsRow_lit w #[] 0 (Nat.le_refl _) (by decide) rfl, (Below.refl _ _).alloc (Nat.le_refl _) _, upTo_zero _⟩
theorem szRel_step {gs : List Rl} {w wr w1 : World} {k : Nat} {out out' : Value} {o : Obj} (hk : k < gs.length) (hown : wr.ownsRow w.heap.size 2 1 out k (iv (lens (gs.take k)))) (hB : Below w.heap.size w wr)
    (hu : UpTo gs k) (h1 : gs[k].ok k = true) (h2 : (lens gs).getD k 0 ≤ 1000000000000000)
    (hown' : w1.ownsRow w.heap.size 2 1 out' (k + 1) (iv (lens (gs.take k)) ++ [.int .i64 ((lens gs).getD k 0)])) (hgrow : (wr.alloc o).grownBy w1 out.ownBlock) : SzRel gs w out' (.int .i64 ((k + 1 : Nat) : Int)) w1 := by
  have hsz := hB.size
  refine ⟨k + 1, hk, rfl, ?_, (hB.alloc hsz o).grown hgrow (by simp; omega) (fun q hq => (hown.lt q hq).1), upTo_succ hu hk h1 h2⟩
  rw [lens_snoc hk, iv_app]
  exact hown'

set_option maxRecDepth 100000 in
set_option maxHeartbeats 3200000 in
theorem sizes_any (p : Nat) (gs : List Rl) (w : World) (hf : FewR gs) (h : GP w p gs) :
    Calls Try.prog 97 #[.pointer (some ⟨p, 0, none⟩)] w (SizesPost gs w) := by
  obtain ⟨i0, hi, hz0, hz1, hz2⟩ := info_parts Try.info_i64
  obtain ⟨v, hv, A, c, rfl, hr⟩ := h
  obtain ⟨n, hng⟩ : ∃ n, n = gs.length := ⟨_, rfl⟩
  have hn := hf.len
  rw [← hng] at hn hv
  have HN := Lib.hid hng
  have HV := Lib.hid hv
  have HR := Lib.hid hr
  have HF := Lib.hid hf
  clear hng hv hr hf
  go_enter Try.func97, Try.ntmps97
  go_wp2
  go_loopw [4, 5, 6, 7] (fun x i _ _ wr => SzRel gs w x i wr) (fun _ i _ _ _ => n - (intOf i).toNat)
  case atStart => exact szRel_start gs w
  case round =>
    obtain ⟨k, hk, rfl, hown, hB, hu⟩ := hrel
    obtain ⟨x, rfl⟩ : ∃ x : Value, x = u4 := ⟨_, rfl⟩
    obtain ⟨wo, rfl⟩ : ∃ wo : World, wo = wr := ⟨_, rfl⟩
    have hv' : wo.cell? ⟨p, 0, none⟩ = some (.slice A n c) := (hB.cell (p := ⟨p, 0, none⟩) (lt_of_cell HV.out)).trans HV.out
    by_cases hlt : k < n
    · have hkg : k < gs.length := by rw [← HN.out]; exact hlt
      rcases HR.out with hn | ⟨g, rfl, hg, hc⟩
      · rw [hn] at hkg; simp at hkg
      obtain ⟨a0, a1, a2⟩ := rules_cells hc hkg
      rw [← hB.cell (p := ⟨g, k * 3, none⟩) hg] at a0
      rw [← hB.cell (p := ⟨g, k * 3 + 1, none⟩) hg] at a1
      rw [← hB.cell (p := ⟨g, k * 3 + 2, none⟩) hg] at a2
      have hrl := rule_any gs[k] g (k * 3) k wo (HF.out.at_ k hkg) (by unfold maxLen; omega) a0 a1 a2
      clear hc hk
      cases hok : gs[k].ok k
      · rw [hok] at hrl
        have HRL := Lib.hid hrl
        have HBD := Lib.hid (sizes_no (w := w) (w' := wo) (x := x) (bad_fit hkg hok) hB)
        clear hrl hok hown hu a0 a1 a2 hB
        go_wp2_with fail
        refine HRL.out.mono ?_; rintro e w' ⟨rfl, rfl⟩
        go_wp2
        go_ret2
        exact HBD.out
      · rw [hok] at hrl
        have HRL := Lib.hid hrl
        clear hrl
        have HSZ := Lib.hid hB.size
        have hst := fun (Z : Int) (hZ : (lens gs).getD k 0 = Z) (hZ2 : Z ≤ 1000000000000000) (m : Nat) (w1 : World) (out' : Value) (o : Obj) h3 h4 =>
          szRel_step (w1 := w1) (out' := out') (o := o) (wr := wo.drewN m) hkg hown (below_drewN hB m) hu hok (by rw [hZ]; exact hZ2) (by rw [hZ]; exact h3) h4
        by_cases h0 : gs[k].L.size = 0
        · have he := empty_arr h0
          rw [he] at a0
          obtain ⟨a, b, ha, hb, hak, hbk, hsum, pa1, pa2, pb1, pb2⟩ := lens_next hkg hu hok h0
          rw [ha] at a1
          rw [hb] at a2
          have hO := hown
          rcases hown.2 with ⟨_, hk0⟩ | ⟨g', c', cur, rfl, _⟩
          · omega
          have o1 : wo.cell? ⟨g', a, none⟩ = some (.int .i64 ((lens gs).getD a 0)) := by
            rw [hO.cellAt a (by omega)]; simp only [iv, List.getElem?_map, lens_at hak (Nat.le_of_lt hkg), Option.map_some]
          have o2 : wo.cell? ⟨g', b, none⟩ = some (.int .i64 ((lens gs).getD b 0)) := by
            rw [hO.cellAt b (by omega)]; simp only [iv, List.getElem?_map, lens_at hbk (Nat.le_of_lt hkg), Option.map_some]
          generalize (lens gs).getD a 0 = z1 at *
          generalize (lens gs).getD b 0 = z2 at *
          have HO := Lib.hid hO
          have HST := Lib.hid (hst (z1 + z2) hsum)
          have HBD := Lib.hid (fun (h : 1000000000000000 < z1 + z2) m => sizes_no (w := w) (w' := wo.drewN m) (x := .slice (some ⟨g', 0, none⟩) k c') (bad_long hkg (by rw [hsum]; exact h)) (below_drewN hB m))
          clear hst hsum hO hown hu hok ha hb he h0 hB
          by_cases hbig : 1000000000000000 < z1 + z2
          · go_wp2_with fail
            refine HRL.out.mono ?_; rintro e w' ⟨rfl, rfl⟩
            go_wp2
            go_quiet (fail)
            go_wp2
            go_ret2
            exact HBD.out hbig _
          · go_wp2_with fail
            refine HRL.out.mono ?_; rintro e w' ⟨rfl, rfl⟩
            go_wp2
            go_quiet (fail)
            go_wp2_with (first | (at_builtin; refine wpList_append_own _ rfl _ _ 45 rfl w.heap.size 2 i0 (.int .i64 0) 1 8 Try.underlying45 hi hz0 hz1 hz2 rfl (by decide) _ _ _ rfl (World.ownsRow.alloc (own_drewN HO.out _) _) ⟨wo.heap.size, 0, none⟩ 1 1 [.int .i64 (z1 + z2)] rfl rfl (one_new _ _ _) (one_int _ _) (by unfold maxLen; omega) (by omega) (base_alloc HSZ.out _) ?_))
            intro v' w1 hown' hgrow _
            have HNW := Lib.hid (HST.out (by omega) _ w1 v' _ hown' hgrow)
            clear hown' hgrow
            go_wp2
            go_roundw
            case rel => first | exact HNW.out | ((repeat apply Exists.intro); exact ⟨HNW.out, rfl⟩)
            case measure => simp [intOf]; omega
        · have he := full_list h0
          have hz := vals_letter (fun a b => a + b) gs k hkg h0
          have HST := Lib.hid (hst 1 hz (by omega) 0)
          have HO := Lib.hid hown
          clear hst hown hu hok h0 hB hz
          go_wp2_with fail
          refine HRL.out.mono ?_; rintro e w' ⟨rfl, rfl⟩
          go_wp2_with (first | (at_builtin; refine wpList_append_own _ rfl _ _ 45 rfl w.heap.size 2 i0 (.int .i64 0) 1 8 Try.underlying45 hi hz0 hz1 hz2 rfl (by decide) _ _ _ rfl (World.ownsRow.alloc HO.out _) ⟨wo.heap.size, 0, none⟩ 1 1 [.int .i64 1] rfl rfl (one_new _ _ _) (one_int _ _) (by unfold maxLen; omega) (by omega) (base_alloc HSZ.out _) ?_))
          intro v' w1 hown' hgrow _
          have HNW := Lib.hid (HST.out w1 v' _ hown' hgrow)
          clear hown' hgrow
          go_wp2
          go_roundw
          case rel => first | exact HNW.out | ((repeat apply Exists.intro); exact ⟨HNW.out, rfl⟩)
          case measure => simp [intOf]; omega
    · have hg := HN.out
      have hkn : k = gs.length := by omega
      have hy := sizes_yes (w := w) (w' := wo) (x := x) (upTo_all hu (by omega)) (by
        unfold OwnsI; rw [lens_len]; rw [hkn, List.take_of_length_le (Nat.le_refl _)] at hown; exact hown) hB
      have HY := Lib.hid hy
      clear hy hown hu hkn hg hB
      go_wp2
      go_ret2
      exact HY.out
end Go.Proofs.Ytapemoehcohjgaa
namespace Go.Proofs.Ytapemoehcohjgaa
open Go.RowKit
open Wd
set_option linter.unusedVariables false

namespace Wd
/-- the length of the last word -/
def wordLen (gs : List Rl) : Int := (lens gs).getD (gs.length - 1) 0
theorem wordLen_zero {gs : List Rl} (h : gs.length = 0) : wordLen gs = 0 := by
  have : gs = [] := List.eq_nil_of_length_eq_zero h
  subst this; rfl
theorem gOk_len {gs : List Rl} (h : gOk gs = true) : gs.length ≤ 400 := (gOk_iff.1 h).1
theorem gOk_fs {gs : List Rl} (h : gOk gs = true) : (fits gs && small gs) = true := by
  have := gOk_iff.1 h; simp [this.2.1, this.2.2]
theorem gOk_long {gs : List Rl} (h : 400 < gs.length) : gOk gs = false := by
  unfold gOk; rw [decide_eq_false (by omega)]; rfl
theorem gOk_short {gs : List Rl} (h : gs.length ≤ 400) : gOk gs = (fits gs && small gs) := by
  unfold gOk; rw [decide_eq_true h]; rfl
end Wd
/-- what comes back of the lengths of a valid grammar -/
def LensPost (gs : List Rl) (w : World) (e : Ending) (w' : World) : Prop :=
  ∃ x, e = .returned (.tuple #[x, .bool (gOk gs)]) ∧ (gOk gs = true → OwnsI w' w.heap.size x (lens gs)) ∧ Below w.heap.size w w'

set_option maxHeartbeats 800000 in
theorem lengths_any (p : Nat) (gs : List Rl) (w : World) (hf : FewR gs) (h : GP w p gs) :
    Calls Try.prog 71 #[.pointer (some ⟨p, 0, none⟩)] w (LensPost gs w) := by
  have HC := Lib.hid (sizes_any p gs w hf h)
  obtain ⟨v, hv, A, c, rfl, hr⟩ := h
  have hn := hf.len
  by_cases hlong : 400 < gs.length
  · have HP : Hid (∀ x w', Below w.heap.size w w' → LensPost gs w (.returned (.tuple #[x, .bool false])) w') := Lib.hid fun x w' hb => ⟨x, by rw [gOk_long hlong], fun h' => by (rw [gOk_long hlong] at h'; cases h'), hb⟩
    go_enter Try.func71, Try.ntmps71
    go_wp2
    go_ret2
    exact HP.out _ _ ((Below.refl _ _).alloc (Nat.le_refl _) _)
  · have HP : Hid (∀ e w', SizesPost gs w e w' → ∃ x b, e = .returned (.tuple #[x, .bool b]) ∧ LensPost gs w (.returned (.tuple #[x, .bool b])) w') := Lib.hid fun e w' ⟨x, he, ho, hb⟩ =>
      ⟨x, _, he, x, by rw [gOk_short (by omega)], fun h' => ho (by rw [← gOk_short (by omega)]; exact h'), hb⟩
    clear hr
    go_enter Try.func71, Try.ntmps71
    go_wp2_with fail
    refine HC.out.mono ?_
    intro e w' hp
    obtain ⟨x, b, he, hq⟩ := HP.out e w' hp
    clear hp
    subst he
    have HQ := Lib.hid hq
    clear hq
    go_wp2
    go_ret2
    exact HQ.out

theorem l02Ok_any (p : Nat) (gs : List Rl) (w : World) (hf : FewR gs) (h : GP w p gs) :
    Calls Try.prog 36 #[.pointer (some ⟨p, 0, none⟩)] w fun e w' => e = .returned (.bool (gOk gs)) ∧ Below w.heap.size w w' := by
  have HC := Lib.hid (lengths_any p gs w hf h)
  clear h hf
  go_enter Try.func36, Try.ntmps36
  go_wp2_with fail
  refine HC.out.mono ?_
  rintro e w' ⟨x, rfl, _, hB⟩
  go_wp2
  go_ret
  exact ⟨rfl, hB⟩

end Go.Proofs.Ytapemoehcohjgaa
namespace Go.Proofs.Ytapemoehcohjgaa
open Go.RowKit
open Wd
set_option linter.unusedVariables false

theorem rules_gpT {w : World} {v : Value} {gs : List Rl} (h : Rules w v gs) (t : TypeId) : GP (w.alloc (.cells #[v] t)) w.heap.size gs :=
  ⟨v, cell_new w v t, h.kept ((Below.refl _ w).alloc (Nat.le_refl _) _)⟩
/-- a variable in a block of its own -/
def Var (w : World) (b : Nat) (v : Value) (t : TypeId) : Prop := w.heap[b]? = some (.cells #[v] t (0, 0))
theorem Var.new (w : World) (v : Value) (t : TypeId) : Var (w.alloc (.cells #[v] t)) w.heap.size v t := heap_alloc_new w _
theorem Var.cell {w : World} {b : Nat} {v : Value} {t : TypeId} (h : Var w b v t) : w.cell? ⟨b, 0, none⟩ = some v ∧ w.frozen? ⟨b, 0, none⟩ = false := by
  refine ⟨by rw [cell_of_row _ _ _ _ _ _ h]; rfl, ?_⟩
  unfold Var at h
  simp [World.frozen?, h]
theorem Var.lt {w : World} {b : Nat} {v : Value} {t : TypeId} (h : Var w b v t) : b < w.heap.size := (Array.getElem?_eq_some_iff.1 h).1
theorem Var.kept {w w' : World} {b : Nat} {v : Value} {t : TypeId} (h : Var w b v t) (hb : Below w.heap.size w w') : Var w' b v t := (hb.block b h.lt).trans h
theorem Var.far {w : World} {b : Nat} {v : Value} {t : TypeId} (h : Var w b v t) (p : Addr) (u : Value) (hp : b ≠ p.block) : Var (w.setCell p u) b v t := (Below.heap_setCell w p u b hp).trans h
theorem Var.drewN {w : World} {b : Nat} {v : Value} {t : TypeId} (h : Var w b v t) (n : Nat) : Var (w.drewN n) b v t := h
theorem rules_cases {w : World} {v : Value} {gs : List Rl} (h : Rules w v gs) :
    (∃ c, v = .slice none 0 c ∧ gs = []) ∨ ∃ ad c, v = .slice (some ad) gs.length c ∧ ∀ j u, (rv gs)[j]? = some u → w.cell? (ad.add j) = some u := by
  obtain ⟨A, c, rfl, h | ⟨g, rfl, hg, hc⟩⟩ := h
  · subst h
    cases A with
    | none => exact .inl ⟨c, rfl, rfl⟩
    | some ad => exact .inr ⟨ad, c, rfl, fun j u hu => by simp [rv] at hu⟩
  · refine .inr ⟨_, c, rfl, fun j u hu => ?_⟩
    have := hc j u hu
    unfold Addr.add
    split
    · subst_vars; exact this
    · simpa using this

end Go.Proofs.Ytapemoehcohjgaa
namespace Go.Proofs.Ytapemoehcohjgaa
open Go.RowKit
open Wd
set_option linter.unusedVariables false

theorem ta_ll (v : Value) (w : World) : (Instr.typeAssert (.iface 132 v) 135 132 true).run Try.prog w = .ok (.tuple #[v, .bool true]) w := by kernel_rfl
theorem ta_pp (v : Value) (w : World) : (Instr.typeAssert (.iface 148 v) 135 148 true).run Try.prog w = .ok (.tuple #[v, .bool true]) w := by kernel_rfl
theorem ta_pl (v : Value) (w : World) : (Instr.typeAssert (.iface 148 v) 135 132 true).run Try.prog w = .ok (.tuple #[.agg #[.string ⟨#[]⟩, .int .i64 0, .int .i64 0], .bool false]) w := by kernel_rfl

namespace Wd
/-- rules in a block below a number -/
def RulesU (B : Nat) (w : World) (v : Value) (gs : List Rl) : Prop :=
  ∃ A c, v = .slice A gs.length c ∧ (gs = [] ∨ ∃ g, A = some ⟨g, 0, none⟩ ∧ g < B ∧ ∀ j u, (rv gs)[j]? = some u → w.cell? ⟨g, j, none⟩ = some u)
theorem Rules.under {w w' : World} {v : Value} {gs : List Rl} (h : Rules w v gs) (hb : Below w.heap.size w w') : RulesU w.heap.size w' v gs := by
  obtain ⟨A, c, hv, h | ⟨g, hA, hg, hc⟩⟩ := h
  · exact ⟨A, c, hv, .inl h⟩
  · exact ⟨A, c, hv, .inr ⟨g, hA, hg, fun j u hu => (hb.cell (p := ⟨g, j, none⟩) hg).trans (hc j u hu)⟩⟩
/-- what a memory may hold -/
def MemOk (V : Nat → Int) (mem : List Int) : Prop := ∀ k, k < mem.length → mem.getD k 0 = 0 ∨ mem.getD k 0 = V k
theorem MemOk.set {V : Nat → Int} {mem : List Int} (h : MemOk V mem) (k : Nat) : MemOk V (mem.set k (V k)) := by
  intro j hj
  have hj' : j < mem.length := by simpa using hj
  by_cases e : k = j
  · subst e; right; simp [List.getD_eq_getElem?_getD, hj']
  · have := h j hj'
    simpa [List.getD_eq_getElem?_getD, List.getElem?_set_ne e] using this
theorem MemOk.zero (V : Nat → Int) (n : Nat) : MemOk V (List.replicate n 0) := by
  intro k hk; left
  simp at hk
  simp [List.getD_eq_getElem?_getD, hk]
end Wd

/-- the closure, and what it has captured -/
abbrev measV (bm br bj bf : Nat) : Value := .func (.func 115) #[] #[.pointer (some ⟨bm, 0, none⟩), .pointer (some ⟨br, 0, none⟩), .pointer (some ⟨bj, 0, none⟩), .pointer (some ⟨bf, 0, none⟩)]
/-- the captured variables, and the memory -/
structure MeasSt (B bm br bj bf M : Nat) (jv : Value) (gs : List Rl) (w : World) : Prop where
  m : w.cell? ⟨bm, 0, none⟩ = some (.slice (some ⟨M, 0, none⟩) gs.length gs.length)
  r : ∃ v, w.cell? ⟨br, 0, none⟩ = some v ∧ RulesU B w v gs
  j : w.cell? ⟨bj, 0, none⟩ = some jv
  f : w.cell? ⟨bf, 0, none⟩ = some (measV bm br bj bf)
  nm : bm ≠ M
  nr : br ≠ M
  nj : bj ≠ M
  nf : bf ≠ M
  hB : B ≤ M
  hs : B ≤ w.heap.size
theorem MeasSt.kept {B bm br bj bf M : Nat} {jv : Value} {gs : List Rl} {w w' : World} (h : MeasSt B bm br bj bf M jv gs w) (hg : w.grownBy w' (some M)) : MeasSt B bm br bj bf M jv gs w' := by
  have hcell : ∀ (b o : Nat) v, b ≠ M → w.cell? ⟨b, o, none⟩ = some v → w'.cell? ⟨b, o, none⟩ = some v := fun b o v hne hc => by
    rw [World.cell?_of_block (a := ⟨b, o, none⟩) (hg.block b (lt_of_cell hc) (fun e => hne (by injection e)))]; exact hc
  obtain ⟨v, hv, A, c, rfl, hr⟩ := h.r
  refine ⟨hcell _ _ _ h.nm h.m, ⟨_, hcell _ _ _ h.nr hv, A, c, rfl, ?_⟩, hcell _ _ _ h.nj h.j, hcell _ _ _ h.nf h.f, h.nm, h.nr, h.nj, h.nf, h.hB, Nat.le_trans h.hs hg.size⟩
  rcases hr with hr | ⟨g, hA, hg', hc⟩
  · exact .inl hr
  · exact .inr ⟨g, hA, hg', fun j u hu => hcell _ _ _ (by have := h.hB; omega) (hc j u hu)⟩

/-- what a measuring leaves -/
def MeasPost (B M : Nat) (gs : List Rl) (V : Nat → Int) (k : Nat) (w : World) (e : Ending) (w' : World) : Prop :=
  e = .returned (.int .i64 (V k)) ∧ (∃ mem : List Int, mem.length = gs.length ∧ MemOk V mem ∧ w'.ownsRow B 2 1 (.slice (some ⟨M, 0, none⟩) gs.length gs.length) gs.length (iv mem)) ∧ w.grownBy w' (some M)

set_option maxRecDepth 100000 in
set_option maxHeartbeats 3200000 in
/-- a measure that is known -/
theorem meas_known (B bm br bj bf M : Nat) (jv : Value) (gs : List Rl) (V : Nat → Int) (k : Nat) (w : World) (hk : k < gs.length) (hn : gs.length ≤ 1048576) (hst : MeasSt B bm br bj bf M jv gs w)
    (mem : List Int) (hl : mem.length = gs.length) (hm : MemOk V mem) (hown : w.ownsRow B 2 1 (.slice (some ⟨M, 0, none⟩) gs.length gs.length) gs.length (iv mem)) (h1 : 0 < V k) (h2 : mem.getD k 0 = V k) :
    Calls Try.prog 115 #[.int .i64 k, .pointer (some ⟨bm, 0, none⟩), .pointer (some ⟨br, 0, none⟩), .pointer (some ⟨bj, 0, none⟩), .pointer (some ⟨bf, 0, none⟩)] w (MeasPost B M gs V k w) := by
  have HP : Hid (MeasPost B M gs V k w (.returned (.int .i64 (V k))) w) := Lib.hid ⟨rfl, ⟨mem, hl, hm, hown⟩, World.grownBy.refl _ _⟩
  have hc : w.cell? ⟨M, k, none⟩ = some (.int .i64 (V k)) := by
    rw [hown.cellAt k (by omega)]
    simp only [iv, List.getElem?_map]
    rw [List.getD_eq_getElem?_getD, List.getElem?_eq_getElem (by omega), Option.getD_some] at h2
    rw [List.getElem?_eq_getElem (by omega), Option.map_some, h2]
  have hm1 := hst.m
  generalize V k = z at *
  generalize gs.length = n at *
  clear hown hm hl hst h2
  go_enter Try.func115, Try.ntmps115
  go_wp2_with fail
  go_ret
  exact HP.out
theorem iv_at {mem : List Int} {k : Nat} (h : k < mem.length) : (iv mem)[k]? = some (.int .i64 (mem.getD k 0)) := by
  simp only [iv, List.getElem?_map]
  rw [List.getD_eq_getElem?_getD, List.getElem?_eq_getElem h, Option.getD_some, Option.map_some]
theorem iv_setk (mem : List Int) (k : Nat) (z : Int) : iv (mem.set k z) = (iv mem).set k (.int .i64 z) := by simp [iv, List.map_set]
theorem gbOf {w w' : World} (h : Below w.heap.size w w') (row : Option Nat) : w.grownBy w' row := ⟨h.os, h.tape, h.output, h.size, fun i hi _ => h.block i hi⟩
theorem gbTrans {a b c : World} {row : Option Nat} (h : a.grownBy b row) (h' : b.grownBy c row) : a.grownBy c row :=
  ⟨h'.os.trans h.os, h'.tape.trans h.tape, h'.output.trans h.output, Nat.le_trans h.size h'.size, fun i hi hne => (h'.block i (Nat.lt_of_lt_of_le hi h.size) hne).trans (h.block i hi hne)⟩
theorem only_alloc {a w : World} {row : Option Nat} (h : a.grownBy w row) (o : Obj) : a.grownBy (w.alloc o) row :=
  ⟨h.os, h.tape, h.output, Nat.le_trans h.size (by simp), fun i hi hne => (Below.heap_alloc w o i (Nat.lt_of_lt_of_le hi h.size)).trans (h.block i hi hne)⟩

set_option maxRecDepth 100000 in
set_option maxHeartbeats 3200000 in
/-- a letter -/
theorem meas_letter (B bm br bj bf M : Nat) (jv : Value) (gs : List Rl) (V : Nat → Int) (k : Nat) (w : World) (hk : k < gs.length) (hn : gs.length ≤ 1048576) (hst : MeasSt B bm br bj bf M jv gs w)
    (mem : List Int) (hl : mem.length = gs.length) (hm : MemOk V mem) (hown : w.ownsRow B 2 1 (.slice (some ⟨M, 0, none⟩) gs.length gs.length) gs.length (iv mem)) (h1 : V k = 1) (h2 : mem.getD k 0 = 0) (h0 : gs[k].L.size ≠ 0) :
    Calls Try.prog 115 #[.int .i64 k, .pointer (some ⟨bm, 0, none⟩), .pointer (some ⟨br, 0, none⟩), .pointer (some ⟨bj, 0, none⟩), .pointer (some ⟨bf, 0, none⟩)] w (MeasPost B M gs V k w) := by
  have hc : w.cell? ⟨M, k, none⟩ = some (.int .i64 0) := by
    rw [hown.cellAt k (by omega), iv_at (by omega), h2]
  have hm1 := hst.m
  obtain ⟨v, hv, A, c, rfl, hr⟩ := hst.r
  rcases hr with hr | ⟨g, rfl, hg, hcc⟩
  · rw [hr] at hk; simp at hk
  obtain ⟨a0, a1, a2⟩ := rules_cells hcc hk
  have HK := Lib.hid (fun W => kind_letter gs[k] h0 W)
  have HTA := ta_ll
  have H1 := Lib.hid h1
  have HL := Lib.hid hl
  have HM := Lib.hid hm
  obtain ⟨n, hng⟩ : ∃ n, n = gs.length := ⟨_, rfl⟩
  have HN := Lib.hid hng
  have hkn : k < n := by omega
  rw [← hng] at hm1 hv hn
  clear hng hcc h2 h1 hl hm
  go_enter Try.func115, Try.ntmps115
  go_wp2_with fail
  refine (HK.out _).mono ?_
  rintro e w1 ⟨rfl, hB1⟩
  have l1 := lt_of_cell hm1
  have l2 := lt_of_cell hc
  have d1 := (hB1.cell (p := ⟨bm, 0, none⟩) l1).trans hm1
  have d2 := (hB1.cell (p := ⟨M, k, none⟩) l2).trans hc
  have hown1 := own_below hown hB1 (Nat.le_refl _)
  have f2 : w1.frozen? ⟨M, k, none⟩ = false := by rw [← HN.out] at hown1; exact hown1.frozenAt _
  have l3 : bm < w1.heap.size := Nat.lt_of_lt_of_le l1 hB1.size
  have l4 : M < w1.heap.size := Nat.lt_of_lt_of_le l2 hB1.size
  have HP : Hid (∀ o : Obj, MeasPost B M gs V k w (.returned (.int .i64 1)) ((w1.setCell ⟨M, k, none⟩ (.int .i64 1)).alloc o)) := Lib.hid fun o => by
    obtain ⟨h5, h6⟩ := hown1.stored k (.int .i64 1)
    refine ⟨by rw [H1.out], ⟨mem.set k (V k), by simpa using HL.out, HM.out.set k, ?_⟩, ?_⟩
    · rw [H1.out, iv_setk]; exact World.ownsRow.alloc h5 o
    · exact only_alloc (gbTrans (gbOf hB1 (some M)) h6) o
  have d3 : (w1.setCell ⟨M, k, none⟩ (.int .i64 1)).cell? ⟨bm, 0, none⟩ = some (.slice (some ⟨M, 0, none⟩) n n) := by
    rw [World.cell?_setCell_other _ _ _ _ (fun e => hst.nm (congrArg Addr.block e).symm)]; exact d1
  have d4 : (w1.setCell ⟨M, k, none⟩ (.int .i64 1)).cell? ⟨M, k, none⟩ = some (.int .i64 1) := World.cell?_setCell_same _ _ _ d2
  clear hown hown1 a0 a1 a2 hv hc hm1 hst hB1 l1 l2
  go_wp2_with fail
  go_ret
  exact HP.out _
/-- all that a measuring wants, and keeps -/
def MInv (B bm br bj bf M : Nat) (jv : Value) (gs : List Rl) (V : Nat → Int) (w : World) : Prop :=
  MeasSt B bm br bj bf M jv gs w ∧ ∃ mem : List Int, mem.length = gs.length ∧ MemOk V mem ∧ w.ownsRow B 2 1 (.slice (some ⟨M, 0, none⟩) gs.length gs.length) gs.length (iv mem)
theorem MeasSt.drewN {B bm br bj bf M : Nat} {jv : Value} {gs : List Rl} {w : World} (h : MeasSt B bm br bj bf M jv gs w) (n : Nat) : MeasSt B bm br bj bf M jv gs (w.drewN n) :=
  ⟨h.m, h.r, h.j, h.f, h.nm, h.nr, h.nj, h.nf, h.hB, h.hs⟩
theorem MInv.drewN {B bm br bj bf M : Nat} {jv : Value} {gs : List Rl} {V : Nat → Int} {w : World} (h : MInv B bm br bj bf M jv gs V w) (n : Nat) : MInv B bm br bj bf M jv gs V (w.drewN n) :=
  ⟨h.1.drewN n, h.2⟩
theorem MInv.below {B bm br bj bf M : Nat} {jv : Value} {gs : List Rl} {V : Nat → Int} {w w' : World} (h : MInv B bm br bj bf M jv gs V w) (hb : Below w.heap.size w w') : MInv B bm br bj bf M jv gs V w' := by
  obtain ⟨h1, mem, h2, h3, h4⟩ := h
  exact ⟨h1.kept (gbOf hb _), mem, h2, h3, own_below h4 hb (Nat.le_refl _)⟩
theorem MeasPost.inv {B bm br bj bf M : Nat} {jv : Value} {gs : List Rl} {V : Nat → Int} {k : Nat} {w w' : World} {e : Ending} (h : MeasPost B M gs V k w e w') (h1 : MeasSt B bm br bj bf M jv gs w) :
    e = .returned (.int .i64 (V k)) ∧ MInv B bm br bj bf M jv gs V w' ∧ w.grownBy w' (some M) :=
  ⟨h.1, ⟨h1.kept h.2.2, h.2.1⟩, h.2.2⟩
theorem MInv.slot {B bm br bj bf M : Nat} {jv : Value} {gs : List Rl} {V : Nat → Int} {w : World} (h : MInv B bm br bj bf M jv gs V w) {k : Nat} (hk : k < gs.length) :
    (∃ z, w.cell? ⟨M, k, none⟩ = some (.int .i64 z)) ∧ w.frozen? ⟨M, k, none⟩ = false := by
  obtain ⟨h1, mem, h2, h3, h4⟩ := h
  exact ⟨⟨_, by rw [h4.cellAt k (by omega)]; exact iv_at (by omega)⟩, h4.frozenAt _⟩
theorem MInv.store {B bm br bj bf M : Nat} {jv : Value} {gs : List Rl} {V : Nat → Int} {w : World} (h : MInv B bm br bj bf M jv gs V w) {k : Nat} :
    MInv B bm br bj bf M jv gs V (w.setCell ⟨M, k, none⟩ (.int .i64 (V k))) ∧ w.grownBy (w.setCell ⟨M, k, none⟩ (.int .i64 (V k))) (some M) := by
  obtain ⟨h1, mem, h2, h3, h4⟩ := h
  obtain ⟨h5, h6⟩ := h4.stored k (.int .i64 (V k))
  exact ⟨⟨h1.kept h6, mem.set k (V k), by simpa using h2, h3.set k, by rw [iv_setk]; exact h5⟩, h6⟩

theorem MInv.held {B bm br bj bf M K n : Nat} {jv : Value} {gs : List Rl} {V : Nat → Int} {w w' : World} {a b : Int} (h : MInv B bm br bj bf M jv gs V w') (hg : w.grownBy w' (some M)) (hn : n = gs.length) (hK : K ≠ M)
    (h1 : w.cell? ⟨K, 1, none⟩ = some (.int .i64 a)) (h2 : w.cell? ⟨K, 2, none⟩ = some (.int .i64 b)) :
    w'.cell? ⟨bm, 0, none⟩ = some (.slice (some ⟨M, 0, none⟩) n n) ∧ w'.cell? ⟨bj, 0, none⟩ = some jv ∧ w'.cell? ⟨bf, 0, none⟩ = some (measV bm br bj bf) ∧ w'.cell? ⟨K, 1, none⟩ = some (.int .i64 a) ∧ w'.cell? ⟨K, 2, none⟩ = some (.int .i64 b) := by
  have hcell : ∀ (o : Nat) v, w.cell? ⟨K, o, none⟩ = some v → w'.cell? ⟨K, o, none⟩ = some v := fun o v hc => by
    rw [World.cell?_of_block (a := ⟨K, o, none⟩) (hg.block K (lt_of_cell hc) (fun e => hK (by injection e)))]; exact hc
  exact ⟨by rw [hn]; exact h.1.m, h.1.j, h.1.f, hcell _ _ h1, hcell _ _ h2⟩
theorem grownBy_drewN {a w : World} {row : Option Nat} (h : a.grownBy w row) (n : Nat) : a.grownBy (w.drewN n) row := ⟨h.os, h.tape, h.output, h.size, h.block⟩
theorem grownBy_undrew {a w : World} {row : Option Nat} {n : Nat} (h : (a.drewN n).grownBy w row) : a.grownBy w row := ⟨h.os, h.tape, h.output, h.size, h.block⟩

/-- a measuring at a number -/
abbrev MeasCalls (B bm br bj bf M : Nat) (jv : Value) (gs : List Rl) (V : Nat → Int) (k : Nat) (w : World) : Prop :=
  Calls Try.prog 115 #[.int .i64 k, .pointer (some ⟨bm, 0, none⟩), .pointer (some ⟨br, 0, none⟩), .pointer (some ⟨bj, 0, none⟩), .pointer (some ⟨bf, 0, none⟩)] w
    fun e w' => e = .returned (.int .i64 (V k)) ∧ MInv B bm br bj bf M jv gs V w' ∧ w.grownBy w' (some M)

end Go.Proofs.Ytapemoehcohjgaa
namespace Go.Proofs.Ytapemoehcohjgaa
open Go.RowKit
open Wd
set_option linter.unusedVariables false

namespace Wd
/-- the number of a letter -/
def ltNo (x : Rl) : Nat := (x.L.data.toList.headD 97).toNat - 97
/-- a letter as its one byte -/
theorem letter_byte {x : Rl} {n : Nat} (h0 : x.L.size ≠ 0) (h : x.ok n = true) : ∃ c : UInt8, x.L = ⟨#[c]⟩ ∧ 97 ≤ (c.toNat : Int) ∧ (c.toNat : Int) ≤ 100 ∧ ltNo x = c.toNat - 97 := by
  obtain ⟨⟨h1, h2⟩, _⟩ := (ok_letter h0).1 h
  obtain ⟨⟨⟨l⟩⟩, a, b⟩ := x
  match l, h1 with
  | [c], _ =>
    have h3 := of_lt (okL_at h2 (i := 0) (by simp))
    exact ⟨c, rfl, by simpa using h3.1, by simpa using h3.2, rfl⟩
theorem own_addr {w : World} {B e s n c : Nat} {A : Option Addr} {xs : List Value} (h : w.ownsRow B e s (.slice A n c) n xs) (hn : 0 < n) : ∃ g, A = some ⟨g, 0, none⟩ ∧ B ≤ g ∧ g < w.heap.size := by
  rcases h.2 with ⟨_, h0⟩ | ⟨g, cap, cur, hv, hb, hg, _⟩
  · omega
  · injection hv with hv
    exact ⟨g, hv, hb, (Array.getElem?_eq_some_iff.1 hg).1⟩
end Wd
theorem cell_far0 {w : World} {a b i j : Nat} (h : a ≠ b) (u : Value) : (w.setCell ⟨b, j, none⟩ u).cell? ⟨a, i, none⟩ = w.cell? ⟨a, i, none⟩ :=
  World.cell?_of_block (a := ⟨a, i, none⟩) (Below.heap_setCell w ⟨b, j, none⟩ u a h)
theorem own_kinds_ne {w : World} {B B' e e' s s' n n' : Nat} {v u : Value} {xs ys : List Value} (h : w.ownsRow B e s v n xs) (h' : w.ownsRow B' e' s' u n' ys) (hne : e ≠ e') : v.ownBlock = none ∨ v.ownBlock ≠ u.ownBlock := by
  rcases h.2 with ⟨rfl, _⟩ | ⟨g1, cap, cur, rfl, _, hg, _⟩
  · exact .inl rfl
  · refine .inr fun e => ?_
    rcases h'.2 with ⟨rfl, _⟩ | ⟨g', cap', cur', rfl, _, hg', _⟩
    · simp [Value.ownBlock] at e
    · have : g1 = g' := by simpa [Value.ownBlock] using e
      subst this
      rw [hg] at hg'
      injection hg' with h1
      injection h1 with _ h2
      exact hne h2
theorem own_other {w w5 : World} {B B' e e' s s' n n' : Nat} {v u : Value} {xs ys : List Value} {o : Obj} (h : w.ownsRow B e s v n xs) (h' : w.ownsRow B' e' s' u n' ys) (hne : e ≠ e') (hg : (w.alloc o).grownBy w5 u.ownBlock) : w5.ownsRow B e s v n xs :=
  World.ownsRow.kept (h.alloc o) hg (own_kinds_ne h h' hne)
theorem made_i64 (n : Nat) : (madeCells #[.int .i64 0] n).toList = iv (List.replicate n 0) := by
  apply List.ext_getElem
  · simp [madeCells, iv]
  · intro i h1 h2
    simp [madeCells, iv, Nat.mod_one]
theorem iv_setU (mem : List Int) (k : Nat) (z : Int) : iv (mem.set k z) = (iv mem).set k (.int .i64 z) := by simp [iv, List.map_set]
theorem u_store {w : World} {B e g n : Nat} {u : List Int} (h : w.ownsRow B e 1 (.slice (some ⟨g, 0, none⟩) n n) n (iv u)) (k : Nat) (z : Int) :
    (w.setCell ⟨g, k, none⟩ (.int .i64 z)).ownsRow B e 1 (.slice (some ⟨g, 0, none⟩) n n) n (iv (u.set k z)) := by
  rw [iv_setU]; exact (h.stored k (.int .i64 z)).1
end Go.Proofs.Ytapemoehcohjgaa
namespace Go.Proofs.Ytapemoehcohjgaa
open Go.RowKit
open Wd
set_option linter.unusedVariables false
theorem blk4_cells {w : World} {R : Nat} {t : TypeId} {a b c d : Value} (h : w.heap[R]? = some (.cells #[a, b, c, d] t (0, 0))) :
    (w.cell? ⟨R, 0, none⟩ = some a ∧ w.cell? ⟨R, 1, none⟩ = some b ∧ w.cell? ⟨R, 2, none⟩ = some c ∧ w.cell? ⟨R, 3, none⟩ = some d) ∧ (w.frozen? ⟨R, 0, none⟩ = false ∧ w.frozen? ⟨R, 1, none⟩ = false ∧ w.frozen? ⟨R, 2, none⟩ = false ∧ w.frozen? ⟨R, 3, none⟩ = false) := by
  refine ⟨⟨?_, ?_, ?_, ?_⟩, ?_, ?_, ?_, ?_⟩
  · rw [cell_of_row _ _ _ _ _ _ h]; rfl
  · rw [cell_of_row _ _ _ _ _ _ h]; rfl
  · rw [cell_of_row _ _ _ _ _ _ h]; rfl
  · rw [cell_of_row _ _ _ _ _ _ h]; rfl
  · simp [World.frozen?, h]
  · simp [World.frozen?, h]
  · simp [World.frozen?, h]
  · simp [World.frozen?, h]
theorem blk4_01 {w : World} {R : Nat} {t : TypeId} {a b c d a' b' : Value} (h : w.heap[R]? = some (.cells #[a, b, c, d] t (0, 0))) :
    ((w.setCell ⟨R, 0, none⟩ a').setCell ⟨R, 1, none⟩ b').heap[R]? = some (.cells #[a', b', c, d] t (0, 0)) := by
  simp [World.setCell, Array.getElem?_modify, h]
theorem blk4_2 {w : World} {R : Nat} {t : TypeId} {a b c d c' : Value} (h : w.heap[R]? = some (.cells #[a, b, c, d] t (0, 0))) :
    (w.setCell ⟨R, 2, none⟩ c').heap[R]? = some (.cells #[a, b, c', d] t (0, 0)) := by
  simp [World.setCell, Array.getElem?_modify, h]
theorem blk4_3 {w : World} {R : Nat} {t : TypeId} {a b c d d' : Value} (h : w.heap[R]? = some (.cells #[a, b, c, d] t (0, 0))) :
    (w.setCell ⟨R, 3, none⟩ d').heap[R]? = some (.cells #[a, b, c, d'] t (0, 0)) := by
  simp [World.setCell, Array.getElem?_modify, h]
theorem blk4_all {w : World} {R : Nat} {t : TypeId} {a b c d a' b' c' d' : Value} (h : w.heap[R]? = some (.cells #[a, b, c, d] t (0, 0))) :
    ((((w.setCell ⟨R, 0, none⟩ a').setCell ⟨R, 1, none⟩ b').setCell ⟨R, 2, none⟩ c').setCell ⟨R, 3, none⟩ d').heap[R]? = some (.cells #[a', b', c', d'] t (0, 0)) := by
  simp [World.setCell, Array.getElem?_modify, h]
theorem al3 (w : World) (a b c : Obj) : (((w.alloc a).alloc b).alloc c).heap[w.heap.size]? = some a ∧ (((w.alloc a).alloc b).alloc c).heap[w.heap.size + 1]? = some b ∧ (((w.alloc a).alloc b).alloc c).heap[w.heap.size + 2]? = some c ∧ Below w.heap.size w (((w.alloc a).alloc b).alloc c) ∧ (((w.alloc a).alloc b).alloc c).heap.size = w.heap.size + 3 := by
  have h0 := heap_alloc_new w a
  have h1 := heap_alloc_new (w.alloc a) b
  have h2 := heap_alloc_new ((w.alloc a).alloc b) c
  have s1 : (w.alloc a).heap.size = w.heap.size + 1 := by simp
  have s2 : ((w.alloc a).alloc b).heap.size = w.heap.size + 2 := by simp
  have b1 := (Below.refl _ (w.alloc a)).alloc (Nat.le_refl _) b
  have b2 := (Below.refl _ ((w.alloc a).alloc b)).alloc (Nat.le_refl _) c
  rw [s1] at h1
  rw [s2] at h2
  refine ⟨(b2.block _ (by omega)).trans ((b1.block _ (by omega)).trans h0), (b2.block _ (by omega)).trans h1, h2, (((Below.refl _ w).alloc (Nat.le_refl _) _).alloc (by simp) _).alloc (by simp; omega) _, by simp⟩
theorem bSetRow {B : Nat} {w w' : World} (h : Below B w w') {R : Nat} (hR : B ≤ R) (cs : Array Value) : Below B w (w'.setRow R cs) :=
  ⟨h.os, h.tape, h.output, by rw [size_setRow]; exact h.size, fun k hk => by
    show (w'.heap.modify R _)[k]? = _
    rw [Array.getElem?_modify, if_neg (by omega)]
    exact h.block k hk⟩
end Go.Proofs.Ytapemoehcohjgaa
namespace Go.Proofs.Ytapemoehcohjgaa
open Go.RowKit
open Wd
set_option linter.unusedVariables false
/-- a slice that reads as these numbers -/
def IsL (w : World) (v : Value) (zs : List Int) : Prop :=
  ∃ (A : Option Addr) (c : Nat), v = .slice A zs.length c ∧ (zs = [] ∨ ∃ a, A = some a ∧ ∀ j (hj : j < zs.length), w.cell? (a.add j) = some (.int .i64 zs[j]))
theorem IsL.kept {w w' : World} {v : Value} {zs : List Int} (h : IsL w v zs) (hb : Below w.heap.size w w') : IsL w' v zs := by
  obtain ⟨A, c, hv, h | ⟨a, hA, hc⟩⟩ := h
  · exact ⟨A, c, hv, .inl h⟩
  · exact ⟨A, c, hv, .inr ⟨a, hA, fun j hj => (hb.cell (lt_of_cell (hc j hj))).trans (hc j hj)⟩⟩
theorem IsL.shape {w : World} {v : Value} {zs : List Int} (h : IsL w v zs) : ∃ A c, v = .slice A zs.length c := by
  obtain ⟨A, c, hv, _⟩ := h
  exact ⟨A, c, hv⟩
theorem add_zero' (g j : Nat) : (⟨g, 0, none⟩ : Addr).add j = ⟨g, j, none⟩ := by
  unfold Addr.add
  split
  · subst_vars; rfl
  · simp
theorem IsL.of_own {w : World} {B : Nat} {v : Value} {zs : List Int} (h : OwnsI w B v zs) : IsL w v zs := by
  rcases h.shape with ⟨rfl, hz⟩ | ⟨g, c, rfl, _⟩
  · exact ⟨none, 0, by rw [hz]; rfl, .inl hz⟩
  · exact ⟨_, c, rfl, .inr ⟨_, rfl, fun j hj => by rw [add_zero']; exact h.cell j hj⟩⟩
namespace Wd
def toK (zs : List Int) (k : Nat) : List Int := zs.take k ++ List.replicate (zs.length - k) 0
theorem toK_len (zs : List Int) (k : Nat) (h : k ≤ zs.length) : (toK zs k).length = zs.length := by simp [toK]; omega
theorem toK_set (zs : List Int) (k : Nat) (h : k < zs.length) : (toK zs k).set k zs[k] = toK zs (k + 1) := by
  unfold toK
  have h1 : (zs.take k).length = k := by simp; omega
  rw [List.set_append_right _ _ (by omega), h1, Nat.sub_self, show zs.length - k = (zs.length - (k + 1)) + 1 from by omega, List.replicate_succ, List.set_cons_zero, List.take_succ_eq_append_getElem h, List.append_assoc]
  rfl
theorem toK_zero (zs : List Int) : toK zs 0 = List.replicate zs.length 0 := by simp [toK]
theorem toK_all (zs : List Int) : toK zs zs.length = zs := by simp [toK]
end Wd
set_option maxRecDepth 100000 in
set_option maxHeartbeats 1600000 in
theorem toI_any (v : Value) (zs : List Int) (w : World) (hn : zs.length ≤ 1048576) (h : IsL w v zs) :
    Calls Try.prog 56 #[v] w fun e w' => ∃ y, e = .returned y ∧ OwnsI w' w.heap.size y zs ∧ Below w.heap.size w w' := by
  obtain ⟨i0, hi, hz0, hz1, hz2⟩ := info_parts Try.info_i64
  obtain ⟨A, c, rfl, hin⟩ := h
  have HI := Lib.hid hin
  obtain ⟨n, hn'⟩ : ∃ n, n = zs.length := ⟨_, rfl⟩
  rw [← hn'] at hn ⊢
  have HN := Lib.hid hn'
  clear hin hn'
  go_enter Try.func56, Try.ntmps56
  go_wp2_with (refine wpList_make_full _ rfl _ _ 45 rfl w.heap.size 2 i0 (.int .i64 0) 1 Try.underlying45 hi hz0 hz1 .i64 .i64 _ _ n rfl rfl rfl rfl (by rw [hz2]; omega) (by unfold maxLen; omega) (Nat.le_refl _) ?_)
  intro w1 hown hg
  have hB1 := below_of_grown hg
  rw [made_i64, show List.replicate n (0 : Int) = toK zs 0 from by rw [toK_zero, HN.out]] at hown
  obtain ⟨B, hBe⟩ : ∃ B, B = w.heap.size := ⟨_, rfl⟩
  rw [← hBe] at hown ⊢
  have HBE := Lib.hid hBe
  clear hg hBe
  go_wp2
  go_loopw [4] (fun i wr => ∃ k : Nat, k ≤ n ∧ i = .int .i64 k ∧ wr.ownsRow B 2 1 (.slice (some ⟨B, 0, none⟩) n n) n (iv (toK zs k)) ∧ Below w.heap.size w wr) (fun i _ => n - (intOf i).toNat)
  case atStart => exact ⟨0, Nat.zero_le _, rfl, hown, hB1⟩
  case round =>
    obtain ⟨k, hk, rfl, hown, hB⟩ := hrel
    by_cases hlt : k < n
    · have hkg : k < zs.length := by rw [← HN.out]; exact hlt
      rcases HI.out with hn | ⟨x, rfl, hc⟩
      · rw [hn] at hkg; simp at hkg
      have c0 := hc k hkg
      have d0 := (hB.cell (lt_of_cell c0)).trans c0
      have e0 := (hown.cellAt k (by omega)).trans (List.getElem?_eq_getElem (by simp [iv, toK_len zs k (by omega)]; exact hkg))
      have f0 : wr.frozen? ⟨B, k, none⟩ = false := hown.frozenAt _
      have hs := (hown.stored k (.int .i64 zs[k])).1
      rw [show (iv (toK zs k)).set k (.int .i64 zs[k]) = iv (toK zs (k + 1)) from by rw [← toK_set zs k hkg]; simp [iv, List.map_set]] at hs
      have HS := Lib.hid hs
      have HB := Lib.hid (hB.setCell (p := ⟨B, k, none⟩) (by rw [← HBE.out]; exact Nat.le_refl _) (.int .i64 zs[k]))
      generalize zs[k] = z at *
      clear c0 hc hown hB hs
      generalize (iv (toK zs k))[k]'_ = u0 at *
      go_wp2
      go_roundw
      case rel => exact ⟨k + 1, by omega, by go_num, HS.out, HB.out⟩
      case measure => simp [intOf]; omega
    · obtain rfl : k = n := by omega
      go_wp2
      go_ret
      refine ⟨_, rfl, ?_, hB⟩
      unfold OwnsI
      rw [← HN.out]
      have := hown
      rw [HN.out, toK_all, ← HN.out] at this
      rw [HBE.out] at this ⊢
      exact this


theorem eqJ_zero (a b : Option Addr) (c d : Nat) (w : World) :
    Calls Try.prog 25 #[.slice a 0 c, .slice b 0 d] w fun e w' => e = .returned (.bool true) ∧ Drawn w w' := by
  go_enter Try.func25, Try.ntmps25
  go_wp2
  refine wp_loop_rounds 1 ?_
  rw [rounds_succ]
  go_wp2
  go_ret
  exact ⟨rfl, Drawn.refl _⟩

set_option maxHeartbeats 400000 in
theorem eqJ_some (g1 g2 c d n : Nat) (zs : List Int) (hn : zs.length = n) (hn' : n ≤ 1048576) (w : World) (h1 : ∀ j (hj : j < zs.length), w.cell? ⟨g1, j, none⟩ = some (.int .i64 zs[j])) (h2 : ∀ j (hj : j < zs.length), w.cell? ⟨g2, j, none⟩ = some (.int .i64 zs[j])) :
    Calls Try.prog 25 #[.slice (some ⟨g1, 0, none⟩) n c, .slice (some ⟨g2, 0, none⟩) n d] w fun e w' => e = .returned (.bool true) ∧ Drawn w w' := by
  have H1 := Lib.hid h1
  have H2 := Lib.hid h2
  have HN := Lib.hid hn
  clear h1 h2 hn
  go_enter Try.func25, Try.ntmps25
  go_wp2
  go_loopw [5] (fun i wr => ∃ k : Nat, k ≤ n ∧ i = .int .i64 k ∧ Drawn w wr) (fun i _ => n - (intOf i).toNat)
  case atStart => exact ⟨0, Nat.zero_le _, rfl, Drawn.refl _⟩
  case round =>
    obtain ⟨k, hk, rfl, hD⟩ := hrel
    by_cases hlt : k < n
    · have hkz : k < zs.length := by rw [HN.out]; exact hlt
      have c1 : wr.cell? ⟨g1, k, none⟩ = some (.int .i64 zs[k]) := by obtain ⟨m, rfl⟩ := hD; exact H1.out k hkz
      have c2 : wr.cell? ⟨g2, k, none⟩ = some (.int .i64 zs[k]) := by obtain ⟨m, rfl⟩ := hD; exact H2.out k hkz
      generalize zs[k] = z at c1 c2
      clear hkz
      go_wp2
      go_quiet (fail)
      go_wp2
      go_roundw
      case rel => exact ⟨k + 1, by omega, by go_num, hD.drewN _⟩
      case measure => simp [intOf]; omega
    · go_wp2
      go_ret
      exact ⟨rfl, hD⟩

theorem eqJ (a b : Value) (zs : List Int) (B C : Nat) (w : World) (h1 : OwnsI w B a zs) (h2 : OwnsI w C b zs) (hn : zs.length ≤ 1048576) :
    Calls Try.prog 25 #[a, b] w fun e w' => e = .returned (.bool true) ∧ Drawn w w' := by
  by_cases h0 : zs.length = 0
  · have hz := List.eq_nil_of_length_eq_zero h0
    subst hz
    have sh : ∀ {v B}, OwnsI w B v [] → ∃ a c, v = .slice a 0 c := fun h => by
      rcases h.shape with ⟨rfl, _⟩ | ⟨g, cap, rfl, _⟩
      · exact ⟨_, _, rfl⟩
      · exact ⟨_, _, rfl⟩
    obtain ⟨_, _, rfl⟩ := sh h1
    obtain ⟨_, _, rfl⟩ := sh h2
    exact eqJ_zero _ _ _ _ _
  · rcases h1.shape with ⟨_, rfl⟩ | ⟨g1, c1, rfl, _⟩
    · simp at h0
    rcases h2.shape with ⟨_, rfl⟩ | ⟨g2, c2, rfl, _⟩
    · simp at h0
    exact eqJ_some g1 g2 c1 c2 _ zs rfl hn w (fun j hj => h1.cell j hj) (fun j hj => h2.cell j hj)
end Go.Proofs.Ytapemoehcohjgaa
namespace Go.Proofs.Ytapemoehcohjgaa
open Go.RowKit
open Wd
set_option linter.unusedVariables false
/-- rows of one's own, no two of them in one block -/
structure Rws (w : World) (lo : Nat) (U : List Value) (Z : List (List Int)) : Prop where
  len : U.length = Z.length
  row : ∀ (j : Nat) (u : Value) (zs : List Int), U[j]? = some u → Z[j]? = some zs → OwnsI w lo u zs
  ne : ∀ (i j : Nat) (u y : Value), i < j → U[i]? = some u → U[j]? = some y → u.ownBlock = none ∨ u.ownBlock ≠ y.ownBlock
/-- nothing is changed but in these rows' blocks -/
structure OnlyIn (U : List Value) (w w' : World) : Prop where
  os : w'.os = w.os
  tape : w'.tape = w.tape
  output : w'.output = w.output
  size : w.heap.size ≤ w'.heap.size
  block : ∀ k, k < w.heap.size → (∀ u ∈ U, u.ownBlock ≠ some k) → w'.heap[k]? = w.heap[k]?
theorem OnlyIn.refl (U : List Value) (w : World) : OnlyIn U w w := ⟨rfl, rfl, rfl, Nat.le_refl _, fun _ _ _ => rfl⟩
theorem OnlyIn.trans {U : List Value} {a b c : World} (h : OnlyIn U a b) (h' : OnlyIn U b c) : OnlyIn U a c :=
  ⟨h'.os.trans h.os, h'.tape.trans h.tape, h'.output.trans h.output, Nat.le_trans h.size h'.size, fun k hk hn => (h'.block k (Nat.lt_of_lt_of_le hk h.size) hn).trans (h.block k hk hn)⟩
theorem OnlyIn.mono {U V : List Value} {a b : World} (h : OnlyIn U a b) (hs : ∀ u ∈ U, u ∈ V) : OnlyIn V a b :=
  ⟨h.os, h.tape, h.output, h.size, fun k hk hn => h.block k hk fun u hu => hn u (hs u hu)⟩
theorem OnlyIn.of_grown {U : List Value} {u : Value} {a b : World} (h : a.grownBy b u.ownBlock) (hu : u ∈ U) : OnlyIn U a b :=
  ⟨h.os, h.tape, h.output, h.size, fun k hk hn => h.block k hk fun e => hn u hu e.symm⟩
theorem OnlyIn.of_below {U : List Value} {a b : World} (h : Below a.heap.size a b) : OnlyIn U a b :=
  ⟨h.os, h.tape, h.output, h.size, fun k hk _ => h.block k hk⟩
theorem OnlyIn.below {U : List Value} {a b : World} {lo : Nat} (h : OnlyIn U a b) (hlo : lo ≤ a.heap.size) (hU : ∀ u ∈ U, ∀ q, u.ownBlock = some q → lo ≤ q) : Below lo a b :=
  ⟨h.os, h.tape, h.output, h.size, fun k hk => h.block k (by omega) fun u hu e => by have := hU u hu k e; omega⟩
theorem own_only {U : List Value} {w w' : World} {B e s n : Nat} {v : Value} {xs : List Value} (h : w.ownsRow B e s v n xs) (ho : OnlyIn U w w') (hne : ∀ u ∈ U, u.ownBlock = none ∨ u.ownBlock ≠ v.ownBlock) : w'.ownsRow B e s v n xs := by
  refine ⟨h.1, ?_⟩
  rcases h.2 with h' | ⟨g, cap, cur, rfl, hb, hg, rest⟩
  · exact .inl h'
  · refine .inr ⟨g, cap, cur, rfl, hb, (ho.block g (Array.getElem?_eq_some_iff.1 hg).1 fun u hu e => ?_).trans hg, rest⟩
    rcases hne u hu with h1 | h1
    · rw [h1] at e; cases e
    · exact h1 e
theorem Rws.ge {w : World} {lo : Nat} {U : List Value} {Z : List (List Int)} (h : Rws w lo U Z) : ∀ u ∈ U, ∀ q, u.ownBlock = some q → lo ≤ q ∧ q < w.heap.size := by
  intro u hu q hq
  obtain ⟨j, hj, rfl⟩ := List.mem_iff_getElem.1 hu
  exact (h.row j _ _ (List.getElem?_eq_getElem hj) (List.getElem?_eq_getElem (by rw [← h.len]; exact hj))).lt q hq
theorem Rws.kept {w w' : World} {lo : Nat} {U : List Value} {Z : List (List Int)} (h : Rws w lo U Z) (hb : Below w.heap.size w w') : Rws w' lo U Z :=
  ⟨h.len, fun j u zs h1 h2 => own_below (h.row j u zs h1 h2) hb (Nat.le_refl _), h.ne⟩
theorem Rws.lower {w : World} {lo B : Nat} {U : List Value} {Z : List (List Int)} (h : Rws w lo U Z) (hb : B ≤ lo) : Rws w B U Z :=
  ⟨h.len, fun j u zs h1 h2 => own_lower (h.row j u zs h1 h2) hb, h.ne⟩
theorem Rws.only {w w' : World} {lo : Nat} {U V : List Value} {Z : List (List Int)} (h : Rws w lo U Z) (ho : OnlyIn V w w') (hV : ∀ u ∈ V, ∀ q, u.ownBlock = some q → q < lo) : Rws w' lo U Z := by
  refine ⟨h.len, fun j u zs h1 h2 => own_only (h.row j u zs h1 h2) ho (fun y hy => ?_), h.ne⟩
  cases hq : y.ownBlock with
  | none => exact .inl rfl
  | some q =>
    refine .inr fun e => ?_
    have h3 := hV y hy q hq
    have h4 := ((h.row j u zs h1 h2).lt q e.symm).1
    omega
theorem Rws.mark {w w' : World} {lo : Nat} {U : List Value} {Z : List (List Int)} (h : Rws w lo U Z) {j : Nat} {u : Value} {zs : List Int} (hu : U[j]? = some u) (hg : w.grownBy w' u.ownBlock) (ho : OwnsI w' lo u zs) : Rws w' lo U (Z.set j zs) := by
  refine ⟨by simpa using h.len, fun i y ys h1 h2 => ?_, h.ne⟩
  by_cases e : j = i
  · subst e
    rw [hu] at h1
    injection h1 with h1
    subst h1
    have hj : j < Z.length := by rw [← h.len]; exact (List.getElem?_eq_some_iff.1 hu).1
    rw [List.getElem?_set_self hj] at h2
    injection h2 with h2
    subst h2
    exact ho
  · rw [List.getElem?_set_ne e] at h2
    refine World.ownsRow.kept (h.row i y ys h1 h2) hg ?_
    rcases Nat.lt_or_gt_of_ne e with hlt | hlt
    · rcases h.ne j i u y hlt hu h1 with h3 | h3
      · cases hy : y.ownBlock with
        | none => exact .inl rfl
        | some q => exact .inr (by rw [h3]; simp)
      · exact .inr fun e => h3 e.symm
    · exact h.ne i j y u hlt h1 hu
theorem Rws.tail {w : World} {lo : Nat} {u : Value} {U : List Value} {z : List Int} {Z : List (List Int)} (h : Rws w lo (u :: U) (z :: Z)) : OwnsI w lo u z ∧ Rws w lo U Z ∧ ∀ y ∈ U, y.ownBlock = none ∨ y.ownBlock ≠ u.ownBlock := by
  refine ⟨h.row 0 u z rfl rfl, ⟨by simpa using h.len, fun j y zs h1 h2 => h.row (j + 1) y zs (by simpa using h1) (by simpa using h2), fun i j y y' hij h1 h2 => h.ne (i + 1) (j + 1) y y' (by omega) (by simpa using h1) (by simpa using h2)⟩, fun y hy => ?_⟩
  obtain ⟨j, hj, rfl⟩ := List.mem_iff_getElem.1 hy
  rcases h.ne 0 (j + 1) u U[j] (by omega) rfl (by simp [hj]) with h1 | h1
  · cases hy : U[j].ownBlock with
    | none => exact .inl rfl
    | some q => exact .inr (by rw [h1]; simp)
  · exact .inr fun e => h1 e.symm
theorem Rws.cons {w : World} {lo : Nat} {u : Value} {U : List Value} {z : List Int} {Z : List (List Int)} (h0 : OwnsI w lo u z) (h : Rws w lo U Z) (hne : ∀ y ∈ U, u.ownBlock = none ∨ u.ownBlock ≠ y.ownBlock) : Rws w lo (u :: U) (z :: Z) := by
  refine ⟨by simpa using h.len, fun j y zs h1 h2 => ?_, fun i j y y' hij h1 h2 => ?_⟩
  · cases j with
    | zero =>
      have e1 : u = y := by simpa using h1
      have e2 : z = zs := by simpa using h2
      subst e1 e2
      exact h0
    | succ j => exact h.row j y zs (by simpa using h1) (by simpa using h2)
  · cases j with
    | zero => omega
    | succ j =>
      cases i with
      | zero =>
        have e1 : u = y := by simpa using h1
        subst e1
        exact hne y' (List.mem_iff_getElem?.2 ⟨j, by simpa using h2⟩)
      | succ i => exact h.ne i j y y' (by omega) (by simpa using h1) (by simpa using h2)
theorem Rws.snoc {w : World} {lo : Nat} {u : Value} {U : List Value} {z : List Int} {Z : List (List Int)} (h : Rws w lo U Z) (h0 : OwnsI w lo u z) (hne : ∀ y ∈ U, y.ownBlock = none ∨ y.ownBlock ≠ u.ownBlock) : Rws w lo (U ++ [u]) (Z ++ [z]) := by
  have hl := h.len
  have last : ∀ {α : Type} {l : List α} {a b : α} {j : Nat}, (l ++ [a])[j]? = some b → l[j]? = some b ∨ (j = l.length ∧ a = b) := by
    intro α l a b j hj
    by_cases hlt : j < l.length
    · rw [List.getElem?_append_left hlt] at hj; exact .inl hj
    · rw [List.getElem?_append_right (by omega)] at hj
      have hj0 : j - l.length = 0 := by have := (List.getElem?_eq_some_iff.1 hj).1; simp at this; omega
      rw [hj0] at hj
      exact .inr ⟨by omega, by simpa using hj⟩
  refine ⟨by simp [hl], fun j y zs h1 h2 => ?_, fun i j y y' hij h1 h2 => ?_⟩
  · rcases last h1 with h1 | ⟨h1, rfl⟩ <;> rcases last h2 with h2 | ⟨h2, rfl⟩
    · exact h.row j y zs h1 h2
    · have := (List.getElem?_eq_some_iff.1 h1).1; omega
    · have := (List.getElem?_eq_some_iff.1 h2).1; omega
    · exact h0
  · rcases last h1 with h1 | ⟨h1, rfl⟩ <;> rcases last h2 with h2 | ⟨h2, rfl⟩
    · exact h.ne i j y y' hij h1 h2
    · exact hne y (List.mem_iff_getElem?.2 ⟨i, h1⟩)
    · have := (List.getElem?_eq_some_iff.1 h2).1; omega
    · omega
theorem Rws.nil (w : World) (lo : Nat) : Rws w lo [] [] := ⟨rfl, fun j u zs h => by simp at h, fun i j u y _ h => by simp at h⟩
/-- rows of rows that the call owns: the outer row's slice, its values, what they hold -/
structure OwnM (w : World) (lo : Nat) (v : Value) (U : List Value) (Z : List (List Int)) : Prop where
  outer : w.ownsRow lo 45 1 v U.length U
  rows : Rws w lo U Z
theorem OwnM.ne {w : World} {lo : Nat} {v : Value} {U : List Value} {Z : List (List Int)} (h : OwnM w lo v U Z) : ∀ u ∈ U, u.ownBlock = none ∨ u.ownBlock ≠ v.ownBlock := by
  intro u hu
  obtain ⟨j, hj, rfl⟩ := List.mem_iff_getElem.1 hu
  have h1 := h.rows.row j _ _ (List.getElem?_eq_getElem hj) (List.getElem?_eq_getElem (by rw [← h.rows.len]; exact hj))
  exact own_kinds_ne h1 h.outer (by decide)
theorem OwnM.kept {w w' : World} {lo : Nat} {v : Value} {U : List Value} {Z : List (List Int)} (h : OwnM w lo v U Z) (hb : Below w.heap.size w w') : OwnM w' lo v U Z :=
  ⟨own_below h.outer hb (Nat.le_refl _), h.rows.kept hb⟩
theorem OwnM.lower {w : World} {lo B : Nat} {v : Value} {U : List Value} {Z : List (List Int)} (h : OwnM w lo v U Z) (hb : B ≤ lo) : OwnM w B v U Z :=
  ⟨own_lower h.outer hb, h.rows.lower hb⟩
theorem OwnM.lt {w : World} {lo : Nat} {v : Value} {U : List Value} {Z : List (List Int)} (h : OwnM w lo v U Z) : ∀ q, v.ownBlock = some q → lo ≤ q ∧ q < w.heap.size := fun q hq => h.outer.lt q hq
theorem OwnM.only {w w' : World} {lo : Nat} {v : Value} {U V : List Value} {Z : List (List Int)} (h : OwnM w lo v U Z) (ho : OnlyIn V w w') (hV : ∀ u ∈ V, ∀ q, u.ownBlock = some q → q < lo) : OwnM w' lo v U Z := by
  refine ⟨own_only h.outer ho (fun u hu => ?_), h.rows.only ho hV⟩
  cases hq : u.ownBlock with
  | none => exact .inl rfl
  | some q =>
    refine .inr fun e => ?_
    have h1 := hV u hu q hq
    have h2 := (h.outer.lt q e.symm).1
    omega
theorem OwnM.len {w : World} {lo : Nat} {v : Value} {U : List Value} {Z : List (List Int)} (h : OwnM w lo v U Z) : U.length = Z.length := h.rows.len
theorem OwnM.shape {w : World} {lo : Nat} {v : Value} {U : List Value} {Z : List (List Int)} (h : OwnM w lo v U Z) : (v = .slice none 0 0 ∧ U = []) ∨ ∃ g c, v = .slice (some ⟨g, 0, none⟩) U.length c ∧ lo ≤ g ∧ g < w.heap.size := by
  rcases h.outer.2 with ⟨h1, h2⟩ | ⟨g, cap, cur, rfl, hb, hg, _⟩
  · exact .inl ⟨h1, List.eq_nil_of_length_eq_zero h2⟩
  · exact .inr ⟨g, cap, rfl, hb, (Array.getElem?_eq_some_iff.1 hg).1⟩
theorem OwnM.snoc {w w5 : World} {lo : Nat} {y y' u : Value} {U : List Value} {Z : List (List Int)} {z : List Int} {o : Obj} (h : OwnM w lo y U Z) (hu : OwnsI w lo u z)
    (hne : ∀ q ∈ U, q.ownBlock = none ∨ q.ownBlock ≠ u.ownBlock) (hown : w5.ownsRow lo 45 1 y' (U.length + 1) (U ++ [u])) (hg : (w.alloc o).grownBy w5 y.ownBlock) : OwnM w5 lo y' (U ++ [u]) (Z ++ [z]) := by
  refine ⟨by simpa using hown, Rws.snoc ⟨h.rows.len, fun j q zs h1 h2 => own_other (h.rows.row j q zs h1 h2) h.outer (by decide) hg, h.rows.ne⟩ (own_other hu h.outer (by decide) hg) hne⟩
theorem OwnM.fresh {w : World} {lo B : Nat} {y u : Value} {U : List Value} {Z : List (List Int)} {w' : World} {z : List Int} (h : OwnM w lo y U Z) (hB : w.heap.size ≤ B) (hu : OwnsI w' B u z) : ∀ q ∈ U, q.ownBlock = none ∨ q.ownBlock ≠ u.ownBlock := by
  intro q hq
  cases e : q.ownBlock with
  | none => exact .inl rfl
  | some g =>
    refine .inr fun e' => ?_
    have h1 := (h.rows.ge q hq g e).2
    have h2 := (hu.lt g e'.symm).1
    omega
/-- rows of the call's own, so many yet -/
def MSt (w : World) (Z : List (List Int)) (y : Value) (wr : World) : Prop := ∃ U, OwnM wr w.heap.size y U Z ∧ Below w.heap.size w wr
theorem MSt.start (w : World) (o : Obj) (ho : o = .cells #[] 45) : MSt w [] (.slice (some ⟨w.heap.size, 0, none⟩) 0 0) (w.alloc o) := by
  subst ho
  exact ⟨[], ⟨World.ownsRow_lit (base := w.heap.size) (e := 45) (size := 1) w #[] 0 (Nat.le_refl _) (by decide) rfl, Rws.nil _ _⟩, (Below.refl _ w).alloc (Nat.le_refl _) _⟩
theorem MSt.append {w wo w5 w6 : World} {Z : List (List Int)} {y y' u : Value} {z : List Int} {o : Obj} {U : List Value} (h : OwnM wo w.heap.size y U Z ∧ Below w.heap.size w wo) (hb : Below wo.heap.size wo w5) (hu : OwnsI w5 wo.heap.size u z)
    (hown : w6.ownsRow w.heap.size 45 1 y' (U.length + 1) (U ++ [u])) (hg : (w5.alloc o).grownBy w6 y.ownBlock) : MSt w (Z ++ [z]) y' w6 := by
  obtain ⟨h1, h2⟩ := h
  have hs := h2.size
  have hs5 := hb.size
  refine ⟨U ++ [u], (h1.kept hb).snoc (own_lower hu hs) (h1.fresh (Nat.le_refl _) hu) hown hg, ?_⟩
  exact ((h2.trans (hb.mono hs)).alloc (by omega) o).grown hg (by simp; omega) (fun q hq => (h1.outer.lt q hq).1)
theorem one_slice (A : Option Addr) (n c : Nat) : ∀ u ∈ [Value.slice A n c], u.oneCell' = true := by intro u hu; simp at hu; subst hu; rfl
theorem Try.info_ints : (Try.prog.info? 45).map (fun i => (i.zero, i.size, i.bytes)) = some (some (.slice none 0 0), 1, 24) := by kernel_rfl
end Go.Proofs.Ytapemoehcohjgaa
namespace Go.Proofs.Ytapemoehcohjgaa
open Go.RowKit
open Wd
set_option linter.unusedVariables false

/-- a slice of such slices -/
def IsLL (w : World) (v : Value) (xss : List (List Int)) : Prop :=
  ∃ (A : Option Addr) (c : Nat), v = .slice A xss.length c ∧ (xss = [] ∨ ∃ a, A = some a ∧ ∀ j (hj : j < xss.length), ∃ u, w.cell? (a.add j) = some u ∧ IsL w u xss[j])
theorem IsLL.kept {w w' : World} {v : Value} {xss : List (List Int)} (h : IsLL w v xss) (hb : Below w.heap.size w w') : IsLL w' v xss := by
  obtain ⟨A, c, hv, h | ⟨a, hA, hc⟩⟩ := h
  · exact ⟨A, c, hv, .inl h⟩
  · refine ⟨A, c, hv, .inr ⟨a, hA, fun j hj => ?_⟩⟩
    obtain ⟨u, h1, h2⟩ := hc j hj
    exact ⟨u, (hb.cell (lt_of_cell h1)).trans h1, h2.kept hb⟩
/-- an automaton -/
structure Au where
  st : Int
  go : Int
  fin : List Int
  nx : List (List Int)
def IsAu (w : World) (v : Value) (x : Au) : Prop := ∃ f n, v = .agg #[.int .i64 x.st, .int .i64 x.go, f, n] ∧ IsL w f x.fin ∧ IsLL w n x.nx
theorem IsAu.kept {w w' : World} {v : Value} {x : Au} (h : IsAu w v x) (hb : Below w.heap.size w w') : IsAu w' v x := by
  obtain ⟨f, n, hv, h1, h2⟩ := h
  exact ⟨f, n, hv, h1.kept hb, h2.kept hb⟩
/-- short enough for the machine -/
structure MaxA (x : Au) : Prop where
  fin : x.fin.length ≤ maxLen
  nx : x.nx.length ≤ maxLen
  row : ∀ r ∈ x.nx, r.length ≤ maxLen
/-- few -/
structure FewA (x : Au) : Prop where
  fin : x.fin.length ≤ 1048576
  nx : x.nx.length ≤ 1048576
  row : ∀ r ∈ x.nx, r.length ≤ 1048576
namespace Wd
/-- a valid automaton's row -/
def rowOk (n : Int) (r : List Int) : Bool := decide (r.length = 4) && r.all fun x => decide (0 ≤ x ∧ x < n)
def goodAt (lo hi : Int) (l : List Int) (k : Nat) : Prop := (lo ≤ l.getD k 0 ∧ l.getD k 0 ≤ hi) ∧ (0 < k → l.getD (k - 1) 0 < l.getD k 0)
instance (lo hi : Int) (l : List Int) (k : Nat) : Decidable (goodAt lo hi l k) := by unfold goodAt; exact inferInstance
/-- numbers that rise, between bounds -/
def risesL (lo hi : Int) (l : List Int) : Bool := decide (∀ k, k < l.length → goodAt lo hi l k)
/-- a valid automaton -/
def aOk (x : Au) : Bool := decide (1 ≤ x.st ∧ x.st ≤ 24) && decide (0 ≤ x.go ∧ x.go ≤ x.st - 1) && risesL 0 (x.st - 1) x.fin && (x.nx.all (rowOk x.st) && decide ((x.nx.length : Int) = x.st))
end Wd

theorem szI_any (A : Option Addr) (n c : Nat) (left : Int) (w : World) (hn : n ≤ maxLen) (h0 : 0 ≤ left) (h1 : left ≤ 1048576) :
    Calls Try.prog 53 #[.slice A n c, .int .i64 left] w fun e w' => e = .returned (.int .i64 (if left - n < 0 then -1 else left - n)) ∧ w = w' := by
  unfold maxLen at hn
  by_cases h : left - (n : Int) < 0
  all_goals
    go_enter Try.func53, Try.ntmps53
    go_wp2
    go_ret
    refine ⟨ret_int ?_, rfl⟩
    first | (rw [if_pos h]; done) | (rw [if_neg h]; done) | simp
/-- a purse that is not spent, over lists that are short -/
def Paid (left y : Int) (P : Prop) : Prop := (y = -1 ∨ (0 ≤ y ∧ y ≤ left ∧ P))

set_option maxRecDepth 100000 in
set_option maxHeartbeats 1600000 in
theorem szLL_any (v : Value) (xss : List (List Int)) (left : Int) (w : World) (hn : xss.length ≤ maxLen) (hr : ∀ r ∈ xss, r.length ≤ maxLen) (h : IsLL w v xss) (h0 : 0 ≤ left) (h1 : left ≤ 1048576) :
    Calls Try.prog 32 #[v, .int .i64 left] w fun e w' => ∃ y, e = .returned (.int .i64 y) ∧ w = w' ∧ Paid left y (xss.length ≤ 1048576 ∧ ∀ r ∈ xss, r.length ≤ 1048576) := by
  unfold maxLen at hn
  obtain ⟨A, c, rfl, hin⟩ := h
  by_cases hbig : left - (xss.length : Int) < 0
  · clear hin
    go_enter Try.func32, Try.ntmps32
    go_wp2_with fail
    go_ret
    exact ⟨_, rfl, rfl, .inl rfl⟩
  · have HI := Lib.hid hin
    have HR := Lib.hid hr
    clear hin hr
    go_enter Try.func32, Try.ntmps32
    go_wp2_with fail
    go_loopw [1, 5] (fun p i wr => ∃ k : Nat, k ≤ xss.length ∧ i = .int .i64 k ∧ (∃ q : Int, p = .int .i64 q ∧ 0 ≤ q ∧ q ≤ left) ∧ (∀ j (hj : j < xss.length), j < k → xss[j].length ≤ 1048576) ∧ w = wr) (fun _ i _ => xss.length - (intOf i).toNat)
    case atStart => exact ⟨0, Nat.zero_le _, rfl, ⟨_, rfl, by omega, by omega⟩, fun j hj h => by omega, rfl⟩
    case round =>
      obtain ⟨k, hk, rfl, ⟨q, rfl, hq0, hq1⟩, hle, rfl⟩ := hrel
      by_cases hlt : k < xss.length
      · rcases HI.out with hn' | ⟨a, rfl, hc⟩
        · rw [hn'] at hlt; simp at hlt
        obtain ⟨u, c0, hu⟩ := hc k hlt
        obtain ⟨A2, c2, rfl⟩ := hu.shape
        have hm := HR.out xss[k] (List.getElem_mem hlt)
        have HZ := Lib.hid (fun W => szI_any A2 xss[k].length c2 q W hm hq0 (by omega))
        have HLE := Lib.hid (fun (hh : xss[k].length ≤ 1048576) => (fun j (hj : j < xss.length) (h : j < k + 1) => by
          by_cases e : j = k
          · subst e; exact hh
          · exact hle j hj (by omega) : ∀ j (hj : j < xss.length), j < k + 1 → xss[j].length ≤ 1048576))
        generalize xss[k].length = m at *
        clear hu hc hle
        by_cases hneg : q - (m : Int) < 0
        · rw [if_pos hneg] at HZ
          go_wp2_with fail
          refine (HZ.out _).mono ?_
          rintro e w2 ⟨rfl, rfl⟩
          go_wp2_with fail
          go_ret
          exact ⟨_, rfl, rfl, .inl rfl⟩
        · rw [if_neg hneg] at HZ
          go_wp2_with fail
          refine (HZ.out _).mono ?_
          rintro e w2 ⟨rfl, rfl⟩
          go_wp2_with fail
          go_roundw
          case rel => exact ⟨k + 1, by omega, by go_num, ⟨_, rfl, by omega, by omega⟩, HLE.out (by omega), by trivial⟩
          case measure => simp [intOf]; omega
      · obtain rfl : k = xss.length := by omega
        go_wp2_with fail
        go_ret
        exact ⟨_, rfl, rfl, .inr ⟨hq0, hq1, by omega, fun r hr => by obtain ⟨j, hj, e⟩ := List.getElem_of_mem hr; rw [← e]; exact hle j hj hj⟩⟩

set_option maxRecDepth 100000 in
set_option maxHeartbeats 1600000 in
theorem szAuto_any (v : Value) (x : Au) (left : Int) (w : World) (hm : MaxA x) (h : IsAu w v x) (h0 : 0 ≤ left) (h1 : left ≤ 1048576) :
    Calls Try.prog 18 #[v, .int .i64 left] w fun e w' => ∃ y, e = .returned (.int .i64 y) ∧ Below w.heap.size w w' ∧ Paid left y (FewA x) := by
  obtain ⟨f, n, rfl, hf, hn⟩ := h
  obtain ⟨A, c, rfl⟩ := hf.shape
  have hfm := hm.fin
  have HZ := Lib.hid (fun W => szI_any A x.fin.length c left W hfm h0 h1)
  have HN := Lib.hid (hn.kept ((Below.refl _ w).alloc (Nat.le_refl _) (.cells #[.int .i64 x.st, .int .i64 x.go, .slice A x.fin.length c, n] 47)))
  have HM := Lib.hid hm
  have hB := (Below.refl _ w).alloc (Nat.le_refl _) (.cells #[.int .i64 x.st, .int .i64 x.go, .slice A x.fin.length c, n] 47)
  have HB := Lib.hid hB
  clear hf hn hm hB
  by_cases hneg : left - (x.fin.length : Int) < 0
  · rw [if_pos hneg] at HZ
    go_enter Try.func18, Try.ntmps18
    go_wp2_with fail
    refine (HZ.out _).mono ?_
    rintro e w2 ⟨rfl, rfl⟩
    go_wp2_with fail
    go_ret
    exact ⟨_, rfl, HB.out, .inl rfl⟩
  · rw [if_neg hneg] at HZ
    go_enter Try.func18, Try.ntmps18
    go_wp2_with fail
    refine (HZ.out _).mono ?_
    rintro e w2 ⟨rfl, rfl⟩
    go_wp2_with fail
    refine (szLL_any n x.nx _ _ HM.out.nx HM.out.row HN.out (by omega) (by omega)).mono ?_
    rintro e w2 ⟨y, rfl, rfl, hp⟩
    rcases hp with rfl | ⟨hy0, hy1, hl, hr⟩
    · go_wp2_with fail
      go_ret
      exact ⟨_, rfl, HB.out, .inl rfl⟩
    · go_wp2_with fail
      go_ret
      exact ⟨_, rfl, HB.out, .inr ⟨hy0, by omega, by omega, hl, hr⟩⟩
/-- rows of the call's own, at most so many yet -/
def LLK (xss : List (List Int)) (w : World) (B k : Nat) (wr : World) : Prop :=
  ∃ vs : List Value, vs.length = xss.length ∧ wr.ownsRow B 45 1 (.slice (some ⟨B, 0, none⟩) xss.length xss.length) xss.length vs ∧ ∀ j (hj : j < xss.length), j < k → ∃ u, vs[j]? = some u ∧ OwnsI wr (B + 1) u xss[j]
theorem LLK.kept {xss : List (List Int)} {w wr w1 : World} {B k : Nat} (h : LLK xss w B k wr) (hb : Below wr.heap.size wr w1) : LLK xss w B k w1 := by
  obtain ⟨vs, h1, h2, h3⟩ := h
  refine ⟨vs, h1, own_below h2 hb (Nat.le_refl _), fun j hj hk => ?_⟩
  obtain ⟨u, h4, h5⟩ := h3 j hj hk
  exact ⟨u, h4, own_below h5 hb (Nat.le_refl _)⟩
theorem LLK.store {xss : List (List Int)} {w wr : World} {B k : Nat} {u : Value} (h : LLK xss w B k wr) (hk : k < xss.length) (hu : OwnsI wr (B + 1) u xss[k]) : LLK xss w B (k + 1) (wr.setCell ⟨B, k, none⟩ u) := by
  obtain ⟨vs, h1, h2, h3⟩ := h
  refine ⟨vs.set k u, by simpa using h1, (h2.stored k u).1, fun j hj hjk => ?_⟩
  by_cases e : j = k
  · subst e
    exact ⟨u, by rw [List.getElem?_set_self (by omega)], own_setLow hu _ _ (by simp)⟩
  · obtain ⟨y, h4, h5⟩ := h3 j hj (by omega)
    exact ⟨y, by rw [List.getElem?_set_ne (by omega)]; exact h4, own_setLow h5 _ _ (by simp)⟩
theorem LLK.cell {xss : List (List Int)} {w wr : World} {B k : Nat} (h : LLK xss w B k wr) (j : Nat) (hj : j < xss.length) : ∃ u, wr.cell? ⟨B, j, none⟩ = some u ∧ wr.frozen? ⟨B, j, none⟩ = false := by
  obtain ⟨vs, h1, h2, h3⟩ := h
  exact ⟨_, (h2.cellAt j (by omega)).trans (List.getElem?_eq_getElem (by omega)), h2.frozenAt j⟩
/-- a slice of slices, all of them from a block on -/
def OwnLL (w : World) (lo : Nat) (v : Value) (xss : List (List Int)) : Prop :=
  ∃ (A : Option Addr) (c : Nat), v = .slice A xss.length c ∧ (xss = [] ∨ ∃ B, A = some ⟨B, 0, none⟩ ∧ lo ≤ B ∧ ∀ j (hj : j < xss.length), ∃ u, w.cell? ⟨B, j, none⟩ = some u ∧ OwnsI w lo u xss[j])
theorem OwnLL.isLL {w : World} {lo : Nat} {v : Value} {xss : List (List Int)} (h : OwnLL w lo v xss) : IsLL w v xss := by
  obtain ⟨A, c, hv, h | ⟨B, hA, _, hc⟩⟩ := h
  · exact ⟨A, c, hv, .inl h⟩
  · refine ⟨A, c, hv, .inr ⟨_, hA, fun j hj => ?_⟩⟩
    obtain ⟨u, h1, h2⟩ := hc j hj
    exact ⟨u, by rw [add_zero']; exact h1, IsL.of_own h2⟩
theorem OwnLL.far {w : World} {lo : Nat} {v : Value} {xss : List (List Int)} (h : OwnLL w lo v xss) (p : Addr) (u : Value) (hp : p.block < lo) : OwnLL (w.setCell p u) lo v xss := by
  obtain ⟨A, c, hv, h | ⟨B, hA, hB, hc⟩⟩ := h
  · exact ⟨A, c, hv, .inl h⟩
  · refine ⟨A, c, hv, .inr ⟨B, hA, hB, fun j hj => ?_⟩⟩
    obtain ⟨y, h1, h2⟩ := hc j hj
    exact ⟨y, (World.cell?_of_block (a := ⟨B, j, none⟩) (Below.heap_setCell w p u B (by omega))).trans h1, own_setLow h2 _ _ hp⟩
theorem LLK.all {xss : List (List Int)} {w wr : World} {B : Nat} (h : LLK xss w B xss.length wr) : OwnLL wr B (.slice (some ⟨B, 0, none⟩) xss.length xss.length) xss := by
  obtain ⟨vs, h1, h2, h3⟩ := h
  refine ⟨_, _, rfl, .inr ⟨B, rfl, Nat.le_refl _, fun j hj => ?_⟩⟩
  obtain ⟨u, h4, h5⟩ := h3 j hj hj
  exact ⟨u, by rw [h2.cellAt j (by omega)]; exact h4, own_lower h5 (by omega)⟩
theorem made_nil (n : Nat) : (madeCells #[.slice none 0 0] n).toList = List.replicate n (.slice none 0 0) := by
  apply List.ext_getElem
  · simp [madeCells]
  · intro i h1 h2
    simp [madeCells, Nat.mod_one]
set_option maxRecDepth 100000 in
set_option maxHeartbeats 1600000 in
theorem toLL_any (v : Value) (xss : List (List Int)) (w : World) (hn : xss.length ≤ 1048576) (hr : ∀ r ∈ xss, r.length ≤ 1048576) (h : IsLL w v xss) :
    Calls Try.prog 38 #[v] w fun e w' => ∃ y, e = .returned y ∧ OwnLL w' w.heap.size y xss ∧ Below w.heap.size w w' := by
  obtain ⟨i0, hi, hz0, hz1, hz2⟩ := info_parts Try.info_ints
  obtain ⟨A, c, rfl, hin⟩ := h
  have HI := Lib.hid hin
  obtain ⟨n, hn'⟩ : ∃ n, n = xss.length := ⟨_, rfl⟩
  rw [← hn'] at hn ⊢
  have HN := Lib.hid hn'
  have HR := Lib.hid hr
  clear hin hn' hr
  go_enter Try.func38, Try.ntmps38
  go_wp2_with (refine wpList_make_full _ rfl _ _ 22 rfl w.heap.size 45 i0 (.slice none 0 0) 1 Try.underlying22 hi hz0 hz1 .i64 .i64 _ _ n rfl rfl rfl rfl (by rw [hz2]; omega) (by unfold maxLen; omega) (Nat.le_refl _) ?_)
  intro w1 hown hg
  have hB1 := below_of_grown hg
  obtain ⟨B, hBe⟩ : ∃ B, B = w.heap.size := ⟨_, rfl⟩
  rw [← hBe] at hown ⊢
  have HST : Hid (LLK xss w B 0 w1) := Lib.hid ⟨List.replicate n (.slice none 0 0), by simp [HN.out], by
    have h := hown
    rw [made_nil] at h
    rw [← HN.out]; exact h, fun j hj hk => by omega⟩
  have HBE := Lib.hid hBe
  clear hg hBe hown
  go_wp2_with fail
  go_loopw [4] (fun i wr => ∃ k : Nat, k ≤ n ∧ i = .int .i64 k ∧ LLK xss w B k wr ∧ Below w.heap.size w wr) (fun i _ => n - (intOf i).toNat)
  case atStart => exact ⟨0, Nat.zero_le _, rfl, HST.out, hB1⟩
  case round =>
    obtain ⟨k, hk, rfl, hown, hB⟩ := hrel
    obtain ⟨wo, rfl⟩ : ∃ wo : World, wo = wr := ⟨_, rfl⟩
    have HW := Lib.hid hown
    have HB := Lib.hid hB
    by_cases hlt : k < n
    · have hkg : k < xss.length := by rw [← HN.out]; exact hlt
      rcases HI.out with hn | ⟨x, rfl, hc⟩
      · rw [hn] at hkg; simp at hkg
      obtain ⟨u, c0, hu⟩ := hc k hkg
      have d0 := (hB.cell (lt_of_cell c0)).trans c0
      have HT := Lib.hid (toI_any u xss[k] wo (HR.out _ (List.getElem_mem hkg)) (by
        obtain ⟨A', c', hv', h'⟩ := hu
        refine ⟨A', c', hv', h'.imp id ?_⟩
        rintro ⟨a, ha, hcc⟩
        exact ⟨a, ha, fun j hj => (hB.cell (lt_of_cell (hcc j hj))).trans (hcc j hj)⟩))
      have HLT : Hid (B + 1 ≤ wo.heap.size) := Lib.hid (by obtain ⟨vs, h1, h2, _⟩ := hown; exact (h2.lt B rfl).2)
      have HST := Lib.hid (fun (w' : World) (y : Value) (hb : Below wo.heap.size wo w') (hy : OwnsI w' wo.heap.size y xss[k]) => (hown.kept hb).store hkg (own_lower hy HLT.out))
      clear c0 hc hown hB hu
      go_wp2_with fail
      refine HT.out.mono ?_
      rintro e w5 ⟨y, rfl, hy, hB5⟩
      obtain ⟨Ay, cy, rfl⟩ := own_slice hy
      obtain ⟨u0, e0, f0⟩ := (HW.out.kept hB5).cell k hkg
      have HS := Lib.hid (HST.out w5 _ hB5 hy)
      have HB5 := Lib.hid ((HB.out.trans (hB5.mono HB.out.size)).setCell (p := ⟨B, k, none⟩) (by rw [← HBE.out]; exact Nat.le_refl _) (.slice Ay xss[k].length cy))
      clear hy hB5 d0
      go_wp2_with fail
      go_roundw
      case rel => exact ⟨k + 1, by omega, by go_num, HS.out, HB5.out⟩
      case measure => simp [intOf]; omega
    · obtain rfl : k = n := by omega
      clear hown hB
      go_wp2_with fail
      go_ret
      refine ⟨_, rfl, ?_, HB.out⟩
      have := HW.out
      rw [HN.out] at this ⊢
      rw [← HBE.out]
      exact this.all
set_option maxRecDepth 100000 in
set_option maxHeartbeats 1600000 in
theorem toAuto_any (v : Value) (x : Au) (w : World) (hf : FewA x) (h : IsAu w v x) :
    Calls Try.prog 20 #[v] w fun e w' => ∃ y, e = .returned y ∧ IsAu w' y x ∧ Below w.heap.size w w' := by
  obtain ⟨f, n, rfl, hF, hN⟩ := h
  obtain ⟨st, go, fin, nx⟩ := x
  simp only at hF hN
  have hf1 := hf.fin
  have hf2 := hf.nx
  have hf3 := hf.row
  simp only at hf1 hf2 hf3
  obtain ⟨Af, cf, rfl⟩ := hF.shape
  obtain ⟨An, cn, rfl, hNn⟩ := hN
  have hN : IsLL w (.slice An nx.length cn) nx := ⟨An, cn, rfl, hNn⟩
  have HF := Lib.hid hF
  have HNL := Lib.hid hN
  clear hF hN hNn hf
  show Calls Try.prog _ #[.agg #[.int .i64 st, .int .i64 go, .slice Af fin.length cf, .slice An nx.length cn]] _ _
  go_enter Try.func20, Try.ntmps20
  go_upto_region 4 with fail
  obtain ⟨hP, hZ, hR, hB3, hs3⟩ := al3 w (.cells #[.int .i64 st, .int .i64 go, .slice Af fin.length cf, .slice An nx.length cn] 47) (.cells #[.int .i64 0, .int .i64 0, .slice none 0 0, .slice none 0 0] 50) (.cells #[.int .i64 st, .int .i64 go, .slice none 0 0, .slice none 0 0] 50)
  generalize ((w.alloc (.cells #[.int .i64 st, .int .i64 go, .slice Af fin.length cf, .slice An nx.length cn] 47)).alloc (.cells #[.int .i64 0, .int .i64 0, .slice none 0 0, .slice none 0 0] 50)).alloc (.cells #[.int .i64 st, .int .i64 go, .slice none 0 0, .slice none 0 0] 50) = w3 at *
  obtain ⟨⟨_, _, p2, p3⟩, _⟩ := blk4_cells hP
  have HS3 := Lib.hid hs3
  have HP := Lib.hid hP
  have HZ := Lib.hid hZ
  have HR := Lib.hid hR
  have HB3 := Lib.hid hB3
  have HF3 := Lib.hid (HF.out.kept hB3)
  clear hs3 hP hZ hR hB3
  go_wp2_with fail
  refine (toI_any _ fin _ hf1 HF3.out).mono ?_
  rintro e w4 ⟨y1, rfl, hy1, hB4⟩
  have hP := (hB4.block w.heap.size (by rw [HS3.out]; omega)).trans HP.out
  have hZ := (hB4.block (w.heap.size + 1) (by rw [HS3.out]; omega)).trans HZ.out
  have hR := (hB4.block (w.heap.size + 2) (by rw [HS3.out]; omega)).trans HR.out
  have HB4 := Lib.hid (HB3.out.trans (hB4.mono (by rw [HS3.out]; omega)))
  obtain ⟨A1, c1, rfl⟩ := own_slice hy1
  have HS4 : Hid (w.heap.size + 3 ≤ w4.heap.size) := Lib.hid (by have := hB4.size; rw [HS3.out] at this; exact this)
  obtain ⟨⟨_, _, r2, _⟩, _, _, f2, _⟩ := blk4_cells hR
  have HR5 := Lib.hid (blk4_2 (c' := .slice A1 fin.length c1) hR)
  have HP5 := Lib.hid ((Below.heap_setCell w4 ⟨w.heap.size + 2, 2, none⟩ (.slice A1 fin.length c1) w.heap.size (by simp)).trans hP)
  have HZ5 := Lib.hid ((Below.heap_setCell w4 ⟨w.heap.size + 2, 2, none⟩ (.slice A1 fin.length c1) (w.heap.size + 1) (by simp)).trans hZ)
  have HO5 := Lib.hid (own_setLow hy1 ⟨w.heap.size + 2, 2, none⟩ (.slice A1 fin.length c1) (by rw [HS3.out]; simp))
  have HB5 := Lib.hid (HB4.out.setCell (p := ⟨w.heap.size + 2, 2, none⟩) (by simp) (.slice A1 fin.length c1))
  have HS5 : Hid (w.heap.size + 3 ≤ (w4.setCell ⟨w.heap.size + 2, 2, none⟩ (.slice A1 fin.length c1)).heap.size) := Lib.hid (by have := HS4.out; simpa [World.setCell] using this)
  clear hy1 hB4 hP hZ hR p2
  go_upto_region 5 with fail
  generalize w4.setCell ⟨w.heap.size + 2, 2, none⟩ (.slice A1 fin.length c1) = w5 at *
  obtain ⟨⟨_, _, p2, p3⟩, _⟩ := blk4_cells HP5.out
  have HN5 := Lib.hid (HNL.out.kept HB5.out)
  clear r2 f2
  go_wp2_with fail
  refine (toLL_any _ nx _ hf2 hf3 HN5.out).mono ?_
  rintro e w6 ⟨y2, rfl, hy2, hB6⟩
  have hZ := (hB6.block (w.heap.size + 1) (by have := HS5.out; omega)).trans HZ5.out
  have hR := (hB6.block (w.heap.size + 2) (by have := HS5.out; omega)).trans HR5.out
  obtain ⟨A2, c2, rfl, _⟩ := hy2.isLL
  obtain ⟨⟨_, _, _, r3⟩, _, _, _, f3⟩ := blk4_cells hR
  have HR7 := Lib.hid (blk4_3 (d' := .slice A2 nx.length c2) hR)
  have HZ7 := Lib.hid ((Below.heap_setCell w6 ⟨w.heap.size + 2, 3, none⟩ (.slice A2 nx.length c2) (w.heap.size + 1) (by simp)).trans hZ)
  have HO7 := Lib.hid (own_setLow (own_below HO5.out hB6 (Nat.le_refl _)) ⟨w.heap.size + 2, 3, none⟩ (.slice A2 nx.length c2) (by rw [HS3.out]; simp))
  have HL7 := Lib.hid (hy2.far ⟨w.heap.size + 2, 3, none⟩ (.slice A2 nx.length c2) (by have := HS5.out; simp only; omega))
  have HB7 := Lib.hid ((HB5.out.trans (hB6.mono (by have := HS5.out; omega))).setCell (p := ⟨w.heap.size + 2, 3, none⟩) (by simp) (.slice A2 nx.length c2))
  clear hy2 hB6 hZ hR p2 p3
  go_upto_region 6 with fail
  generalize w6.setCell ⟨w.heap.size + 2, 3, none⟩ (.slice A2 nx.length c2) = w7 at *
  obtain ⟨⟨q0, q1, q2, q3⟩, _⟩ := blk4_cells HR7.out
  obtain ⟨⟨z0, z1, z2, z3⟩, g0, g1, g2, g3⟩ := blk4_cells HZ7.out
  have HE := Lib.hid (blk4_cells (blk4_all (a' := .int .i64 st) (b' := .int .i64 go) (c' := .slice A1 fin.length c1) (d' := .slice A2 nx.length c2) HZ7.out)).1
  clear r3 f3
  go_wp2_with fail
  obtain ⟨y0, y1, y2, y3⟩ := HE.out
  refine bodyPost_ret (v := .agg #[.int .i64 st, .int .i64 go, .slice A1 fin.length c1, .slice A2 nx.length c2]) (by simp [results, Try.results20, go_sem, y0, y1, y2, y3]) rfl ⟨_, rfl, ⟨_, _, rfl, ?_, ?_⟩, ?_⟩
  · refine IsL.of_own (own_setLow (own_setLow (own_setLow (own_setLow HO7.out _ _ ?_) _ _ ?_) _ _ ?_) _ _ ?_) <;> (rw [HS3.out]; simp)
  · refine OwnLL.isLL ((((HL7.out.far _ _ ?_).far _ _ ?_).far _ _ ?_).far _ _ ?_) <;> (have := HS5.out; simp only; omega)
  · exact (((HB7.out.setCell (by simp) _).setCell (by simp) _).setCell (by simp) _).setCell (by simp) _
end Go.Proofs.Ytapemoehcohjgaa
namespace Go.Proofs.Ytapemoehcohjgaa
open Go.RowKit
open Wd
set_option linter.unusedVariables false

set_option maxRecDepth 100000 in
set_option maxHeartbeats 800000 in
theorem eqL_any (u v : Value) (zs : List Int) (w : World) (hn : zs.length ≤ 1048576) (h1 : IsL w u zs) (h2 : IsL w v zs) :
    Calls Try.prog 25 #[u, v] w fun e w' => e = .returned (.bool true) ∧ Below w.heap.size w w' := by
  obtain ⟨A1, c1, rfl, h1⟩ := h1
  obtain ⟨A2, c2, rfl, h2⟩ := h2
  obtain ⟨n, hng⟩ : ∃ n, n = zs.length := ⟨_, rfl⟩
  rw [← hng] at hn ⊢
  have HN := Lib.hid hng
  have H1 := Lib.hid h1
  have H2 := Lib.hid h2
  clear h1 h2 hng
  go_enter Try.func25, Try.ntmps25
  go_wp2
  go_loopw [5] (fun i wr => ∃ k : Nat, k ≤ n ∧ i = .int .i64 k ∧ Below w.heap.size w wr) (fun i _ => n - (intOf i).toNat)
  case atStart => exact ⟨0, Nat.zero_le _, rfl, Below.refl _ _⟩
  case round =>
    obtain ⟨k, hk, rfl, hB⟩ := hrel
    by_cases hlt : k < n
    · have hkg : k < zs.length := by rw [← HN.out]; exact hlt
      rcases H1.out with hn | ⟨x, rfl, hc1⟩
      · rw [hn] at hkg; simp at hkg
      rcases H2.out with hn | ⟨y, rfl, hc2⟩
      · rw [hn] at hkg; simp at hkg
      have a0 := (hB.cell (lt_of_cell (hc1 k hkg))).trans (hc1 k hkg)
      have b0 := (hB.cell (lt_of_cell (hc2 k hkg))).trans (hc2 k hkg)
      generalize zs[k] = z at *
      have HB := Lib.hid hB
      clear hc1 hc2 hB hkg
      go_wp2
      go_quiet (fail)
      go_wp2
      go_roundw
      case rel => exact ⟨k + 1, by omega, by go_num, HB.out.trans (((Drawn.refl _).drewN _).below _)⟩
      case measure => simp [intOf]; omega
    · go_wp2
      go_ret
      exact ⟨rfl, hB⟩
set_option maxRecDepth 100000 in
set_option maxHeartbeats 800000 in
theorem eqLL_any (u v : Value) (xss : List (List Int)) (w : World) (hn : xss.length ≤ 1048576) (hr : ∀ r ∈ xss, r.length ≤ 1048576) (h1 : IsLL w u xss) (h2 : IsLL w v xss) :
    Calls Try.prog 43 #[u, v] w fun e w' => e = .returned (.bool true) ∧ Below w.heap.size w w' := by
  have HU := Lib.hid (fun W (hb : Below w.heap.size w W) => h1.kept hb)
  have HV := Lib.hid (fun W (hb : Below w.heap.size w W) => h2.kept hb)
  have HR := Lib.hid hr
  obtain ⟨A1, c1, rfl, h1⟩ := h1
  obtain ⟨A2, c2, rfl, h2⟩ := h2
  obtain ⟨n, hng⟩ : ∃ n, n = xss.length := ⟨_, rfl⟩
  rw [← hng] at hn HU HV ⊢
  have HN := Lib.hid hng
  have H1 := Lib.hid h1
  have H2 := Lib.hid h2
  clear h1 h2 hng hr
  go_enter Try.func43, Try.ntmps43
  go_wp2
  go_loopw [5] (fun i wr => ∃ k : Nat, k ≤ n ∧ i = .int .i64 k ∧ Below w.heap.size w wr) (fun i _ => n - (intOf i).toNat)
  case atStart => exact ⟨0, Nat.zero_le _, rfl, Below.refl _ _⟩
  case round =>
    obtain ⟨k, hk, rfl, hB⟩ := hrel
    obtain ⟨wo, rfl⟩ : ∃ wo : World, wo = wr := ⟨_, rfl⟩
    by_cases hlt : k < n
    · have hkg : k < xss.length := by rw [← HN.out]; exact hlt
      rcases H1.out with hn | ⟨x, rfl, hc1⟩
      · rw [hn] at hkg; simp at hkg
      rcases H2.out with hn | ⟨y, rfl, hc2⟩
      · rw [hn] at hkg; simp at hkg
      obtain ⟨u1, a1, i1⟩ := hc1 k hkg
      obtain ⟨u2, a2, i2⟩ := hc2 k hkg
      have a0 := (hB.cell (lt_of_cell a1)).trans a1
      have b0 := (hB.cell (lt_of_cell a2)).trans a2
      have hm := HR.out _ (List.getElem_mem hkg)
      have HQ := Lib.hid (fun W (hb : Below w.heap.size w W) => eqL_any u1 u2 xss[k] W hm (i1.kept hb) (i2.kept hb))
      have HB := Lib.hid hB
      obtain ⟨A3, c3, rfl⟩ := i1.shape
      obtain ⟨A4, c4, rfl⟩ := i2.shape
      generalize xss[k].length = m at *
      clear hc1 hc2 hB hkg a1 a2 i1 i2
      go_wp2
      go_still_tail 8, (by kernel_rfl)
      change wpList _ _ _ _ _ wo.drew
      have hB2 : Below w.heap.size w wo.drew := HB.out.drew
      generalize wo.drew = w2 at hB2 ⊢
      clear HB a0 b0
      have HB2 := Lib.hid hB2
      clear hB2
      go_wp2_with fail
      refine (HQ.out _ HB2.out).mono ?_; rintro e w' ⟨rfl, hB'⟩
      have hB3 := HB2.out.trans (hB'.mono HB2.out.size)
      clear hB'
      go_wp2
      go_roundw
      case rel => exact ⟨k + 1, by omega, by go_num, hB3⟩
      case measure => simp [intOf]; omega
    · go_wp2
      go_ret
      exact ⟨rfl, hB⟩
set_option maxRecDepth 100000 in
set_option maxHeartbeats 1600000 in
theorem eqAuto_any (u v : Value) (x : Au) (w : World) (hf : FewA x) (h1 : IsAu w u x) (h2 : IsAu w v x) :
    Calls Try.prog 22 #[u, v] w fun e w' => e = .returned (.bool true) ∧ Below w.heap.size w w' := by
  obtain ⟨f1, n1, rfl, hF1, hN1⟩ := h1
  obtain ⟨f2, n2, rfl, hF2, hN2⟩ := h2
  have hB0 : Below w.heap.size w ((w.alloc (.cells #[.int .i64 x.st, .int .i64 x.go, f1, n1] 50)).alloc (.cells #[.int .i64 x.st, .int .i64 x.go, f2, n2] 50)) := ((Below.refl _ w).alloc (Nat.le_refl _) _).alloc (by simp) _
  have b1 := (Below.refl _ (w.alloc (.cells #[.int .i64 x.st, .int .i64 x.go, f1, n1] 50))).alloc (Nat.le_refl _) (.cells #[.int .i64 x.st, .int .i64 x.go, f2, n2] 50)
  have hP := (b1.block w.heap.size (by simp)).trans (heap_alloc_new w _)
  have hQ := heap_alloc_new (w.alloc (.cells #[.int .i64 x.st, .int .i64 x.go, f1, n1] 50)) (.cells #[.int .i64 x.st, .int .i64 x.go, f2, n2] 50)
  rw [show (w.alloc (.cells #[.int .i64 x.st, .int .i64 x.go, f1, n1] 50)).heap.size = w.heap.size + 1 from by simp] at hQ
  have hs : w.heap.size + 2 ≤ ((w.alloc (.cells #[.int .i64 x.st, .int .i64 x.go, f1, n1] 50)).alloc (.cells #[.int .i64 x.st, .int .i64 x.go, f2, n2] 50)).heap.size := by simp
  obtain ⟨A1, c1, rfl⟩ := hF1.shape
  obtain ⟨A2, c2, rfl⟩ := hF2.shape
  obtain ⟨A3, c3, rfl, _⟩ := id hN1
  obtain ⟨A4, c4, rfl, _⟩ := id hN2
  have HF := Lib.hid (fun W (hb : Below w.heap.size w W) => eqL_any _ _ x.fin W hf.fin (hF1.kept hb) (hF2.kept hb))
  have HN := Lib.hid (fun W (hb : Below w.heap.size w W) => eqLL_any _ _ x.nx W hf.nx hf.row (hN1.kept hb) (hN2.kept hb))
  have HP := Lib.hid hP
  have HQ := Lib.hid hQ
  have HB := Lib.hid hB0
  have HS := Lib.hid hs
  obtain ⟨⟨p0, p1, p2, p3⟩, _⟩ := blk4_cells hP
  obtain ⟨⟨q0, q1, q2, q3⟩, _⟩ := blk4_cells hQ
  clear hF1 hF2 hN1 hN2 hP hQ hB0 b1 hs
  go_enter Try.func22, Try.ntmps22
  go_wp2_with fail
  refine (HF.out _ HB.out).mono ?_
  rintro e w1 ⟨rfl, hB1⟩
  have hP := (hB1.block w.heap.size (by have := HS.out; omega)).trans HP.out
  have hQ := (hB1.block (w.heap.size + 1) (by have := HS.out; omega)).trans HQ.out
  obtain ⟨⟨_, _, _, s3⟩, _⟩ := blk4_cells hP
  obtain ⟨⟨_, _, _, t3⟩, _⟩ := blk4_cells hQ
  have HB1 := Lib.hid (HB.out.trans (hB1.mono (by have := HS.out; omega)))
  clear hB1 hP hQ
  go_wp2_with fail
  refine (HN.out _ HB1.out).mono ?_
  rintro e w2 ⟨rfl, hB2⟩
  have HB2 := Lib.hid (HB1.out.trans (hB2.mono HB1.out.size))
  clear hB2
  go_wp2_with fail
  go_ret
  exact ⟨rfl, HB2.out⟩
end Go.Proofs.Ytapemoehcohjgaa
namespace Go.Proofs.Ytapemoehcohjgaa
open Go.ChangeShapes Go.WideShapes Go.Deep Go.Joins Go.RowKit
open Wd
set_option linter.unusedVariables false
section
variable {H : Type} {enc : TypeId × Value → H} {w : World} {base b0 : Nat} {r : Reach} {held : Bool}
theorem isL_of {A : Option Addr} {len cap : Nat} {Z : List Int} (hl : len ≤ cap) (hz : Z.length = cap) (hn : A = none → cap = 0) (h : ∀ a, A = some a → ∀ c, c < cap → w.cell? (a.add c) = some (.int .i64 (Z.getD c 0))) :
    IsL w (.slice A len cap) (Z.take len) := by
  have hlen : (Z.take len).length = len := by rw [List.length_take, hz]; omega
  refine ⟨A, cap, by rw [hlen], ?_⟩
  cases A with
  | none =>
    have := hn rfl
    exact .inl (List.eq_nil_of_length_eq_zero (by rw [hlen]; omega))
  | some a =>
    refine .inr ⟨a, rfl, fun j hj => ?_⟩
    rw [hlen] at hj
    rw [h a rfl j (by omega), List.getElem_take, List.getD_eq_getElem?_getD, List.getElem?_eq_getElem (by omega), Option.getD_some]
set_option maxRecDepth 100000 in
theorem open_auto {v : Value} {d : DataW H} {p : List MemPlace} (hv : Value.okWide Try.prog w r b0 47 v) (h : DataW.Trod enc Try.prog w base (fun _ => true) held 47 v d p) :
    ∃ x : Au, IsAu w v x ∧ MaxA x := by
  obtain ⟨cs, rfl, hsz⟩ := okWide_struct Try.underlying47 hv
  have hC : Try.prog.cellsOf 47 = 4 := by kernel_rfl
  obtain ⟨l⟩ := cs
  match l, hsz.trans hC with
  | [c0, c1, c2, c3], _ =>
    obtain ⟨fuel, hf⟩ := h
    obtain ⟨xs, n, _, hx, _, hlen, hg⟩ := DataW.trod_struct Try.underlying47 hf
    have h0 := hg 0 _ rfl
    have h1 := hg 1 _ rfl
    have h2 := hg 2 _ rfl
    have h3 := hg 3 _ rfl
    have hCi : Try.prog.cellsOf 2 = 1 := by kernel_rfl
    have hCs : Try.prog.cellsOf 45 = 1 := by kernel_rfl
    have hCm : Try.prog.cellsOf 22 = 1 := by kernel_rfl
    match xs, hlen with
    | [x0, x1, x2, x3], _ =>
      have h0 : DataW.trod enc Try.prog w base (fun _ => true) held n 2 [c0] = some x0 := by simpa [Value.cells, hCi] using h0
      have h1 : DataW.trod enc Try.prog w base (fun _ => true) held n 2 [c1] = some x1 := by simpa [Value.cells, hCi] using h1
      have h2 : DataW.trod enc Try.prog w base (fun _ => true) held n 45 [c2] = some x2 := by simpa [Value.cells, hCs] using h2
      have h3 : DataW.trod enc Try.prog w base (fun _ => true) held n 22 [c3] = some x3 := by simpa [Value.cells, hCm] using h3
      obtain ⟨st, e0, _, _⟩ := DataW.trod_int Try.underlying2 h0
      obtain ⟨go, e1, _, _⟩ := DataW.trod_int Try.underlying2 h1
      injection e0 with e0
      injection e1 with e1
      subst e0 e1
      have hfin : ∃ zs, IsL w c2 zs ∧ zs.length ≤ maxLen := by
        rcases open_ints Try.underlying45 Try.underlying2 hCi h2 with ⟨hcs, _⟩ | ⟨x, l, c, zs, hcs, _, hl, hm, hz, _, hcell, hwz⟩
        · injection hcs with hcs
          subst hcs
          exact ⟨[], ⟨none, 0, rfl, .inl rfl⟩, by simp [maxLen]⟩
        · injection hcs with hcs
          subst hcs
          have hz' : zs.length = c := by simpa using hz
          refine ⟨zs.take l, isL_of hl hz' (fun h => by cases h) (fun a ha j hj => ?_), by rw [List.length_take]; omega⟩
          injection ha with ha
          subst ha
          exact hcell j (by omega)
      have hnx : ∃ xss, IsLL w c3 xss ∧ xss.length ≤ maxLen ∧ ∀ q ∈ xss, q.length ≤ maxLen := by
        rcases open_int_rows Try.underlying22 Try.underlying45 Try.underlying2 hCs hCi h3 with ⟨hcs, _⟩ | ⟨a, len, cap, A, L, C, Z, hcs, _, hl, hm, _, hrow⟩
        · injection hcs with hcs
          subst hcs
          exact ⟨[], ⟨none, 0, rfl, .inl rfl⟩, by simp [maxLen], by simp⟩
        · injection hcs with hcs
          subst hcs
          refine ⟨(List.range len).map fun q => (Z q).take (L q), ⟨some a, cap, by simp, .inr ⟨a, rfl, fun j hj => ?_⟩⟩, by simp; omega, ?_⟩
          · have hj' : j < len := by simpa using hj
            obtain ⟨g1, g2, g3, g4, g5, g6, g7⟩ := hrow j (by omega)
            refine ⟨_, g1, ?_⟩
            simp only [List.getElem_map, List.getElem_range]
            exact isL_of g2 g4 g6 (fun a' ha c hc => (g7 a' ha).2 c hc)
          · intro q hq
            obtain ⟨j, hj, rfl⟩ := List.mem_map.1 hq
            have hj' : j < len := List.mem_range.1 hj
            obtain ⟨g1, g2, g3, g4, _⟩ := hrow j (by omega)
            rw [List.length_take]
            omega
      obtain ⟨zs, hz1, hz2⟩ := hfin
      obtain ⟨xss, hx1, hx2, hx3⟩ := hnx
      exact ⟨⟨st, go, zs, xss⟩, ⟨c2, c3, rfl, hz1, hx1⟩, ⟨hz2, hx2, hx3⟩⟩
end
end Go.Proofs.Ytapemoehcohjgaa
namespace Go.Proofs.Ytapemoehcohjgaa
open Go.RowKit
open Wd
set_option linter.unusedVariables false
/-- a slice that reads as these texts -/
def IsSL (w : World) (v : Value) (zs : List ByteArray) : Prop :=
  ∃ (A : Option Addr) (c : Nat), v = .slice A zs.length c ∧ (zs = [] ∨ ∃ a, A = some a ∧ ∀ j (hj : j < zs.length), w.cell? (a.add j) = some (.string zs[j]))
theorem IsSL.kept {w w' : World} {v : Value} {zs : List ByteArray} (h : IsSL w v zs) (hb : Below w.heap.size w w') : IsSL w' v zs := by
  obtain ⟨A, c, hv, h | ⟨a, hA, hc⟩⟩ := h
  · exact ⟨A, c, hv, .inl h⟩
  · exact ⟨A, c, hv, .inr ⟨a, hA, fun j hj => (hb.cell (lt_of_cell (hc j hj))).trans (hc j hj)⟩⟩
theorem IsSL.shape {w : World} {v : Value} {zs : List ByteArray} (h : IsSL w v zs) : ∃ A c, v = .slice A zs.length c := by
  obtain ⟨A, c, hv, _⟩ := h
  exact ⟨A, c, hv⟩
theorem IsLL.shape {w : World} {v : Value} {xss : List (List Int)} (h : IsLL w v xss) : ∃ A c, v = .slice A xss.length c := by
  obtain ⟨A, c, hv, _⟩ := h
  exact ⟨A, c, hv⟩
abbrev OwnsSL (w : World) (B : Nat) (v : Value) (zs : List ByteArray) : Prop := w.ownsRow B 9 1 v zs.length (zs.map Value.string)
theorem IsSL.of_own {w : World} {B : Nat} {v : Value} {zs : List ByteArray} (h : OwnsSL w B v zs) : IsSL w v zs := by
  obtain ⟨A, c, rfl⟩ := own_slice h
  refine ⟨A, c, rfl, ?_⟩
  by_cases h0 : zs.length = 0
  · exact .inl (List.eq_nil_of_length_eq_zero h0)
  · obtain ⟨g, rfl, _⟩ := own_addr h (by omega)
    refine .inr ⟨_, rfl, fun j hj => ?_⟩
    rw [add_zero', h.cellAt j (by omega)]
    simp [hj]
/-- a slice of such slices -/
def IsSLL (w : World) (v : Value) (xss : List (List ByteArray)) : Prop :=
  ∃ (A : Option Addr) (c : Nat), v = .slice A xss.length c ∧ (xss = [] ∨ ∃ a, A = some a ∧ ∀ j (hj : j < xss.length), ∃ u, w.cell? (a.add j) = some u ∧ IsSL w u xss[j])
theorem IsSLL.kept {w w' : World} {v : Value} {xss : List (List ByteArray)} (h : IsSLL w v xss) (hb : Below w.heap.size w w') : IsSLL w' v xss := by
  obtain ⟨A, c, hv, h | ⟨a, hA, hc⟩⟩ := h
  · exact ⟨A, c, hv, .inl h⟩
  · refine ⟨A, c, hv, .inr ⟨a, hA, fun j hj => ?_⟩⟩
    obtain ⟨u, h1, h2⟩ := hc j hj
    exact ⟨u, (hb.cell (lt_of_cell h1)).trans h1, h2.kept hb⟩
/-- a coder -/
structure Co where
  st : Int
  go : Int
  nx : List (List Int)
  ou : List (List ByteArray)
def IsCo (w : World) (v : Value) (x : Co) : Prop := ∃ n o, v = .agg #[.int .i64 x.st, .int .i64 x.go, n, o] ∧ IsLL w n x.nx ∧ IsSLL w o x.ou
theorem IsCo.kept {w w' : World} {v : Value} {x : Co} (h : IsCo w v x) (hb : Below w.heap.size w w') : IsCo w' v x := by
  obtain ⟨f, n, hv, h1, h2⟩ := h
  exact ⟨f, n, hv, h1.kept hb, h2.kept hb⟩
/-- short enough for the machine -/
structure MaxC (x : Co) : Prop where
  nx : x.nx.length ≤ maxLen
  row : ∀ r ∈ x.nx, r.length ≤ maxLen
  ou : x.ou.length ≤ maxLen
  orow : ∀ r ∈ x.ou, r.length ≤ maxLen
  txt : ∀ r ∈ x.ou, ∀ s ∈ r, s.size ≤ maxLen
/-- few -/
structure FewC (x : Co) : Prop where
  nx : x.nx.length ≤ 1048576
  row : ∀ r ∈ x.nx, r.length ≤ 1048576
  ou : x.ou.length ≤ 1048576
  orow : ∀ r ∈ x.ou, r.length ≤ 1048576
  txt : ∀ r ∈ x.ou, ∀ s ∈ r, s.size ≤ maxLen
namespace Wd
/-- a word that a coder may write -/
def outOk (s : ByteArray) : Bool := decide (s.size ≤ 6) && okL s.data.toList
/-- a valid coder's row of words -/
def orowOk (r : List ByteArray) : Bool := decide (r.length = 4) && r.all outOk
/-- a valid coder -/
def cOk (x : Co) : Bool := decide (1 ≤ x.st ∧ x.st ≤ 24) && (decide (0 ≤ x.go ∧ x.go ≤ x.st - 1) && ((x.nx.all (rowOk x.st) && decide ((x.nx.length : Int) = x.st)) && (decide ((x.ou.length : Int) = x.st) && x.ou.all orowOk)))
end Wd
end Go.Proofs.Ytapemoehcohjgaa
namespace Go.Proofs.Ytapemoehcohjgaa
open Go.ChangeShapes Go.WideShapes Go.Deep Go.Joins Go.RowKit
open Wd
set_option linter.unusedVariables false
section
variable {H : Type} {enc : TypeId × Value → H} {w : World} {base b0 : Nat} {r : Reach} {held : Bool}
/-- a cell that is a slice of texts -/
theorem isSL_of {n : Nat} {v : Value} {x : DataW H × List MemPlace} (hC : Try.prog.cellsOf 9 = 1) (h : DataW.trod enc Try.prog w base (fun _ => true) held n 88 [v] = some x) :
    ∃ zs, IsSL w v zs ∧ zs.length ≤ maxLen ∧ ∀ s ∈ zs, s.size ≤ maxLen := by
  rcases open_strs Try.underlying88 Try.underlying9 hC h with ⟨hcs, _⟩ | ⟨a, len, cap, m, Sx, hcs, _, hl, hm, hmm, _, hcell⟩
  · injection hcs with hcs
    subst hcs
    exact ⟨[], ⟨none, 0, rfl, .inl rfl⟩, by simp [maxLen], by simp⟩
  · injection hcs with hcs
    subst hcs
    simp only [if_true] at hmm
    subst hmm
    refine ⟨(List.range len).map Sx, ⟨some a, m, by simp, .inr ⟨a, rfl, fun j hj => ?_⟩⟩, by simp; omega, fun s hs => ?_⟩
    · have hj' : j < len := by simpa using hj
      simp only [List.getElem_map, List.getElem_range]
      exact (hcell j (by omega)).1
    · obtain ⟨j, hj, rfl⟩ := List.mem_map.1 hs
      have hj' : j < len := List.mem_range.1 hj
      exact (hcell j (by omega)).2
set_option maxRecDepth 100000 in
theorem open_coder {v : Value} {d : DataW H} {p : List MemPlace} (hv : Value.okWide Try.prog w r b0 25 v) (h : DataW.Trod enc Try.prog w base (fun _ => true) held 25 v d p) :
    ∃ x : Co, IsCo w v x ∧ MaxC x := by
  obtain ⟨cs, rfl, hsz⟩ := okWide_struct Try.underlying25 hv
  have hC : Try.prog.cellsOf 25 = 4 := by kernel_rfl
  obtain ⟨l⟩ := cs
  match l, hsz.trans hC with
  | [c0, c1, c2, c3], _ =>
    obtain ⟨fuel, hf⟩ := h
    obtain ⟨xs, n, _, hx, _, hlen, hg⟩ := DataW.trod_struct Try.underlying25 hf
    have h0 := hg 0 _ rfl
    have h1 := hg 1 _ rfl
    have h2 := hg 2 _ rfl
    have h3 := hg 3 _ rfl
    have hCi : Try.prog.cellsOf 2 = 1 := by kernel_rfl
    have hCt : Try.prog.cellsOf 9 = 1 := by kernel_rfl
    have hCs : Try.prog.cellsOf 45 = 1 := by kernel_rfl
    have hCm : Try.prog.cellsOf 22 = 1 := by kernel_rfl
    have hCst : Try.prog.cellsOf 88 = 1 := by kernel_rfl
    have hCmt : Try.prog.cellsOf 23 = 1 := by kernel_rfl
    match xs, hlen with
    | [x0, x1, x2, x3], _ =>
      have h0 : DataW.trod enc Try.prog w base (fun _ => true) held n 2 [c0] = some x0 := by simpa [Value.cells, hCi] using h0
      have h1 : DataW.trod enc Try.prog w base (fun _ => true) held n 2 [c1] = some x1 := by simpa [Value.cells, hCi] using h1
      have h2 : DataW.trod enc Try.prog w base (fun _ => true) held n 22 [c2] = some x2 := by simpa [Value.cells, hCm] using h2
      have h3 : DataW.trod enc Try.prog w base (fun _ => true) held n 23 [c3] = some x3 := by simpa [Value.cells, hCmt] using h3
      obtain ⟨st, e0, _, _⟩ := DataW.trod_int Try.underlying2 h0
      obtain ⟨go, e1, _, _⟩ := DataW.trod_int Try.underlying2 h1
      injection e0 with e0
      injection e1 with e1
      subst e0 e1
      have hnx : ∃ xss, IsLL w c2 xss ∧ xss.length ≤ maxLen ∧ ∀ q ∈ xss, q.length ≤ maxLen := by
        rcases open_int_rows Try.underlying22 Try.underlying45 Try.underlying2 hCs hCi h2 with ⟨hcs, _⟩ | ⟨a, len, cap, A, L, C, Z, hcs, _, hl, hm, _, hrow⟩
        · injection hcs with hcs
          subst hcs
          exact ⟨[], ⟨none, 0, rfl, .inl rfl⟩, by simp [maxLen], by simp⟩
        · injection hcs with hcs
          subst hcs
          refine ⟨(List.range len).map fun q => (Z q).take (L q), ⟨some a, cap, by simp, .inr ⟨a, rfl, fun j hj => ?_⟩⟩, by simp; omega, ?_⟩
          · have hj' : j < len := by simpa using hj
            obtain ⟨g1, g2, g3, g4, g5, g6, g7⟩ := hrow j (by omega)
            refine ⟨_, g1, ?_⟩
            simp only [List.getElem_map, List.getElem_range]
            exact isL_of g2 g4 g6 (fun a' ha c hc => (g7 a' ha).2 c hc)
          · intro q hq
            obtain ⟨j, hj, rfl⟩ := List.mem_map.1 hq
            have hj' : j < len := List.mem_range.1 hj
            obtain ⟨g1, g2, g3, g4, _⟩ := hrow j (by omega)
            rw [List.length_take]
            omega
      have hou : ∃ xss, IsSLL w c3 xss ∧ xss.length ≤ maxLen ∧ (∀ q ∈ xss, q.length ≤ maxLen) ∧ ∀ q ∈ xss, ∀ s ∈ q, s.size ≤ maxLen := by
        rcases open_slice1 Try.underlying23 hCst h3 with ⟨hcs, _⟩ | ⟨a, len, cap, m, n', V, D, Pl, hcs, _, hl, hm, hmm, _, hrow⟩
        · injection hcs with hcs
          subst hcs
          exact ⟨[], ⟨none, 0, rfl, .inl rfl⟩, by simp [maxLen], by simp, by simp⟩
        · injection hcs with hcs
          subst hcs
          simp only [if_true] at hmm
          subst hmm
          have each : ∀ i, i < len → ∃ zs, w.cell? (a.add i) = some (V i) ∧ IsSL w (V i) zs ∧ zs.length ≤ maxLen ∧ ∀ s ∈ zs, s.size ≤ maxLen := fun i hi => by
            obtain ⟨zs, g⟩ := isSL_of hCt (hrow i (by omega)).2
            exact ⟨zs, (hrow i (by omega)).1, g⟩
          obtain ⟨Z, hZ⟩ := choose_lt each
          refine ⟨(List.range len).map Z, ⟨some a, m, by simp, .inr ⟨a, rfl, fun j hj => ?_⟩⟩, by simp; omega, ?_, ?_⟩
          · have hj' : j < len := by simpa using hj
            obtain ⟨g1, g2, _⟩ := hZ j hj'
            refine ⟨_, g1, ?_⟩
            simp only [List.getElem_map, List.getElem_range]
            exact g2
          · intro q hq
            obtain ⟨j, hj, rfl⟩ := List.mem_map.1 hq
            exact (hZ j (List.mem_range.1 hj)).2.2.1
          · intro q hq
            obtain ⟨j, hj, rfl⟩ := List.mem_map.1 hq
            exact (hZ j (List.mem_range.1 hj)).2.2.2
      obtain ⟨xss, hx1, hx2, hx3⟩ := hnx
      obtain ⟨yss, hy1, hy2, hy3, hy4⟩ := hou
      exact ⟨⟨st, go, xss, yss⟩, ⟨c2, c3, rfl, hx1, hy1⟩, ⟨hx2, hx3, hy2, hy3, hy4⟩⟩
end
end Go.Proofs.Ytapemoehcohjgaa
namespace Go.Proofs.Ytapemoehcohjgaa
open Go.ChangeShapes Go.WideShapes Go.Deep Go.Joins Go.RowKit
open Wd
set_option linter.unusedVariables false

section
variable {H : Type} {enc : TypeId × Value → H} {P : Program} {w : World} {base : Nat} {spare : Nat → Bool} {held : Bool}
theorem open_slice_fields {t e : TypeId} {fs : Array Field} {fuel : Nat} {cs : List Value} {x : DataW H × List MemPlace} (ht : P.underlying t = some (.slice e)) (he : P.underlying e = some (.struct fs))
    (hone : oneCellFields P fs = true) (hC : P.cellsOf e = fs.size) (h : DataW.trod enc P w base spare held fuel t cs = some x) :
    (cs = [.slice none 0 0] ∧ x = (.nil, [])) ∨
    ∃ (a : Addr) (len cap m : Nat) (D : Nat → DataW H) (Pl : Nat → List MemPlace), cs = [.slice (some a) len cap] ∧ base ≤ a.block ∧ len ≤ cap ∧ cap ≤ maxLen ∧ m = (if spare a.block then cap else len) ∧
      x = (.slice ((List.range len).map D) ((List.range (m - len)).map fun j => D (len + j)), MemPlace.row a (m * fs.size) ++ (List.range m).flatMap Pl) ∧
      ∀ i, i < m → ∃ (ys : List (DataW H × List MemPlace)) (n : Nat), D i = .agg (ys.map (·.1)) ∧ Pl i = ys.flatMap (·.2) ∧ ys.length = fs.size ∧
        ∀ (j : Nat) (f : Field), fs[j]? = some f → ∃ (v : Value) (y : DataW H × List MemPlace), w.cell? (a.add (i * fs.size + j)) = some v ∧ ys[j]? = some y ∧ DataW.trod enc P w base spare held n f.type [v] = some y := by
  rcases open_slice ht h with h0 | ⟨a, len, cap, m, n, D, Pl, hcs, hb, hl, hm, hmm, hx, hi⟩
  · exact .inl h0
  · refine .inr ⟨a, len, cap, m, D, Pl, hcs, hb, hl, hm, hmm, by rw [hC] at hx; exact hx, fun i him => ?_⟩
    obtain ⟨cs', hc, ht'⟩ := hi i him
    rw [hC] at hc
    obtain ⟨ys, n', hn', hy, hlen, hyl, hf⟩ := DataW.trod_struct he ht'
    obtain ⟨_, hcl, hat⟩ := World.cells?_some hc
    simp only [Prod.mk.injEq] at hy
    refine ⟨ys, n', hy.1, hy.2, hyl, fun j f hj => ?_⟩
    obtain ⟨ho, hk⟩ := hone_of hone j f hj
    have hjl : j < fs.size := (Array.getElem?_eq_some_iff.1 hj).1
    have hcell := hat j hjl
    have hv : cs'[j]? = some (cs'[j]'(by omega)) := List.getElem?_eq_getElem (by omega)
    have h1 := hf j f hj
    rw [ho, hk] at h1
    have hone' : (cs'.drop j).take 1 = [cs'[j]'(by omega)] := by
      rw [List.drop_eq_getElem_cons (by omega)]
      rfl
    rw [hone'] at h1
    have hys : ys[j]? = some (ys[j]'(by omega)) := List.getElem?_eq_getElem (by omega)
    refine ⟨_, _, ?_, hys, h1.trans hys⟩
    rw [← Go.Deep.add_add, hcell, hv]
end

section
variable {H : Type} {enc : TypeId × Value → H} {w : World} {base b0 : Nat} {r : Reach} {spare : Nat → Bool} {held : Bool}
set_option maxRecDepth 100000 in
theorem open_gram {v : Value} {d : DataW H} {p : List MemPlace} (hv : Value.okWide Try.prog w r b0 28 v) (h : DataW.Trod enc Try.prog w base spare held 28 v d p) :
    ∃ A n0 cap gs, v = .agg #[.slice A n0 cap] ∧ n0 ≤ maxLen ∧ InRules w A n0 gs := by
  obtain ⟨cs, rfl, hsz⟩ := okWide_struct Try.underlying28 hv
  have hC : Try.prog.cellsOf 28 = 1 := by kernel_rfl
  obtain ⟨l⟩ := cs
  match l, hsz.trans hC with
  | [c0], _ =>
    obtain ⟨fuel, hf⟩ := h
    obtain ⟨xs, n, _, hx, _, hlen, hg⟩ := DataW.trod_struct Try.underlying28 hf
    have h0 : DataW.trod enc Try.prog w base spare held n 26 ((((Value.agg ⟨[c0]⟩).cells.toList).drop 0).take (Try.prog.cellsOf 26)) = xs[0]? := hg 0 _ rfl
    have hC2 : Try.prog.cellsOf 26 = 1 := by kernel_rfl
    rw [hC2] at h0
    match xs, hlen with
    | [x0], _ =>
      have h0 : DataW.trod enc Try.prog w base spare held n 26 [c0] = some x0 := by simpa [Value.cells] using h0
      rcases open_slice_fields Try.underlying26 Try.underlying120 (by kernel_rfl) (by kernel_rfl) h0 with ⟨hc, _⟩ | ⟨a, len, cap, m, D, Pl, hc, _, hl, hm, hmm, _, hi⟩
      · injection hc with hc
        subst hc
        exact ⟨none, 0, 0, [], rfl, by unfold maxLen; omega, rfl, .inl rfl⟩
      · injection hc with hc
        subst hc
        have hlm : len ≤ m := by rw [hmm]; split <;> omega
        have hrow : ∀ i, i < len → ∃ x : Rl, (w.cell? (a.add (i * 3)) = some (.string x.L) ∧ w.cell? (a.add (i * 3 + 1)) = some (.int .i64 x.l) ∧ w.cell? (a.add (i * 3 + 2)) = some (.int .i64 x.r)) ∧ x.L.size ≤ maxLen := by
          intro i him
          obtain ⟨ys, n', _, _, hyl, hfs⟩ := hi i (by omega)
          obtain ⟨v0, y0, hc0, _, ht0⟩ := hfs 0 _ rfl
          obtain ⟨v1, y1, hc1, _, ht1⟩ := hfs 1 _ rfl
          obtain ⟨v2, y2, hc2, _, ht2⟩ := hfs 2 _ rfl
          obtain ⟨s, e0, _, hs⟩ := DataW.trod_string Try.underlying9 ht0
          obtain ⟨n1, e1, _, _⟩ := DataW.trod_int Try.underlying2 ht1
          obtain ⟨n2, e2, _, _⟩ := DataW.trod_int Try.underlying2 ht2
          injection e0 with e0
          injection e1 with e1
          injection e2 with e2
          subst e0 e1 e2
          exact ⟨⟨s, n1, n2⟩, ⟨hc0, hc1, hc2⟩, hs⟩
        refine ⟨some a, len, cap, (List.range len).map fun i => if hh : i < len then Classical.choose (hrow i hh) else ⟨⟨#[]⟩, 0, 0⟩, rfl, by omega, by simp, ?_⟩
        refine .inr ⟨a, rfl, fun i hh => ?_⟩
        have hil : i < len := by simpa using hh
        simp only [List.getElem_map, List.getElem_range, hil, dite_true]
        exact Classical.choose_spec (hrow i hil)
end
end Go.Proofs.Ytapemoehcohjgaa
namespace Go.Proofs.Ytapemoehcohjgaa
open Go.RowKit
open Wd
set_option linter.unusedVariables false

theorem inB_any (n lo hi : Int) (w : World) :
    Calls Try.prog 69 #[.int .i64 n, .int .i64 lo, .int .i64 hi] w fun e w' => e = .returned (.bool (decide (lo ≤ n ∧ n ≤ hi))) ∧ w' = w := by
  by_cases h1 : lo ≤ n
  · by_cases h2 : n ≤ hi
    · rw [decide_eq_true ⟨h1, h2⟩]
      go_enter Try.func69, Try.ntmps69
      go_wp2
      go_ret
      exact ⟨rfl, rfl⟩
    · rw [decide_eq_false (fun h => h2 h.2)]
      go_enter Try.func69, Try.ntmps69
      go_wp2
      go_ret
      exact ⟨rfl, rfl⟩
  · rw [decide_eq_false (fun h => h1 h.1)]
    go_enter Try.func69, Try.ntmps69
    go_wp2
    go_ret
    exact ⟨rfl, rfl⟩
set_option maxRecDepth 100000 in
set_option maxHeartbeats 1600000 in
theorem rises_any (v : Value) (zs : List Int) (lo hi : Int) (w : World) (hn : zs.length ≤ 1048576) (h : IsL w v zs) :
    Calls Try.prog 86 #[v, .int .i64 lo, .int .i64 hi] w fun e w' => e = .returned (.bool (risesL lo hi zs)) ∧ Drawn w w' := by
  obtain ⟨A, c, rfl, hin⟩ := h
  have HI := Lib.hid hin
  obtain ⟨n, hn'⟩ : ∃ n, n = zs.length := ⟨_, rfl⟩
  rw [← hn'] at hn ⊢
  have HN := Lib.hid hn'
  clear hin hn'
  have HINA := Lib.hid (fun (x : Int) W => inB_any x lo hi W)
  go_enter Try.func86, Try.ntmps86
  go_wp2_with fail
  go_loopw [7] (fun i wr => ∃ k : Nat, k ≤ n ∧ i = .int .i64 k ∧ (∀ j, j < k → goodAt lo hi zs j) ∧ Drawn w wr) (fun i _ => n - (intOf i).toNat)
  case atStart => exact ⟨0, Nat.zero_le _, rfl, fun j hj => by omega, Drawn.refl _⟩
  case round =>
    obtain ⟨k, hk, rfl, hgood, hD⟩ := hrel
    obtain ⟨wo, rfl⟩ : ∃ wo : World, wo = wr := ⟨_, rfl⟩
    have HG := Lib.hid hgood
    have HD := Lib.hid hD
    clear hgood
    by_cases hlt : k < n
    · have hkg : k < zs.length := by rw [← HN.out]; exact hlt
      rcases HI.out with hn | ⟨x, rfl, hc⟩
      · rw [hn] at hkg; simp at hkg
      have c0 : wo.cell? (x.add k) = some (.int .i64 (zs.getD k 0)) := by
        obtain ⟨m, rfl⟩ := hD
        rw [List.getD_eq_getElem?_getD, List.getElem?_eq_getElem hkg]
        exact hc k hkg
      have c1 : 0 < k → wo.cell? (x.add (k - 1)) = some (.int .i64 (zs.getD (k - 1) 0)) := by
        intro h0
        obtain ⟨m, rfl⟩ := hD
        rw [List.getD_eq_getElem?_getD, List.getElem?_eq_getElem (by omega)]
        exact hc (k - 1) (by omega)
      have HBAD : Hid (¬ goodAt lo hi zs k → risesL lo hi zs = false) := Lib.hid (fun h => decide_eq_false (fun h' => h (h' k hkg)))
      have HNEXT : Hid (goodAt lo hi zs k → ∀ j, j < k + 1 → goodAt lo hi zs j) := Lib.hid (fun h j hj => by
        by_cases e : j = k
        · subst e; exact h
        · exact HG.out j (by omega))
      have hk0 : (0 : Int) ≤ (k : Int) := by omega
      have hk1 : (k : Int) < (n : Int) := by omega
      have c0d : wo.drew.cell? (x.add k) = some (.int .i64 (zs.getD k 0)) := c0
      clear hc hD hkg
      by_cases hb : lo ≤ zs.getD k 0 ∧ zs.getD k 0 ≤ hi
      · have HC := Lib.hid (fun W => HINA.out (zs.getD k 0) W)
        rw [decide_eq_true hb] at HC
        by_cases h0 : 0 < k
        · have d1 := c1 h0
          obtain ⟨m, hm⟩ : ∃ m, k = m + 1 := ⟨k - 1, by omega⟩
          rw [show k - 1 = m from by omega] at d1
          have d1d : wo.drew.cell? (x.add m) = some (.int .i64 (zs.getD m 0)) := d1
          have hm0 : (0 : Int) ≤ (m : Int) := by omega
          have hm1 : (m : Int) < (n : Int) := by omega
          have hsub2 : wrap64 ((k : Int) - 1) = (m : Int) := by unfold wrap64; omega
          have hsub : IntKind.i64.wrap ((k : Int) - 1) = (m : Int) := by rw [IntKind.wrap_i64]; omega
          have hgt : decide ((0 : Int) < (k : Int)) = true := decide_eq_true (by omega)
          have hgt2 : decide (0 < k) = true := decide_eq_true (by omega)
          have HB0 := Lib.hid hb
          have HM := Lib.hid hm
          clear HINA hb h0 hm c1
          generalize hz : zs.getD k 0 = z at *
          generalize hy : zs.getD m 0 = y at *
          have HZ := Lib.hid (And.intro hz hy)
          clear hz hy
          by_cases hle : z ≤ y
          · have hge : decide (z ≤ y) = true := decide_eq_true hle
            have HFIN : Hid (risesL lo hi zs = false) := Lib.hid (HBAD.out (fun h => by
              have hm := HM.out
              have := h.2 (by omega)
              rw [show k - 1 = m from by omega, HZ.out.1, HZ.out.2] at this
              omega))
            clear HBAD HNEXT HG
            go_wp2_with fail
            go_quiet ((go_at_call 69; exact Calls.quiet_of_same (HC.out _)))
            go_wp2_with fail
            go_ret
            exact ⟨by rw [HFIN.out] <;> rfl, HD.out.drewN _⟩
          · have hge : decide (z ≤ y) = false := decide_eq_false hle
            have HOKK := Lib.hid (HNEXT.out ⟨by rw [HZ.out.1]; exact HB0.out, fun _ => by rw [show k - 1 = m from by have := HM.out; omega, HZ.out.1, HZ.out.2]; omega⟩)
            clear HBAD HNEXT HG
            go_wp2_with fail
            go_quiet ((go_at_call 69; exact Calls.quiet_of_same (HC.out _)))
            go_wp2_with fail
            go_roundw
            all_goals first | exact ⟨k + 1, by omega, by go_num, HOKK.out, HD.out.drewN _⟩ | (simp [intOf]; done) | (simp [intOf]; omega) | omega
        · have HOKK := Lib.hid (HNEXT.out ⟨hb, fun h => absurd h h0⟩)
          have hgt : decide ((0 : Int) < (k : Int)) = false := decide_eq_false (by omega)
          have hgt2 : decide (0 < k) = false := decide_eq_false (by omega)
          clear HINA hb h0 c1 HBAD HNEXT HG
          generalize zs.getD k 0 = z at *
          go_wp2_with fail
          go_quiet ((go_at_call 69; exact Calls.quiet_of_same (HC.out _)))
          all_goals go_wp2_with fail
          all_goals go_roundw
          all_goals first | exact ⟨k + 1, by omega, by go_num, HOKK.out, HD.out.drewN _⟩ | (simp [intOf]; done) | (simp [intOf]; omega) | omega
      · have HC := Lib.hid (fun W => HINA.out (zs.getD k 0) W)
        rw [decide_eq_false hb] at HC
        have HFIN := Lib.hid (HBAD.out (fun h => hb h.1))
        generalize zs.getD k 0 = z at *
        clear hb HBAD HNEXT HINA c1
        go_wp2_with fail
        go_quiet ((go_at_call 69; exact Calls.quiet_of_same (HC.out _)))
        all_goals go_wp2_with fail
        all_goals go_ret
        all_goals exact ⟨by rw [HFIN.out] <;> rfl, HD.out.drewN _⟩
    · obtain rfl : k = n := by omega
      have HFIN : Hid (risesL lo hi zs = true) := Lib.hid (decide_eq_true (fun j hj => HG.out j (by rw [HN.out]; exact hj)))
      go_wp2_with fail
      go_ret
      exact ⟨by rw [HFIN.out] <;> rfl, HD.out⟩
set_option maxRecDepth 100000 in
set_option maxHeartbeats 1600000 in
theorem next_any (v : Value) (xss : List (List Int)) (n : Int) (w : World) (hn1 : 1 ≤ n) (hn2 : n ≤ 24) (hl : xss.length ≤ 1048576) (hr : ∀ r ∈ xss, r.length ≤ 1048576) (h : IsLL w v xss) :
    Calls Try.prog 70 #[.int .i64 n, v] w fun e w' => e = .returned (.bool (xss.all (rowOk n) && decide ((xss.length : Int) = n))) ∧ w' = w := by
  obtain ⟨A, c, rfl, hin⟩ := h
  have HI := Lib.hid hin
  obtain ⟨N, hN⟩ : ∃ N, N = xss.length := ⟨_, rfl⟩
  rw [← hN] at hl
  have HN := Lib.hid hN
  have HR := Lib.hid hr
  have HFIN : Hid (∀ k (hk : k < xss.length), rowOk n xss[k] = false → (xss.all (rowOk n) && decide ((xss.length : Int) = n)) = false) := Lib.hid (fun k hk h => by
    have : xss.all (rowOk n) = false := by
      rw [List.all_eq_false]
      exact ⟨xss[k], List.getElem_mem hk, by rw [h]; decide⟩
    rw [this]; rfl)
  clear hin hr
  by_cases hcnt : (N : Int) = n
  all_goals
    have HCNT := Lib.hid hcnt
    rw [← hN]
    clear hN hcnt
    go_enter Try.func70, Try.ntmps70
    go_wp2_with fail
    go_loopw [5] (fun i wr => ∃ k : Nat, k ≤ N ∧ i = .int .i64 k ∧ (∀ j (hj : j < xss.length), j < k → rowOk n xss[j] = true) ∧ wr = w) (fun i _ => N - (intOf i).toNat)
    case atStart => exact ⟨0, Nat.zero_le _, rfl, fun j hj h => by omega, rfl⟩
    case round =>
      obtain ⟨k, hk, rfl, hall, rfl⟩ := hrel
      obtain ⟨wo, rfl⟩ : ∃ wo : World, wo = wr := ⟨_, rfl⟩
      have HALL := Lib.hid hall
      clear hall
      by_cases hlt : k < N
      · have hkg : k < xss.length := by rw [← HN.out]; exact hlt
        rcases HI.out with hn | ⟨x, rfl, hc⟩
        · rw [hn] at hkg; simp at hkg
        obtain ⟨u, c0, A2, c2, rfl, hrow⟩ := hc k hkg
        have hm := HR.out _ (List.getElem_mem hkg)
        have HBAD := Lib.hid (HFIN.out k hkg)
        have HGOOD : Hid (rowOk n xss[k] = true → ∀ j (hj : j < xss.length), j < k + 1 → rowOk n xss[j] = true) := Lib.hid (fun h j hj hjk => by
          by_cases e : j = k
          · subst e; exact h
          · exact HALL.out j hj (by omega))
        generalize xss[k] = r at *
        have HROW := Lib.hid hrow
        obtain ⟨m, hm'⟩ : ∃ m, m = r.length := ⟨_, rfl⟩
        rw [← hm'] at hm c0
        have HM := Lib.hid hm'
        clear hrow hc hm'
        by_cases h4 : m = 4
        · subst h4
          have hw1 : IntKind.i64.wrap (n - 1) = n - 1 := by rw [IntKind.wrap_i64]; omega
          have HM0 := HM.out
          rcases HROW.out with he | ⟨y, rfl, hz⟩
          · rw [he] at HM0; simp at HM0
          have HZ := Lib.hid hz
          have HIN := Lib.hid (fun (z : Int) W => inB_any z 0 (n - 1) W)
          clear HM0 hz HROW
          go_wp2_with fail
          go_loopw [6] (fun i wr => ∃ q : Nat, q ≤ 4 ∧ i = .int .i64 q ∧ (∀ j (hj : j < r.length), j < q → 0 ≤ r[j] ∧ r[j] < n) ∧ wr = wo) (fun i _ => 4 - (intOf i).toNat)
          case atStart => exact ⟨0, Nat.zero_le _, rfl, fun j hj h => by omega, rfl⟩
          case round =>
            obtain ⟨q, hq, rfl, hall, rfl⟩ := hrel
            have HA := Lib.hid hall
            clear hall
            by_cases hq4 : q < 4
            · have hqr : q < r.length := by rw [← HM.out]; exact hq4
              have z0 := HZ.out q hqr
              have hq0 : (0 : Int) ≤ (q : Int) := by omega
              have hq1 : (q : Int) < 4 := by omega
              have HB2 : Hid (¬ (0 ≤ r[q] ∧ r[q] ≤ n - 1) → rowOk n r = false) := Lib.hid (fun h => by
                unfold rowOk
                have : r.all (fun x => decide (0 ≤ x ∧ x < n)) = false := by
                  rw [List.all_eq_false]
                  exact ⟨r[q], List.getElem_mem hqr, by rw [decide_eq_true_iff]; omega⟩
                rw [this, Bool.and_false])
              have HG2 : Hid ((0 ≤ r[q] ∧ r[q] ≤ n - 1) → ∀ j (hj : j < r.length), j < q + 1 → 0 ≤ r[j] ∧ r[j] < n) := Lib.hid (fun h j hj hjq => by
                by_cases e : j = q
                · subst e; omega
                · exact HA.out j hj (by omega))
              have HI2 := Lib.hid (fun W => HIN.out r[q] W)
              generalize r[q] = z at *
              by_cases hb : 0 ≤ z ∧ z ≤ n - 1
              · rw [decide_eq_true hb] at HI2
                have HNX := Lib.hid (HG2.out hb)
                clear hb HB2 HG2 HIN
                go_wp2_with fail
                refine (HI2.out _).mono ?_
                rintro e w5 ⟨rfl, rfl⟩
                go_wp2_with fail
                go_roundw
                all_goals first | exact ⟨q + 1, by omega, by go_num, HNX.out, by first | rfl | trivial⟩ | ((repeat apply Exists.intro); exact ⟨⟨q + 1, by omega, by go_num, HNX.out, by first | rfl | trivial⟩, by first | rfl | trivial⟩) | (simp [intOf]; done) | (simp [intOf]; omega) | omega
              · rw [decide_eq_false hb] at HI2
                have HF := Lib.hid (HBAD.out (HB2.out hb))
                clear hb HB2 HG2 HIN
                go_wp2_with fail
                refine (HI2.out _).mono ?_
                rintro e w5 ⟨rfl, rfl⟩
                go_wp2_with fail
                go_ret
                exact ⟨by rw [HN.out, HF.out] <;> rfl, rfl⟩
            · obtain rfl : q = 4 := by omega
              have HNX := Lib.hid (HGOOD.out (by
                unfold rowOk
                rw [← HM.out]
                have : r.all (fun x => decide (0 ≤ x ∧ x < n)) = true := by
                  rw [List.all_eq_true]
                  intro x hx
                  obtain ⟨j, hj, e⟩ := List.getElem_of_mem hx
                  rw [← e, decide_eq_true_iff]
                  exact HA.out j hj (by rw [HM.out]; exact hj)
                rw [this]; rfl))
              clear HIN
              go_wp2_with fail
              go_roundw
              all_goals first | exact ⟨k + 1, by omega, by go_num, HNX.out, by first | rfl | trivial⟩ | ((repeat apply Exists.intro); exact ⟨⟨k + 1, by omega, by go_num, HNX.out, by first | rfl | trivial⟩, by first | rfl | trivial⟩) | (simp [intOf]; done) | (simp [intOf]; omega) | omega
        · have hne : ¬ (m : Int) = 4 := by omega
          have HF := Lib.hid (HBAD.out (by unfold rowOk; rw [← HM.out, decide_eq_false h4]; rfl))
          clear HBAD HGOOD HALL
          go_wp2_with fail
          go_ret
          exact ⟨by rw [HN.out, HF.out] <;> rfl, rfl⟩
      · obtain rfl : k = N := by omega
        have HT : Hid (xss.all (rowOk n) = true) := Lib.hid (by
          rw [List.all_eq_true]
          intro r hr
          obtain ⟨j, hj, e⟩ := List.getElem_of_mem hr
          rw [← e]
          exact HALL.out j hj (by rw [HN.out]; exact hj))
        have hcnt := HCNT.out
        clear HALL
        go_wp2_with fail
        go_ret
        refine ⟨?_, rfl⟩
        rw [HT.out]
        first
          | (rw [decide_eq_true HCNT.out]; simp [hcnt]; done)
          | (rw [decide_eq_false HCNT.out]; simp [hcnt]; done)
end Go.Proofs.Ytapemoehcohjgaa
namespace Go.Proofs.Ytapemoehcohjgaa
open Go.RowKit
open Wd
set_option linter.unusedVariables false

set_option maxRecDepth 100000 in
set_option maxHeartbeats 3200000 in
theorem l04Ok_any (pb : Nat) (f nv : Value) (x : Au) (w : World) (hP : w.heap[pb]? = some (.cells #[.int .i64 x.st, .int .i64 x.go, f, nv] 50 (0, 0))) (hF : IsL w f x.fin) (hN : IsLL w nv x.nx) (hf : FewA x) :
    Calls Try.prog 54 #[.pointer (some ⟨pb, 0, none⟩)] w fun e w' => e = .returned (.bool (aOk x)) ∧ Drawn w w' := by
  obtain ⟨st, go, fin, nx⟩ := x
  simp only at hP hF hN
  have hf1 := hf.fin
  have hf2 := hf.nx
  have hf3 := hf.row
  simp only at hf1 hf2 hf3
  obtain ⟨⟨p0, p1, p2, p3⟩, _⟩ := blk4_cells hP
  have H1 := Lib.hid (fun W => inB_any st 1 24 W)
  have H2 := Lib.hid (fun W => inB_any go 0 (st - 1) W)
  have H3 := Lib.hid (fun n => rises_any f fin 0 (st - 1) (w.drewN n) hf1 (hF.kept (((Drawn.refl w).drewN n).below _)))
  have H4 := Lib.hid (fun n (h1 : 1 ≤ st) (h2 : st ≤ 24) => next_any nv nx st (w.drewN n) h1 h2 hf2 hf3 (hN.kept (((Drawn.refl w).drewN n).below _)))
  clear hP hF hN hf
  obtain ⟨R, hR⟩ : ∃ R, R = aOk ⟨st, go, fin, nx⟩ := ⟨_, rfl⟩
  have HR := Lib.hid hR
  rw [← hR]
  unfold aOk at hR
  simp only at hR
  by_cases h1 : 1 ≤ st ∧ st ≤ 24
  · rw [decide_eq_true h1, Bool.true_and] at hR
    rw [decide_eq_true h1] at H1
    have hw1 : IntKind.i64.wrap (st - 1) = st - 1 := by rw [IntKind.wrap_i64]; omega
    obtain ⟨h1a, h1b⟩ := h1
    by_cases h2 : 0 ≤ go ∧ go ≤ st - 1
    · rw [decide_eq_true h2, Bool.true_and] at hR
      rw [decide_eq_true h2] at H2
      cases h3 : risesL 0 (st - 1) fin
      · rw [h3, Bool.false_and] at hR
        rw [h3] at H3
        have HF := Lib.hid hR
        clear h1a h1b h2 h3 H4 hR
        go_enter Try.func54, Try.ntmps54
        go_wp2_with fail
        go_quiet ((first
          | (go_at_call_of 69 (Value.int .i64 24); exact Calls.quiet_of_same (H1.out _))
          | (go_at_call_of 69 (Value.int .i64 go); exact Calls.quiet_of_same (H2.out _))
          | (go_at_call 86; exact Calls.quiet_of (H3.out _))))
        go_wp2_with fail
        go_ret
        exact ⟨by rw [HF.out] <;> rfl, (Drawn.refl w).drewN _⟩
      · rw [h3, Bool.true_and] at hR
        rw [h3] at H3
        have H4 := Lib.hid (fun n => H4.out n h1a h1b)
        rw [← hR] at H4
        have HF := Lib.hid hR
        clear h1a h1b h2 h3 hR
        go_enter Try.func54, Try.ntmps54
        go_wp2_with fail
        go_quiet ((first
          | (go_at_call_of 69 (Value.int .i64 24); exact Calls.quiet_of_same (H1.out _))
          | (go_at_call_of 69 (Value.int .i64 go); exact Calls.quiet_of_same (H2.out _))
          | (go_at_call 86; exact Calls.quiet_of (H3.out _))
          | (go_at_call 70; exact Calls.quiet_of_same (H4.out _))))
        go_wp2_with fail
        go_ret
        exact ⟨rfl, (Drawn.refl w).drewN _⟩
    · rw [decide_eq_false h2, Bool.false_and, Bool.false_and] at hR
      rw [decide_eq_false h2] at H2
      have HF := Lib.hid hR
      clear h1a h1b h2 H3 H4 hR
      go_enter Try.func54, Try.ntmps54
      go_wp2_with fail
      go_quiet ((first
        | (go_at_call_of 69 (Value.int .i64 24); exact Calls.quiet_of_same (H1.out _))
        | (go_at_call_of 69 (Value.int .i64 go); exact Calls.quiet_of_same (H2.out _))))
      go_wp2_with fail
      go_ret
      exact ⟨by rw [HF.out] <;> rfl, (Drawn.refl w).drewN _⟩
  · rw [decide_eq_false h1, Bool.false_and, Bool.false_and, Bool.false_and] at hR
    rw [decide_eq_false h1] at H1
    have HF := Lib.hid hR
    clear h1 H2 H3 H4 hR
    go_enter Try.func54, Try.ntmps54
    go_wp2_with fail
    go_quiet ((first
      | (go_at_call_of 69 (Value.int .i64 24); exact Calls.quiet_of_same (H1.out _))))
    go_wp2_with fail
    go_ret
    exact ⟨by rw [HF.out] <;> rfl, (Drawn.refl w).drewN _⟩
theorem aOk_parts {x : Au} (h : aOk x = true) : (1 ≤ x.st ∧ x.st ≤ 24) ∧ x.nx.all (rowOk x.st) = true ∧ (x.nx.length : Int) = x.st := by
  unfold aOk at h
  simp only [Bool.and_eq_true, decide_eq_true_iff] at h
  exact ⟨h.1.1.1, h.2.1, h.2.2⟩
end Go.Proofs.Ytapemoehcohjgaa
namespace Go.Proofs.Ytapemoehcohjgaa
open Go.RowKit
open Wd
set_option linter.unusedVariables false
namespace Wd
/-- the map of a letter, 24 wide -/
def stepsRow (nx : List (List Int)) (l : Nat) : List Int := (List.range 24).map fun s => (nx.getD s []).getD l 0
/-- one map behind the other -/
def thenRow (m f : List Int) : List Int := m.map fun q => f.getD q.toNat 0
def rowM (nx : List (List Int)) (ms : List (List Int)) (x : Rl) : List Int := if x.L.size = 0 then thenRow (ms.getD x.l.toNat []) (ms.getD x.r.toNat []) else stepsRow nx (ltNo x)
/-- the maps of the first rules -/
def mapsK (nx : List (List Int)) (gs : List Rl) : Nat → List (List Int)
  | 0 => []
  | k + 1 => mapsK nx gs k ++ [rowM nx (mapsK nx gs k) (gs.getD k ⟨ByteArray.empty, 0, 0⟩)]
/-- a map between so many states -/
def mapOk (st : Int) (m : List Int) : Prop := m.length = 24 ∧ ∀ q ∈ m, 0 ≤ q ∧ q < st
def thenK (m f : List Int) (k : Nat) : List Int := thenRow (m.take k) f ++ m.drop k
end Wd
theorem thenK_len (m f : List Int) (k : Nat) (h : k ≤ m.length) : (thenK m f k).length = m.length := by simp [thenK, thenRow]; omega
theorem thenK_zero (m f : List Int) : thenK m f 0 = m := by simp [thenK, thenRow]
theorem thenK_all (m f : List Int) : thenK m f m.length = thenRow m f := by simp [thenK]
theorem thenK_set (m f : List Int) (k : Nat) (h : k < m.length) : (thenK m f k).set k (f.getD m[k].toNat 0) = thenK m f (k + 1) := by
  unfold thenK
  have h1 : (thenRow (m.take k) f).length = k := by simp [thenRow]; omega
  rw [List.set_append_right _ _ (by omega), h1, Nat.sub_self, List.drop_eq_getElem_cons h, List.set_cons_zero, List.take_succ_eq_append_getElem h]
  unfold thenRow
  rw [List.map_append, List.append_assoc]
  rfl
theorem stepsRow_len (nx : List (List Int)) (l : Nat) : (stepsRow nx l).length = 24 := by simp [stepsRow]
theorem thenRow_len (m f : List Int) : (thenRow m f).length = m.length := by simp [thenRow]
theorem mapsK_len (nx : List (List Int)) (gs : List Rl) : ∀ k, (mapsK nx gs k).length = k
  | 0 => rfl
  | k + 1 => by rw [mapsK, List.length_append, mapsK_len nx gs k]; rfl
theorem mapsK_getD (nx : List (List Int)) (gs : List Rl) (j : Nat) : ∀ k, j < k → (mapsK nx gs k).getD j [] = (mapsK nx gs (j + 1)).getD j []
  | 0, h => by omega
  | k + 1, h => by
    by_cases e : j = k
    · subst e; rfl
    · have hk : j < k := by omega
      rw [← mapsK_getD nx gs j k hk, mapsK, List.getD_eq_getElem?_getD, List.getElem?_append_left (by rw [mapsK_len]; exact hk), ← List.getD_eq_getElem?_getD]
theorem mapsK_last (nx : List (List Int)) (gs : List Rl) (k : Nat) : (mapsK nx gs (k + 1)).getD k [] = rowM nx (mapsK nx gs k) (gs.getD k ⟨ByteArray.empty, 0, 0⟩) := by
  rw [mapsK, List.getD_eq_getElem?_getD, List.getElem?_append_right (by rw [mapsK_len]; exact Nat.le_refl _), mapsK_len]
  simp
theorem stepsRow_ok {nx : List (List Int)} {st : Int} {l : Nat} (h : nx.all (rowOk st) = true) (hl : (nx.length : Int) = st) (h1 : 1 ≤ st) (hl4 : l < 4) : mapOk st (stepsRow nx l) := by
  refine ⟨stepsRow_len nx l, fun q hq => ?_⟩
  unfold stepsRow at hq
  obtain ⟨s, hs, rfl⟩ := List.mem_map.1 hq
  by_cases hsn : s < nx.length
  · rw [List.getD_eq_getElem?_getD (l := nx), List.getElem?_eq_getElem hsn, Option.getD_some]
    have hrow := List.all_eq_true.1 h _ (List.getElem_mem hsn)
    unfold rowOk at hrow
    rw [Bool.and_eq_true, decide_eq_true_iff] at hrow
    have hll : l < nx[s].length := by omega
    rw [List.getD_eq_getElem?_getD, List.getElem?_eq_getElem hll, Option.getD_some]
    have := List.all_eq_true.1 hrow.2 _ (List.getElem_mem hll)
    simpa using this
  · rw [List.getD_eq_getElem?_getD (l := nx), List.getElem?_eq_none (by omega)]
    simp
    omega
theorem thenRow_ok {st : Int} {m f : List Int} (h24 : st ≤ 24) (hm : mapOk st m) (hf : mapOk st f) : mapOk st (thenRow m f) := by
  refine ⟨by rw [thenRow_len]; exact hm.1, fun q hq => ?_⟩
  unfold thenRow at hq
  obtain ⟨s, hs, rfl⟩ := List.mem_map.1 hq
  have h1 := hm.2 s hs
  have h2 : s.toNat < f.length := by rw [hf.1]; omega
  rw [List.getD_eq_getElem?_getD, List.getElem?_eq_getElem h2, Option.getD_some]
  exact hf.2 _ (List.getElem_mem h2)
theorem mapsK_ok {nx : List (List Int)} {st : Int} {gs : List Rl} (h : nx.all (rowOk st) = true) (hl : (nx.length : Int) = st) (h1 : 1 ≤ st) (h24 : st ≤ 24) (hfit : fits gs = true) : ∀ k, k ≤ gs.length → ∀ j, j < k → mapOk st ((mapsK nx gs k).getD j [])
  | 0, _, j, hj => by omega
  | k + 1, hk, j, hj => by
    have ih := mapsK_ok h hl h1 h24 hfit k (by omega)
    by_cases e : j = k
    · subst e
      rw [mapsK_last]
      have hfj := fits_at hfit j (by omega)
      have hg : gs.getD j ⟨ByteArray.empty, 0, 0⟩ = gs[j]'(by omega) := by rw [List.getD_eq_getElem?_getD, List.getElem?_eq_getElem (by omega)]; rfl
      rw [hg]
      unfold rowM
      by_cases hz : (gs[j]'(by omega)).L.size = 0
      · rw [if_pos hz]
        have hp := (ok_pair hz).1 hfj
        exact thenRow_ok h24 (ih _ (by omega)) (ih _ (by omega))
      · rw [if_neg hz]
        obtain ⟨c, _, hc1, hc2, hc3⟩ := letter_byte hz hfj
        exact stepsRow_ok h hl h1 (by omega)
    · rw [mapsK_getD nx gs j (k + 1) hj, ← mapsK_getD nx gs j k (by omega)]
      exact ih j (by omega)
end Go.Proofs.Ytapemoehcohjgaa
