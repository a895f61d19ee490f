/-
  Rows of maps of states, 24 cells each.
  The place of a letter among all letters.
  Walk: impl.walkOf.
-/
import Derived.Test.YtaffachjopjbgaaMapS
import Derived.Test.YtaffachjopjbgaaGramSpec
import Derived.Test.YtaffachjopjbgaaIdx
import Derived.Test.YtaffachjopjbgaaHand
import Derived.Test.YtaffachjopjbgaaVLen
import Derived.Test.YtaffachjopjbgaaNotM
import Derived.Deep.RegionHeld3
import Derived.Deep.RegionLaw
namespace Go.Proofs.Ytaffachjopjbgaa
open Go.RowKit
open Wd
set_option linter.unusedVariables false
/-- cells of a row of one's own, stored one behind the other -/
theorem own_setCells {B e s g c n : Nat} : ∀ (vs : List Value) (o : Nat) (w : World) (xs : List Value), w.ownsRow B e s (.slice (some ⟨g, 0, none⟩) n c) n xs → o + vs.length ≤ xs.length →
    (w.setCells g o vs).ownsRow B e s (.slice (some ⟨g, 0, none⟩) n c) n (xs.take o ++ vs ++ xs.drop (o + vs.length))
  | [], o, w, xs, h, ho => by
    have : xs.take o ++ [] ++ xs.drop (o + ([] : List Value).length) = xs := by simp
    rw [this]; exact h
  | v :: r, o, w, xs, h, ho => by
    have h1 := (h.stored o v).1
    have ho' : o < xs.length := by simp at ho; omega
    have h2 := own_setCells r (o + 1) _ _ h1 (by simp at ho ⊢; omega)
    have e1 : (xs.set o v).take (o + 1) ++ r ++ (xs.set o v).drop (o + 1 + r.length) = xs.take o ++ v :: r ++ xs.drop (o + (v :: r).length) := by
      rw [List.take_succ_eq_append_getElem (by simpa using ho'), List.take_set_of_le (Nat.le_refl _), List.drop_set_of_lt (by omega)]
      simp [Nat.add_assoc, Nat.add_comm 1]
    rw [e1] at h2
    exact h2
theorem below_setCells {B : Nat} {w : World} : ∀ (vs : List Value) (g o : Nat) (w' : World), B ≤ g → Below B w w' → Below B w (w'.setCells g o vs)
  | [], g, o, w', hg, h => h
  | v :: r, g, o, w', hg, h => below_setCells r g (o + 1) _ hg (h.setCell (p := ⟨g, o, none⟩) hg v)
theorem heap_setCells (b : Nat) : ∀ (vs : List Value) (g o : Nat) (w : World), b ≠ g → (w.setCells g o vs).heap[b]? = w.heap[b]?
  | [], g, o, w, h => rfl
  | v :: r, g, o, w, h => (heap_setCells b r g (o + 1) _ h).trans (Below.heap_setCell w ⟨g, o, none⟩ v b h)
namespace Wd
/-- all rows of maps are 24 wide -/
def wide (ms : List (List Int)) : Prop := ∀ r ∈ ms, r.length = 24
/-- the maps so far, and zeros -/
def flK (ms : List (List Int)) (n : Nat) : List Int := ms.flatten ++ List.replicate ((n - ms.length) * 24) 0
end Wd
theorem flat_len : ∀ (ms : List (List Int)), wide ms → ms.flatten.length = ms.length * 24
  | [], _ => rfl
  | r :: ms, h => by
    rw [List.flatten_cons, List.length_append, h r (by simp), flat_len ms (fun x hx => h x (by simp [hx])), List.length_cons]
    omega
theorem flat_get : ∀ (ms : List (List Int)), wide ms → ∀ j i, j < ms.length → i < 24 → ms.flatten[j * 24 + i]? = some ((ms.getD j []).getD i 0)
  | [], _, j, i, hj, _ => by simp at hj
  | r :: ms, h, j, i, hj, hi => by
    have hr := h r (by simp)
    rw [List.flatten_cons]
    cases j with
    | zero =>
      rw [List.getElem?_append_left (by omega)]
      simp only [Nat.zero_mul, Nat.zero_add, List.getD_cons_zero]
      rw [List.getD_eq_getElem?_getD, List.getElem?_eq_getElem (by omega)]
      rfl
    | succ j =>
      rw [List.getElem?_append_right (by omega), hr, show (j + 1) * 24 + i - 24 = j * 24 + i from by omega, List.getD_cons_succ]
      exact flat_get ms (fun x hx => h x (by simp [hx])) j i (by simpa using hj) hi
theorem flK_len (ms : List (List Int)) (n : Nat) (h : wide ms) (hn : ms.length ≤ n) : (flK ms n).length = n * 24 := by
  unfold flK
  rw [List.length_append, flat_len ms h, List.length_replicate]
  omega
theorem flK_store (ms : List (List Int)) (n : Nat) (r : List Int) (h : wide ms) (hr : r.length = 24) (hn : ms.length < n) : (iv (flK ms n)).take (ms.length * 24) ++ iv r ++ (iv (flK ms n)).drop (ms.length * 24 + (iv r).length) = iv (flK (ms ++ [r]) n) := by
  have hf := flat_len ms h
  unfold flK
  rw [iv_app, List.take_append_of_le_length (by rw [iv_len]; omega), List.take_of_length_le (by rw [iv_len]; omega), List.drop_append, iv_len, iv_len, hf, hr, List.drop_of_length_le (by rw [iv_len]; omega)]
  rw [List.flatten_append, iv_app, iv_app]
  simp only [List.flatten_cons, List.flatten_nil, List.append_nil, List.nil_append, List.length_append, List.length_cons, List.length_nil]
  congr 1
  rw [show ms.length * 24 + 24 - ms.length * 24 = 24 from by omega, show (n - ms.length) * 24 = 24 + (n - (ms.length + 1)) * 24 from by omega]
  simp [iv, List.map_replicate, List.drop_replicate]
/-- maps in a slice, in a block from lo on -/
def IsMs (w : World) (lo : Nat) (v : Value) (ms : List (List Int)) : Prop :=
  ∃ (A : Option Addr) (c : Nat), v = .slice A ms.length c ∧ (ms = [] ∨ ∃ g, A = some ⟨g, 0, none⟩ ∧ (lo ≤ g ∧ g < w.heap.size) ∧ ∀ j i, j < ms.length → i < 24 → w.cell? ⟨g, j * 24 + i, none⟩ = some (.int .i64 ((ms.getD j []).getD i 0)))
theorem IsMs.kept {w w' : World} {lo : Nat} {v : Value} {ms : List (List Int)} (h : IsMs w lo v ms) (hb : Below w.heap.size w w') : IsMs w' lo v ms := by
  obtain ⟨A, c, hv, h | ⟨g, hA, hg, hc⟩⟩ := h
  · exact ⟨A, c, hv, .inl h⟩
  · exact ⟨A, c, hv, .inr ⟨g, hA, ⟨hg.1, Nat.lt_of_lt_of_le hg.2 hb.size⟩, fun j i hj hi => (hb.cell (p := ⟨g, j * 24 + i, none⟩) hg.2).trans (hc j i hj hi)⟩⟩
theorem IsMs.lower {w : World} {lo B : Nat} {v : Value} {ms : List (List Int)} (h : IsMs w lo v ms) (hB : B ≤ lo) : IsMs w B v ms := by
  obtain ⟨A, c, hv, h | ⟨g, hA, hg, hc⟩⟩ := h
  · exact ⟨A, c, hv, .inl h⟩
  · exact ⟨A, c, hv, .inr ⟨g, hA, ⟨by omega, hg.2⟩, hc⟩⟩
theorem IsMs.far {w : World} {lo : Nat} {v : Value} {ms : List (List Int)} (h : IsMs w lo v ms) (p : Addr) (u : Value) (hp : p.block < lo) : IsMs (w.setCell p u) lo v ms := by
  obtain ⟨A, c, hv, h | ⟨g, hA, hg, hc⟩⟩ := h
  · exact ⟨A, c, hv, .inl h⟩
  · exact ⟨A, c, hv, .inr ⟨g, hA, ⟨hg.1, by simpa using hg.2⟩, fun j i hj hi => (World.cell?_of_block (a := ⟨g, j * 24 + i, none⟩) (Below.heap_setCell w p u g (by omega))).trans (hc j i hj hi)⟩⟩
theorem isMs_of_own {w : World} {B e g c n : Nat} {ms : List (List Int)} (h : w.ownsRow B e 24 (.slice (some ⟨g, 0, none⟩) n c) n (iv (flK ms n))) (hw : wide ms) (hn : ms.length = n) : IsMs w B (.slice (some ⟨g, 0, none⟩) n c) ms := by
  refine ⟨_, c, by rw [hn], .inr ⟨g, rfl, h.lt g rfl, fun j i hj hi => ?_⟩⟩
  have hf := flat_get ms hw j i hj hi
  have hl := flat_len ms hw
  have hlt : j * 24 + i < (flK ms n).length := by rw [flK_len ms n hw (by omega)]; omega
  rw [h.cellAt (j * 24 + i) (by rw [flK_len ms n hw (by omega)] at hlt; omega), iv_get _ _ hlt]
  have e : (flK ms n)[j * 24 + i]? = some ((ms.getD j []).getD i 0) := by
    unfold flK
    rw [List.getElem?_append_left (by rw [hl]; omega)]
    exact hf
  rw [List.getElem?_eq_getElem hlt] at e
  injection e with e
  rw [e]
/-- a map of a row of one's own, as a range -/
theorem range_of_own {w : World} {B e g c n : Nat} {ms : List (List Int)} (h : w.ownsRow B e 24 (.slice (some ⟨g, 0, none⟩) n c) n (iv (flK ms n))) (hw : wide ms) (hn : ms.length ≤ n) (j : Nat) (hj : j < ms.length) : w.rangeAt g (j * 24) (iv (ms.getD j [])) := by
  intro i v hv
  have hrow : (ms.getD j []).length = 24 := by rw [List.getD_eq_getElem?_getD, List.getElem?_eq_getElem hj]; exact hw _ (List.getElem_mem hj)
  have hi : i < 24 := by have := (List.getElem?_eq_some_iff.1 hv).1; rw [iv_len, hrow] at this; exact this
  rw [iv_get _ i (by omega)] at hv
  injection hv with hv
  subst hv
  have hf := flat_get ms hw j i hj hi
  have hl := flat_len ms hw
  have hlt : j * 24 + i < (flK ms n).length := by rw [flK_len ms n hw hn]; omega
  rw [h.cellAt (j * 24 + i) (by rw [flK_len ms n hw hn] at hlt; omega), iv_get _ _ hlt]
  have e : (flK ms n)[j * 24 + i]? = some ((ms.getD j []).getD i 0) := by
    unfold flK
    rw [List.getElem?_append_left (by rw [hl]; omega)]
    exact hf
  rw [List.getElem?_eq_getElem hlt] at e
  injection e with e
  rw [e, List.getD_eq_getElem?_getD, List.getElem?_eq_getElem (by omega)]
  rfl
theorem there_of_own {w : World} {B e g c n : Nat} {ms : List (List Int)} (h : w.ownsRow B e 24 (.slice (some ⟨g, 0, none⟩) n c) n (iv (flK ms n))) (hw : wide ms) (hn : ms.length < n) : w.there g (ms.length * 24) 24 := by
  intro i hi
  have hlt : ms.length * 24 + i < (flK ms n).length := by rw [flK_len ms n hw (by omega)]; omega
  refine ⟨?_, h.frozenAt _⟩
  rw [h.cellAt _ (by rw [flK_len ms n hw (by omega)] at hlt; omega), iv_get _ _ hlt]
  rfl
theorem Try.info_map : (Try.prog.info? 197).map (fun i => (i.zero, i.size, i.bytes)) = some (some (.agg (iv (List.replicate 24 0)).toArray), 24, 192) := by kernel_rfl
theorem made_map (n : Nat) : (madeCells (Value.agg (iv (List.replicate 24 0)).toArray).cells (n * 24)).toList = iv (flK [] n) := by
  apply List.ext_getElem
  · simp [madeCells, iv, flK]
  · intro i h1 h2
    have : (i % 24) < 24 := Nat.mod_lt _ (by omega)
    simp only [madeCells, iv, flK, Value.cells]
    simp
    show (List.replicate 24 (Value.int .i64 0))[i % 24]?.getD default = _
    rw [List.getElem?_replicate, if_pos this]
    rfl
theorem tm_ll (v : Value) (w : World) : (Instr.typeAssert (.iface 211 v) 194 211 true).run Try.prog w = .ok (.tuple #[v, .bool true]) w := by kernel_rfl
theorem tm_pl (v : Value) (w : World) : (Instr.typeAssert (.iface 198 v) 194 211 true).run Try.prog w = .ok (.tuple #[.agg #[.string ⟨#[]⟩, .int .i64 0, .int .i64 0], .bool false]) w := by kernel_rfl
theorem tm_pp (v : Value) (w : World) : (Instr.typeAssert (.iface 198 v) 194 198 true).run Try.prog w = .ok (.tuple #[v, .bool true]) w := by kernel_rfl
theorem range_steps {w : World} {T : Nat} {nx : List (List Int)} {t : TypeId} (h : w.heap[T]? = some (.cells (iv (stAll nx)).toArray t (0, 0))) (d : Nat) (hd : d < 4) : w.rangeAt T (d * 24) (iv (stepsRow nx d)) := by
  intro i v hv
  have hi : i < 24 := by have := (List.getElem?_eq_some_iff.1 hv).1; rw [iv_len, stepsRow_len] at this; exact this
  rw [iv_get _ i (by rw [stepsRow_len]; exact hi)] at hv
  injection hv with hv
  subst hv
  rw [cell_of_row _ _ _ _ _ _ h, List.getElem?_toArray, iv_get _ _ (by rw [stAll_len]; omega)]
  simp only [stAll, stepsRow, List.getElem_map, List.getElem_range]
  rw [show (d * 24 + i) % 24 = i from by omega, show (d * 24 + i) / 24 = d from by omega]
theorem mapsK_wide {nx : List (List Int)} {st : Int} {gs : List Rl} (h : nx.all (rowOk st) = true) (hl : (nx.length : Int) = st) (h1 : 1 ≤ st) (h24 : st ≤ 24) (hfit : fits gs = true) (k : Nat) (hk : k ≤ gs.length) : wide (mapsK nx gs k) := by
  intro r hr
  obtain ⟨j, hj, rfl⟩ := List.mem_iff_getElem.1 hr
  have hjk : j < k := by rwa [mapsK_len] at hj
  have := (mapsK_ok h hl h1 h24 hfit k hk j hjk).1
  rwa [List.getD_eq_getElem?_getD, List.getElem?_eq_getElem hj, Option.getD_some] at this
/-- what holds between two rules: w is the world ahead of the maps, which lie in block M -/
def WkRel (nx : List (List Int)) (gs : List Rl) (w : World) (M n : Nat) (i : Value) (wr : World) : Prop :=
  ∃ k : Nat, k ≤ n ∧ i = .int .i64 k ∧ wr.ownsRow M 197 24 (.slice (some ⟨M, 0, none⟩) n n) n (iv (flK (mapsK nx gs k) n)) ∧ Below M w wr
theorem wk_store {w : World} {M n : Nat} {ms : List (List Int)} {row : List Int} (h : w.ownsRow M 197 24 (.slice (some ⟨M, 0, none⟩) n n) n (iv (flK ms n))) (hw : wide ms) (hr : row.length = 24) (hn : ms.length < n) :
    (w.setCells M (ms.length * 24) (iv row)).ownsRow M 197 24 (.slice (some ⟨M, 0, none⟩) n n) n (iv (flK (ms ++ [row]) n)) := by
  have := own_setCells (iv row) (ms.length * 24) w _ h (by rw [iv_len, iv_len, hr, flK_len ms n hw (by omega)]; omega)
  rwa [flK_store ms n row hw hr hn] at this
theorem mapsK_next (nx : List (List Int)) (gs : List Rl) (k : Nat) (h : k < gs.length) : mapsK nx gs (k + 1) = mapsK nx gs k ++ [rowM nx (mapsK nx gs k) gs[k]] := by
  rw [mapsK, List.getD_eq_getElem?_getD, List.getElem?_eq_getElem h]
  rfl
/-- a walk's value over rules that came in; its lengths and maps lie in blocks from lo on -/
def IsW (w : World) (lo : Nat) (wv gv : Value) (gs : List Rl) (nx : List (List Int)) (go : Int) : Prop :=
  ∃ lv mv, wv = .agg #[gv, lv, mv, .int .i64 go] ∧ OwnsI w lo lv (lens gs) ∧ IsMs w lo mv (mapsK nx gs gs.length)
theorem IsW.kept {w w' : World} {lo : Nat} {wv gv : Value} {gs : List Rl} {nx : List (List Int)} {go : Int} (h : IsW w lo wv gv gs nx go) (hb : Below w.heap.size w w') : IsW w' lo wv gv gs nx go := by
  obtain ⟨lv, mv, h0, h2, h3⟩ := h
  exact ⟨lv, mv, h0, own_below h2 hb (Nat.le_refl _), h3.kept hb⟩
theorem IsW.lower {w : World} {lo B : Nat} {wv gv : Value} {gs : List Rl} {nx : List (List Int)} {go : Int} (h : IsW w lo wv gv gs nx go) (hB : B ≤ lo) : IsW w B wv gv gs nx go := by
  obtain ⟨lv, mv, h0, h2, h3⟩ := h
  exact ⟨lv, mv, h0, own_lower h2 hB, h3.lower hB⟩
theorem IsW.far {w : World} {lo : Nat} {wv gv : Value} {gs : List Rl} {nx : List (List Int)} {go : Int} (h : IsW w lo wv gv gs nx go) (p : Addr) (u : Value) (hp : p.block < lo) : IsW (w.setCell p u) lo wv gv gs nx go := by
  obtain ⟨lv, mv, h0, h2, h3⟩ := h
  exact ⟨lv, mv, h0, own_setLow h2 p u hp, h3.far p u hp⟩
theorem IsW.shape {w : World} {lo : Nat} {wv gv : Value} {gs : List Rl} {nx : List (List Int)} {go : Int} (h : IsW w lo wv gv gs nx go) : ∃ A2 c2 A3 c3, wv = .agg #[gv, .slice A2 (lens gs).length c2, .slice A3 gs.length c3, .int .i64 go] := by
  obtain ⟨lv, mv, rfl, h2, h3⟩ := h
  obtain ⟨A2, c2, rfl⟩ := own_slice h2
  obtain ⟨A3, c3, rfl, h3'⟩ := h3
  exact ⟨A2, c2, A3, c3, by rw [mapsK_len]⟩
def zeroW : Value := .agg #[.slice none 0 0, .slice none 0 0, .slice none 0 0, .int .i64 0]
set_option maxRecDepth 100000 in
set_option maxHeartbeats 12800000 in
theorem walkOf_any (go st : Int) (nv : Value) (nx : List (List Int)) (v : Value) (gs : List Rl) (w : World) (h1 : 1 ≤ st) (h24 : st ≤ 24) (hrow : nx.all (rowOk st) = true) (hlen : (nx.length : Int) = st) (hN : IsLL w nv nx) (hf : FewR gs) (hr : Rules w v gs) :
    Calls Try.prog 155 #[.int .i64 go, nv, .agg #[v]] w fun e w' => ∃ wv, e = .returned (.tuple #[wv, .bool (gOk gs)]) ∧ (gOk gs = true → IsW w' w.heap.size wv v gs nx go) ∧ (gOk gs = false → wv = zeroW) ∧ Below w.heap.size w w' := by
  obtain ⟨i0, hi, hz0, hz1, hz2⟩ := info_parts Try.info_map
  have hzv := (zero_of_info (P := Try.prog) zero_steps).1
  have hb : Below w.heap.size w ((w.alloc (.cells #[v] 37)).alloc (.cells #[.slice none 0 0, .slice none 0 0, .slice none 0 0, .int .i64 0] 110)) := ((Below.refl _ w).alloc (Nat.le_refl _) _).alloc (by simp) _
  have hG : ((w.alloc (.cells #[v] 37)).alloc (.cells #[.slice none 0 0, .slice none 0 0, .slice none 0 0, .int .i64 0] 110)).cell? ⟨w.heap.size, 0, none⟩ = some v := by
    have b2 := (Below.refl _ (w.alloc (.cells #[v] 37))).alloc (Nat.le_refl _) (.cells #[.slice none 0 0, .slice none 0 0, .slice none 0 0, .int .i64 0] 110)
    exact (b2.cell (p := ⟨w.heap.size, 0, none⟩) (by simp)).trans (cell_new w v _)
  have hR : B4 ((w.alloc (.cells #[v] 37)).alloc (.cells #[.slice none 0 0, .slice none 0 0, .slice none 0 0, .int .i64 0] 110)) (w.heap.size + 1) (.slice none 0 0) (.slice none 0 0) (.slice none 0 0) (.int .i64 0) 110 := by
    have := B4.new (w.alloc (.cells #[v] 37)) (.slice none 0 0) (.slice none 0 0) (.slice none 0 0) (.int .i64 0) 110
    rwa [show (w.alloc (.cells #[v] 37)).heap.size = w.heap.size + 1 from by simp] at this
  have hl1 := len.vlen_any v gs _ hf (hr.kept hb)
  unfold LensPost at hl1
  have HL := Lib.hid hl1
  have HB := Lib.hid hb
  have HG := Lib.hid hG
  have HR := Lib.hid hR
  have HRU := Lib.hid (fun W (hb : Below w.heap.size w W) => hr.kept hb)
  have HS := Lib.hid (fun W (hb : Below w.heap.size w W) => stepsOf_any nv nx st W hlen h24 hrow (hN.kept hb))
  have HROW := Lib.hid hrow
  have HLEN := Lib.hid hlen
  obtain ⟨An, cn, rfl, _⟩ := hN
  obtain ⟨Av, cv, rfl, _⟩ := hr
  clear hb hR hl1 hrow hlen
  cases hok : gOk gs
  · rw [hok] at HL
    clear hok
    go_enter Try.func155, Try.ntmps155
    go_wp2_with fail
    refine HL.out.mono ?_
    rintro e w3 ⟨x, rfl, _, hB3⟩
    have HB3 := Lib.hid (HB.out.trans (hB3.mono HB.out.size))
    have HR3 := Lib.hid (HR.out.kept hB3)
    obtain ⟨⟨r0, r1, r2, r3⟩, g0, g1, g2, g3⟩ := blk4_cells HR3.out
    have HE := Lib.hid (blk4_cells (blk4_all (a' := .slice none 0 0) (b' := .slice none 0 0) (c' := .slice none 0 0) (d' := .int .i64 0) HR3.out)).1
    clear hB3
    go_wp2_with fail
    obtain ⟨y0, y1, y2, y3⟩ := HE.out
    refine bodyPost_ret (v := .tuple #[zeroW, .bool false]) (by simp [results, Try.results155, go_sem, y0, y1, y2, y3, zeroW]) rfl ⟨_, rfl, fun h => (by cases h), fun _ => rfl, ?_⟩
    exact (((HB3.out.setCell (by simp) _).setCell (by simp) _).setCell (by simp) _).setCell (by simp) _
  · rw [hok] at HL
    have HOK := Lib.hid hok
    have HFIT := Lib.hid (gOk_iff.1 hok).2.1
    have hn400 := gOk_len hok
    clear hok
    go_enter Try.func155, Try.ntmps155
    go_wp2_with fail
    refine HL.out.mono ?_
    rintro e w3 ⟨x, rfl, ho3, hB3⟩
    have ho3 := ho3 trivial
    have HO3 : Hid (OwnsI w3 (w.heap.size + 2) x (lens gs)) := Lib.hid (by have := ho3; simpa using this)
    obtain ⟨Ax, cx, rfl⟩ := own_slice ho3
    have HB3 := Lib.hid (HB.out.trans (hB3.mono HB.out.size))
    have HR3 := Lib.hid (HR.out.kept hB3)
    have HG3 := Lib.hid ((hB3.cell (p := ⟨w.heap.size, 0, none⟩) (lt_of_cell HG.out)).trans HG.out)
    clear hB3 ho3 hG
    go_wp2_with fail
    refine (HS.out _ HB3.out).mono ?_
    rintro e w4 ⟨rfl, hB4⟩
    have HB4 := Lib.hid (HB3.out.trans (hB4.mono HB3.out.size))
    have HR4 := Lib.hid (HR3.out.kept hB4)
    have HO4 := Lib.hid (own_below HO3.out hB4 (Nat.le_refl _))
    have HG4 := Lib.hid ((hB4.cell (p := ⟨w.heap.size, 0, none⟩) (lt_of_cell HG3.out)).trans HG3.out)
    clear hB4
    obtain ⟨T, hT⟩ : ∃ T, T = w4.heap.size := ⟨_, rfl⟩
    have hsm : (Try.prog.info? 239).map (·.size) = some (iv (stAll nx)).toArray.size := by rw [(zero_of_info zero_steps).2]; simp [iv, stAll_len]
    have hz : (iv Z96).toArray.size = (iv (stAll nx)).toArray.size := by simp [iv, stAll_len, Z96]
    have ho1 : (iv (stAll nx)).toArray.all (·.oneCell') = true := all_oneCell_toArray (fun v hv => by obtain ⟨x, _, rfl⟩ := List.mem_map.1 hv; rfl)
    have HSM := Lib.hid (And.intro hsm (And.intro hz ho1))
    have hT4 := heap_alloc_new w4 (.cells (iv Z96).toArray 239)
    have HTC := Lib.hid (setRow_heap _ w4.heap.size _ (iv (stAll nx)).toArray _ _ hT4)
    have hb5 : Below w4.heap.size w4 ((w4.alloc (.cells (iv Z96).toArray 239)).setRow w4.heap.size (iv (stAll nx)).toArray) := bSetRow ((Below.refl _ w4).alloc (Nat.le_refl _) _) (Nat.le_refl _) _
    have HT4 := Lib.hid hT4
    have HB5 := Lib.hid (HB4.out.trans (hb5.mono HB4.out.size))
    have HR5 := Lib.hid (HR4.out.kept hb5)
    have HO5 := Lib.hid (own_below HO4.out hb5 (Nat.le_refl _))
    have HG5 := Lib.hid ((hb5.cell (p := ⟨w.heap.size, 0, none⟩) (lt_of_cell HG4.out)).trans HG4.out)
    have HTL : Hid (w.heap.size + 1 < T) := Lib.hid (by rw [hT]; exact HR4.out.lt)
    clear hsm hz ho1 hT4 hb5
    go_upto_region 5 with (with_reducible refine wpList_store_row rfl 239 _ _ rfl w4.heap.size _ rfl rfl 239 _ HT4.out HSM.out.1 HSM.out.2.1 HSM.out.2.2 ?_)
    rw [← hT] at HTC HB5 HR5 HO5 HG5 ⊢
    clear HT4 HSM
    generalize (w4.alloc (.cells (iv Z96).toArray 239)).setRow T (iv (stAll nx)).toArray = w5 at *
    clear hT hzv
    have hg5 := HG5.out
    have hs5 := HB5.out.size
    obtain ⟨n, hne⟩ : ∃ n, n = gs.length := ⟨_, rfl⟩
    rw [← hne] at hn400 hg5
    rw [← hne]
    have HN := Lib.hid hne
    clear hne
    go_wp2_with (refine wpList_make_full _ rfl _ _ 107 rfl w5.heap.size 197 i0 (.agg (iv (List.replicate 24 0)).toArray) 24 Try.underlying107 hi hz0 hz1 .i64 .i64 _ _ n rfl rfl rfl rfl (by rw [hz2]; omega) (by unfold maxLen; omega) (Nat.le_refl _) ?_)
    intro w6 hown hgr
    have hown : w6.ownsRow w5.heap.size 197 24 (.slice (some ⟨w5.heap.size, 0, none⟩) n n) n (iv (flK [] n)) := by rw [← made_map]; exact hown
    have hB6 := below_of_grown hgr
    obtain ⟨M, hM⟩ : ∃ M, M = w5.heap.size := ⟨_, rfl⟩
    rw [← hM] at hown hB6 ⊢
    have HST : Hid (WkRel nx gs w5 M n (.int .i64 0) w6) := Lib.hid ⟨0, Nat.zero_le _, rfl, hown, hB6⟩
    have HME := Lib.hid hM
    have hTM : T < M := by rw [hM]; exact (Array.getElem?_eq_some_iff.1 HTC.out).1
    have hg6 := (hB6.cell (p := ⟨w.heap.size, 0, none⟩) (by rw [hM]; exact lt_of_cell HG5.out)).trans HG5.out
    rw [← HN.out] at hg6
    clear hown hgr hB6 hM hg5 hs5
    go_wp2_with fail
    clear hg6
    go_loopw [12, 13, 14, 15, 33] (fun _ _ _ _ i wr => WkRel nx gs w5 M n i wr) (fun _ _ _ _ i _ => n - (intOf i).toNat)
    case atStart => exact HST.out
    case round =>
      obtain ⟨k, hk, rfl, hown, hB⟩ := hrel
      obtain ⟨wo, rfl⟩ : ∃ wo : World, wo = wr := ⟨_, rfl⟩
      have hB' : Below w5.heap.size w5 wo := by rw [← HME.out]; exact hB
      have hBw := HB5.out.trans (hB'.mono HB5.out.size)
      by_cases hkn : k < n
      · have hkg : k < gs.length := by rw [← HN.out]; exact hkn
        obtain ⟨Ay, cy, hvy, hcy⟩ := HRU.out wo hBw
        injection hvy with hvA _ hvc
        subst hvA hvc
        rcases hcy with hn0 | ⟨g, rfl, hg, hc⟩
        · rw [hn0] at hkg; simp at hkg
        obtain ⟨a0, a1, a2⟩ := rules_cells hc hkg
        have hfit := fits_at HFIT.out k hkg
        have hml := mapsK_len nx gs k
        have hw := mapsK_wide HROW.out HLEN.out h1 h24 HFIT.out k (by omega)
        have hnx := mapsK_next nx gs k hkg
        have hok := mapsK_ok HROW.out HLEN.out h1 h24 HFIT.out k (by omega)
        have HOW := Lib.hid hown
        have HBo := Lib.hid hB
        have HW := Lib.hid hw
        have HML := Lib.hid hml
        have hMl : M < wo.heap.size := (hown.lt M rfl).2
        have HTo := Lib.hid ((hB'.block T (by rw [← HME.out]; exact hTM)).trans HTC.out)
        generalize hms : mapsK nx gs k = ms at *
        have k0 : (0 : Int) ≤ (k : Int) := by omega
        have k1 : (k : Int) < (n : Int) := by omega
        clear hc hB hB' hBw hms
        by_cases h0 : gs[k].L.size = 0
        · have hp := (ok_pair h0).1 hfit
          have HK := Lib.hid (fun W => kind_pair gs[k] h0 W)
          have HT1 := tm_pl
          have HT2 := tm_pp
          have hrw : rowM nx ms gs[k] = thenRow (ms.getD gs[k].l.toNat []) (ms.getD gs[k].r.toNat []) := by unfold rowM; rw [if_pos h0]
          generalize gs[k] = R at *
          obtain ⟨L, l, r⟩ := R
          simp only at hp hrw a0 a1 a2 HK
          obtain ⟨a, rfl⟩ : ∃ a : Nat, l = a := ⟨l.toNat, by omega⟩
          obtain ⟨b, rfl⟩ : ∃ b : Nat, r = b := ⟨r.toNat, by omega⟩
          rw [Int.toNat_natCast, Int.toNat_natCast] at hrw
          have ha : a < k := by omega
          have hb : b < k := by omega
          have hoa := hok a ha
          have hob := hok b hb
          have HRA := Lib.hid (fun w8 (hb8 : Below wo.heap.size wo w8) => range_of_own (own_below HOW.out hb8 (Nat.le_refl _)) HW.out (by omega) a (by omega))
          have HRB := Lib.hid (fun w8 (hb8 : Below wo.heap.size wo w8) => range_of_own (own_below HOW.out hb8 (Nat.le_refl _)) HW.out (by omega) b (by omega))
          have HTHR := Lib.hid (fun w8 (hb8 : Below wo.heap.size wo w8) => by
            have := there_of_own (own_below HOW.out hb8 (Nat.le_refl _)) HW.out (by rw [HML.out]; exact hkn)
            rw [HML.out] at this
            exact this)
          generalize ms.getD a [] = ma at *
          generalize ms.getD b [] = mb at *
          have hT24 := thenRow_ok h24 hoa hob
          have HTHEN := Lib.hid (fun W => then_any ma mb st h24 hoa hob W)
          have hsa : (Try.prog.info? 197).map (·.size) = some (iv ma).length := by rw [size_map, iv_len, hoa.1]
          have hsb : (Try.prog.info? 197).map (·.size) = some (iv mb).length := by rw [size_map, iv_len, hob.1]
          have hsr : (Try.prog.info? 197).map (·.size) = some (iv (thenRow ma mb)).length := by rw [size_map, iv_len, hT24.1]
          have hlr : (iv (thenRow ma mb)).length = 24 := by rw [iv_len, hT24.1]
          have ho1 : ∀ v ∈ iv (thenRow ma mb), v.oneCell' = true := fun v hv => by obtain ⟨x, _, rfl⟩ := List.mem_map.1 hv; rfl
          have HZR : Hid ((Try.prog.info? 197).map (·.size) = some (iv (thenRow ma mb)).toArray.size) := Lib.hid (by rw [hsr]; simp)
          have HONE : Hid ((iv (thenRow ma mb)).toArray.all (·.oneCell') = true) := Lib.hid (all_oneCell_toArray ho1)
          have HNX : Hid (∀ w8, Below wo.heap.size wo w8 → WkRel nx gs w5 M n (.int .i64 ((k + 1 : Nat) : Int)) (w8.setCells M (k * 24) (iv (thenRow ma mb)))) := Lib.hid (fun w8 hb8 => by
            refine ⟨k + 1, hkn, rfl, ?_, below_setCells _ _ _ _ (Nat.le_refl _) (HBo.out.trans (hb8.mono (by omega)))⟩
            have := wk_store (row := thenRow ma mb) (own_below HOW.out hb8 (Nat.le_refl _)) HW.out hT24.1 (by rw [HML.out]; exact hkn)
            rw [hnx, hrw, ← HML.out]
            exact this)
          have a0' : (0 : Int) ≤ (a : Int) := by omega
          have a1' : (a : Int) < (n : Int) := by omega
          have b0' : (0 : Int) ≤ (b : Int) := by omega
          have b1' : (b : Int) < (n : Int) := by omega
          have hu := und_map
          clear hnx hrw hok hown hfit h0 hml hw hp hoa hob hT24
          go_wp2_with fail
          refine (HK.out _).mono ?_
          rintro e w7 ⟨rfl, hB7⟩
          have hb7 := ((Below.refl _ wo).alloc (Nat.le_refl _) (.cells #[.string L, .int .i64 a, .int .i64 b] 127)).trans (hB7.mono (by simp))
          have hb8 := hb7.alloc hb7.size (.cells #[.string L, .int .i64 a, .int .i64 b] 198)
          have kcs := heap_alloc_new w7 (.cells #[.string L, .int .i64 a, .int .i64 b] 198)
          have kc1 : (w7.alloc (.cells #[.string L, .int .i64 a, .int .i64 b] 198)).cell? ⟨w7.heap.size, 1, none⟩ = some (.int .i64 a) := by rw [cell_of_row _ _ _ _ _ _ kcs]; rfl
          have kc2 : (w7.alloc (.cells #[.string L, .int .i64 a, .int .i64 b] 198)).cell? ⟨w7.heap.size, 2, none⟩ = some (.int .i64 b) := by rw [cell_of_row _ _ _ _ _ _ kcs]; rfl
          have HB8 := Lib.hid hb8
          obtain ⟨Kp, hKp⟩ : ∃ Kp, Kp = w7.heap.size := ⟨_, rfl⟩
          have hM7 : M < w7.heap.size := by have := hb7.size; omega
          have hKl : w7.heap.size < (w7.alloc (.cells #[.string L, .int .i64 a, .int .i64 b] 198)).heap.size := by simp
          clear a0 a1 a2 hB7 hb7 hb8 kcs
          go_upto_region 15 with fail
          have hKM : Kp ≠ M := by have := HB8.out.size; rw [hKp]; omega
          rw [← hKp] at kc1 kc2 hKl ⊢
          generalize w7.alloc (.cells #[.string L, .int .i64 a, .int .i64 b] 198) = w8 at *
          clear hKp
          have hb8d : Below wo.heap.size wo w8.drew := below_drewN HB8.out 1
          have hS0 : (fun w' : World => w'.cell? ⟨Kp, 1, none⟩ = some (.int .i64 (a : Int)) ∧ w'.cell? ⟨Kp, 2, none⟩ = some (.int .i64 (b : Int)) ∧ w'.rangeAt M (a * 24) (iv ma) ∧ w'.rangeAt M (b * 24) (iv mb)) w8.drew := ⟨kc1, kc2, HRA.out w8.drew hb8d, HRB.out w8.drew hb8d⟩
          refine wp_region_held_drew (S := fun w' : World => w'.cell? ⟨Kp, 1, none⟩ = some (.int .i64 (a : Int)) ∧ w'.cell? ⟨Kp, 2, none⟩ = some (.int .i64 (b : Int)) ∧ w'.rangeAt M (a * 24) (iv ma) ∧ w'.rangeAt M (b * 24) (iv mb)) (by kernel_rfl) hS0 (fun hHeld => ?_)
          refine takeH (i := 0) (dst := some 54) (v := ?_) rfl (by kernel_rfl) (by kernel_rfl) (by kernel_rfl) (fun _ _ _ h => h) (Or.inl ⟨by rfl, ?_⟩) (by assumption) ?_
          rotate_left 1
          · (intro w hSw; (try dsimp only at hSw); go_simp; try (with_reducible rfl))
          simp only [Act.put, List.setIfInBounds_toArray, List.set_cons_zero, List.set_cons_succ]
          refine takeH (i := 1) (dst := some 55) (v := ?_) rfl (by kernel_rfl) (by kernel_rfl) (by kernel_rfl) (fun _ _ _ h => h) (Or.inl ⟨by rfl, ?_⟩) (by assumption) ?_
          rotate_left 1
          · (intro w hSw; (try dsimp only at hSw); go_simp; try (with_reducible rfl))
          simp only [Act.put, List.setIfInBounds_toArray, List.set_cons_zero, List.set_cons_succ]
          refine takeH (i := 2) (dst := some 56) (v := ?_) rfl (by kernel_rfl) (by kernel_rfl) (by kernel_rfl) (fun _ _ _ h => h) (Or.inl ⟨by rfl, ?_⟩) (by assumption) ?_
          rotate_left 1
          · (intro w hSw; (try dsimp only at hSw); go_simp; try (with_reducible rfl))
          simp only [Act.put, List.setIfInBounds_toArray, List.set_cons_zero, List.set_cons_succ]
          refine takeH (i := 3) (dst := some 57) (v := ?_) rfl (by kernel_rfl) (by kernel_rfl) (by kernel_rfl) (fun _ _ _ h => h) (Or.inl ⟨by rfl, ?_⟩) (by assumption) ?_
          rotate_left 1
          · (intro w hSw; (try dsimp only at hSw); go_simp; try (with_reducible rfl))
          simp only [Act.put, List.setIfInBounds_toArray, List.set_cons_zero, List.set_cons_succ]
          refine takeH (i := 4) (dst := some 58) (v := ?_) rfl (by kernel_rfl) (by kernel_rfl) (by kernel_rfl) (fun _ _ _ h => h) (Or.inl ⟨by rfl, ?_⟩) (by assumption) ?_
          rotate_left 1
          · (intro w hSw; (try dsimp only at hSw); go_simp; try (with_reducible rfl))
          simp only [Act.put, List.setIfInBounds_toArray, List.set_cons_zero, List.set_cons_succ]
          refine takeH (i := 5) (dst := some 59) (v := ?_) rfl (by kernel_rfl) (by kernel_rfl) (by kernel_rfl) (fun _ _ _ h => h) (Or.inl ⟨by rfl, ?_⟩) (by assumption) ?_
          rotate_left 1
          · (intro w hSw; (try dsimp only at hSw); go_simp; try (with_reducible rfl))
          simp only [Act.put, List.setIfInBounds_toArray, List.set_cons_zero, List.set_cons_succ]
          refine takeH (i := 6) (dst := some 60) (v := .agg (iv ma).toArray) rfl (by kernel_rfl) (by kernel_rfl) (by kernel_rfl) (fun _ _ _ h => h) (yieldsIf_load_mid (by rfl) _ _ rfl M (a * 24) rfl (iv ma) _ (fun w hw => hw.2.2.1) und_map rfl hsa) (by assumption) ?_
          simp only [Act.put, List.setIfInBounds_toArray, List.set_cons_zero, List.set_cons_succ]
          refine takeH (i := 7) (dst := some 61) (v := ?_) rfl (by kernel_rfl) (by kernel_rfl) (by kernel_rfl) (fun _ _ _ h => h) (Or.inl ⟨by rfl, ?_⟩) (by assumption) ?_
          rotate_left 1
          · (intro w hSw; (try dsimp only at hSw); go_simp; try (with_reducible rfl))
          simp only [Act.put, List.setIfInBounds_toArray, List.set_cons_zero, List.set_cons_succ]
          refine takeH (i := 8) (dst := some 62) (v := ?_) rfl (by kernel_rfl) (by kernel_rfl) (by kernel_rfl) (fun _ _ _ h => h) (Or.inl ⟨by rfl, ?_⟩) (by assumption) ?_
          rotate_left 1
          · (intro w hSw; (try dsimp only at hSw); go_simp; try (with_reducible rfl))
          simp only [Act.put, List.setIfInBounds_toArray, List.set_cons_zero, List.set_cons_succ]
          refine takeH (i := 9) (dst := some 63) (v := ?_) rfl (by kernel_rfl) (by kernel_rfl) (by kernel_rfl) (fun _ _ _ h => h) (Or.inl ⟨by rfl, ?_⟩) (by assumption) ?_
          rotate_left 1
          · (intro w hSw; (try dsimp only at hSw); go_simp; try (with_reducible rfl))
          simp only [Act.put, List.setIfInBounds_toArray, List.set_cons_zero, List.set_cons_succ]
          refine takeH (i := 10) (dst := some 64) (v := ?_) rfl (by kernel_rfl) (by kernel_rfl) (by kernel_rfl) (fun _ _ _ h => h) (Or.inl ⟨by rfl, ?_⟩) (by assumption) ?_
          rotate_left 1
          · (intro w hSw; (try dsimp only at hSw); go_simp; try (with_reducible rfl))
          simp only [Act.put, List.setIfInBounds_toArray, List.set_cons_zero, List.set_cons_succ]
          refine takeH (i := 11) (dst := some 65) (v := .agg (iv mb).toArray) rfl (by kernel_rfl) (by kernel_rfl) (by kernel_rfl) (fun _ _ _ h => h) (yieldsIf_load_mid (by rfl) _ _ rfl M (b * 24) rfl (iv mb) _ (fun w hw => hw.2.2.2) und_map rfl hsb) (by assumption) ?_
          simp only [Act.put, List.setIfInBounds_toArray, List.set_cons_zero, List.set_cons_succ]
          refine wpAnyH_ready (rs := [12]) (by kernel_rfl) (by simp) ?_
          refine AllReadyH.cons (o := ⟨some 66, _, _, _, _, none⟩) rfl (fun K hK => ?_) AllReadyH.nil
          go_simp
          go_at_call 202
          refine (HTHEN.out _).mono ?_
          rintro e w9 ⟨rfl, hB9⟩
          have hB9 := below_undrew hB9
          have hb89 := HB8.out.trans (hB9.mono HB8.out.size)
          have HN9 := Lib.hid (HNX.out w9 hb89)
          have TH : w9.there M (k * 24) (iv (thenRow ma mb)).toArray.size := by
            have := HTHR.out w9 hb89
            rw [show (iv (thenRow ma mb)).toArray.size = 24 from by simpa using hlr]
            exact this
          have RA9 := HRA.out w9 hb89
          have RB9 := HRB.out w9 hb89
          have la : (iv ma).length = 24 := by rw [size_map] at hsa; injection hsa with h; exact h.symm
          have lb : (iv mb).length = 24 := by rw [size_map] at hsb; injection hsb with h; exact h.symm
          refine hK.out _ _ ⟨(hB9.cell (p := ⟨Kp, 1, none⟩) hKl).trans kc1, (hB9.cell (p := ⟨Kp, 2, none⟩) hKl).trans kc2, RA9, RB9⟩ (fun hHeld => ?_)
          clear hK K
          try simp only [Act.put, List.setIfInBounds_toArray, List.set_cons_zero, List.set_cons_succ]
          refine takeH (i := 13) (dst := some 67) (v := ?_) rfl (by kernel_rfl) (by kernel_rfl) (by kernel_rfl) (fun _ _ _ h => h) (Or.inl ⟨by rfl, ?_⟩) (by assumption) ?_
          rotate_left 1
          · (intro w hSw; (try dsimp only at hSw); go_simp; try (with_reducible rfl))
          simp only [Act.put, List.setIfInBounds_toArray, List.set_cons_zero, List.set_cons_succ]
          refine wpAnyH_ready (rs := [14]) (by kernel_rfl) (by simp) ?_
          refine AllReadyH.cons (o := ⟨none, _, _, _, _, none⟩) rfl (fun K hK => ?_) AllReadyH.nil
          refine step_store_mid (by rfl) 197 _ _ (by rfl) M (k * 24) (iv (thenRow ma mb)).toArray (by rfl) (by rfl) TH HZR.out HONE.out ?_
          refine hK.out _ _ ⟨(World.cell?_of_block (a := ⟨Kp, 1, none⟩) (heap_setCells Kp _ M _ w9 hKM)).trans ((hB9.cell (p := ⟨Kp, 1, none⟩) hKl).trans kc1), (World.cell?_of_block (a := ⟨Kp, 2, none⟩) (heap_setCells Kp _ M _ w9 hKM)).trans ((hB9.cell (p := ⟨Kp, 2, none⟩) hKl).trans kc2), World.rangeAt_setCells_apart RA9 _ _ _ (by rw [la]; right; left; omega), World.rangeAt_setCells_apart RB9 _ _ _ (by rw [lb]; right; left; omega)⟩ (fun hHeld => ?_)
          clear hK K
          refine wpAnyH_done (by kernel_rfl) ?_ _
          go_wp2_with fail
          go_roundw
          all_goals first | exact HN9.out | ((repeat apply Exists.intro); exact ⟨HN9.out, rfl⟩) | (simp [intOf]; done) | (simp [intOf]; omega) | omega
        · have hst4 : ∀ l, l < 4 → mapOk st (stepsRow nx l) := fun l hl => stepsRow_ok HROW.out HLEN.out h1 hl
          obtain ⟨b, hL, hb1, hb2, hno⟩ := letter_byte h0 hfit
          have HK := Lib.hid (fun W => kind_letter gs[k] h0 W)
          have HT := tm_ll
          obtain ⟨d, hd⟩ : ∃ d : Nat, d = b.toNat - 97 := ⟨_, rfl⟩
          have hd1 : (b.toNat : Int) = (d : Int) + 97 := by omega
          have hd4 : d < 4 := by omega
          have HIX := Lib.hid (fun W => idx_letter b d hd1 hd4 W)
          have hrow : rowM nx ms gs[k] = stepsRow nx d := by unfold rowM; rw [if_neg h0, hno, hd]
          have hS24 := (hst4 d hd4).1
          have HNX : Hid (∀ w8, Below wo.heap.size wo w8 → WkRel nx gs w5 M n (.int .i64 ((k + 1 : Nat) : Int)) (w8.setCells M (k * 24) (iv (stepsRow nx d)))) := Lib.hid (fun w8 hb8 => by
            refine ⟨k + 1, hkn, rfl, ?_, below_setCells _ _ _ _ (Nat.le_refl _) (HBo.out.trans (hb8.mono (by omega)))⟩
            have := wk_store (row := stepsRow nx d) (own_below HOW.out hb8 (Nat.le_refl _)) HW.out hS24 (by rw [HML.out]; exact hkn)
            rw [hnx, hrow, ← HML.out]
            exact this)
          have HLB := Lib.hid hL
          generalize gs[k] = R at *
          clear hnx hrow hok hst4 hown hfit h0 hd hno hL hd1 hb1 hb2 hml hw
          go_wp2_with fail
          refine (HK.out _).mono ?_
          rintro e w7 ⟨rfl, hB7⟩
          have hb7 := ((Below.refl _ wo).alloc (Nat.le_refl _) (.cells #[.string R.L, .int .i64 R.l, .int .i64 R.r] 127)).trans (hB7.mono (by simp))
          have hb8 := hb7.alloc hb7.size (.cells #[.string R.L, .int .i64 R.l, .int .i64 R.r] 211)
          have hM7 : M < w7.heap.size := by have := hb7.size; omega
          have kc : (w7.alloc (.cells #[.string R.L, .int .i64 R.l, .int .i64 R.r] 211)).cell? ⟨w7.heap.size, 0, none⟩ = some (.string ⟨#[b]⟩) := by rw [cell_of_row _ _ _ _ _ _ (heap_alloc_new w7 _), ← HLB.out]; rfl
          have HB8 := Lib.hid hb8
          clear a0 a1 a2 hB7 hb7 hb8
          go_upto_region 12 with fail
          generalize w7.alloc (.cells #[.string R.L, .int .i64 R.l, .int .i64 R.r] 211) = w8 at *
          have hsz : (Try.prog.info? 197).map (·.size) = some (iv (stepsRow nx d)).length := by rw [size_map, iv_len, hS24]
          have HSZ := Lib.hid hsz
          have HRT := Lib.hid (range_steps (nx := nx) ((HB8.out.block T (by omega)).trans HTo.out) d hd4)
          have HTH : Hid (w8.there M (k * 24) (iv (stepsRow nx d)).toArray.size) := Lib.hid (by
            have := there_of_own (own_below HOW.out HB8.out (Nat.le_refl _)) HW.out (by rw [HML.out]; exact hkn)
            rw [HML.out] at this
            rw [show (iv (stepsRow nx d)).toArray.size = 24 from by simp [iv, hS24]]
            exact this)
          have HZA : Hid ((Try.prog.info? 197).map (·.size) = some (iv (stepsRow nx d)).toArray.size) := Lib.hid (by rw [hsz]; simp)
          have HONE : Hid ((iv (stepsRow nx d)).toArray.all (·.oneCell') = true) := Lib.hid (all_oneCell_toArray (fun v hv => by obtain ⟨x, _, rfl⟩ := List.mem_map.1 hv; rfl))
          have HN8 := Lib.hid (HNX.out w8 HB8.out)
          have hd0 : (0 : Int) ≤ (d : Int) := by omega
          have hd5 : (d : Int) < 4 := by omega
          clear hsz hS24 hM7 hMl
          go_wp2_with fail
          refine (HIX.out _).mono ?_
          rintro e w9 ⟨rfl, rfl⟩
          go_wp2_with (first
            | (with_reducible refine wpList_load_mid rfl 197 _ rfl T (d * 24) rfl (iv (stepsRow nx d)) _ HRT.out und_map rfl HSZ.out ?_)
            | (with_reducible refine wpList_store_mid rfl 197 _ _ rfl M (k * 24) (iv (stepsRow nx d)).toArray rfl rfl HTH.out HZA.out HONE.out ?_))
          go_roundw
          all_goals first | exact HN8.out | ((repeat apply Exists.intro); exact ⟨HN8.out, rfl⟩) | (simp [intOf]; done) | (simp [intOf]; omega) | omega
      · obtain rfl : k = n := by omega
        have HR9 := Lib.hid (HR5.out.kept hB')
        have HI9 := Lib.hid (own_below HO5.out hB' (Nat.le_refl _))
        have hg9 := (hB'.cell (p := ⟨w.heap.size, 0, none⟩) (lt_of_cell HG5.out)).trans HG5.out
        rw [← HN.out] at hg9
        have HRR := Lib.hid (HRU.out wo hBw)
        have HMS := Lib.hid (isMs_of_own hown (mapsK_wide HROW.out HLEN.out h1 h24 HFIT.out k (by have := HN.out; omega)) (mapsK_len nx gs k))
        have HBW := Lib.hid hBw
        have hR1 : w.heap.size + 1 < wo.heap.size := HR9.out.lt
        obtain ⟨⟨r0, r1, r2, r3⟩, g0, g1, g2, g3⟩ := blk4_cells HR9.out
        have HE := Lib.hid (blk4_cells (blk4_all (a' := .slice Av k cv) (b' := .slice Ax (lens gs).length cx) (c' := .slice (some ⟨M, 0, none⟩) k k) (d' := .int .i64 go) HR9.out)).1
        have HFIN : Hid (Below wo.heap.size wo wo) := Lib.hid (Below.refl _ _)
        have HMR : Hid (M ≠ w.heap.size + 1) := Lib.hid (by have := HTL.out; omega)
        have HSET : Hid (∀ d0 d1 d2 d3, IsW ((((wo.setCell ⟨w.heap.size + 1, 0, none⟩ d0).setCell ⟨w.heap.size + 1, 1, none⟩ d1).setCell ⟨w.heap.size + 1, 2, none⟩ d2).setCell ⟨w.heap.size + 1, 3, none⟩ d3) w.heap.size (.agg #[.slice Av k cv, .slice Ax (lens gs).length cx, .slice (some ⟨M, 0, none⟩) k k, .int .i64 go]) (.slice Av gs.length cv) gs nx go) := Lib.hid (fun d0 d1 d2 d3 => by
          have gk : wo.grownBy ((((wo.setCell ⟨w.heap.size + 1, 0, none⟩ d0).setCell ⟨w.heap.size + 1, 1, none⟩ d1).setCell ⟨w.heap.size + 1, 2, none⟩ d2).setCell ⟨w.heap.size + 1, 3, none⟩ d3) (some (w.heap.size + 1)) := by
            refine ⟨rfl, rfl, rfl, by simp, fun i hi hne => ?_⟩
            have hne' : i ≠ w.heap.size + 1 := fun e => hne (by rw [e])
            rw [Below.heap_setCell _ _ _ _ hne', Below.heap_setCell _ _ _ _ hne', Below.heap_setCell _ _ _ _ hne', Below.heap_setCell _ _ _ _ hne']
          have hwd := mapsK_wide HROW.out HLEN.out h1 h24 HFIT.out k (by have := HN.out; omega)
          have hms := isMs_of_own (World.ownsRow.kept hown gk (.inr (by simp [Value.ownBlock]; exact HMR.out))) hwd (mapsK_len nx gs k)
          rw [HN.out] at hms ⊢
          exact ⟨_, _, rfl, own_lower (own_setLow (own_setLow (own_setLow (own_setLow HI9.out _ _ (by simp)) _ _ (by simp)) _ _ (by simp)) _ _ (by simp)) (by omega), hms.lower (by rw [HME.out]; exact HB5.out.size)⟩)
        clear hown hB hB' hBw
        go_wp2_with fail
        obtain ⟨y0, y1, y2, y3⟩ := HE.out
        refine bodyPost_ret (v := .tuple #[.agg #[.slice Av k cv, .slice Ax (lens gs).length cx, .slice (some ⟨M, 0, none⟩) k k, .int .i64 go], .bool true]) (by simp [results, Try.results155, go_sem, y0, y1, y2, y3]) rfl ⟨_, rfl, fun _ => HSET.out _ _ _ _, fun h => (by cases h), ?_⟩
        exact (((HBW.out.setCell (by simp) _).setCell (by simp) _).setCell (by simp) _).setCell (by simp) _
end Go.Proofs.Ytaffachjopjbgaa
