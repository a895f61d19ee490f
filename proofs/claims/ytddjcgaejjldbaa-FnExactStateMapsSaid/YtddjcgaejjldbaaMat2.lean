/-
  Rows of rows of int64 that the call owns, no two of them in one block; laws.markInt64SS and laws.heldInt64SS at them.
  Walks: laws.markInt64SS, laws.heldInt64SS, at rows that the call owns.
-/
import Derived.Test.YtddjcgaejjldbaaAuEq
import Derived.Test.YtddjcgaejjldbaaInts
import Derived.Test.YtddjcgaejjldbaaOwnK
namespace Go.Proofs.Ytddjcgaejjldbaa
open Go.RowKit
open Wd
set_option linter.unusedVariables false
/-- rows of one's own, no two of them in one block -/
structure Rws (w : World) (lo : Nat) (U : List Value) (Z : List (List Int)) : Prop where
  len : U.length = Z.length
  row : ∀ (j : Nat) (u : Value) (zs : List Int), U[j]? = some u → Z[j]? = some zs → OwnsI w lo u zs
  ne : ∀ (i j : Nat) (u y : Value), i < j → U[i]? = some u → U[j]? = some y → u.ownBlock = none ∨ u.ownBlock ≠ y.ownBlock
/-- nothing is changed but in these rows' blocks -/
structure OnlyIn (U : List Value) (w w' : World) : Prop where
  os : w'.os = w.os
  tape : w'.tape = w.tape
  output : w'.output = w.output
  size : w.heap.size ≤ w'.heap.size
  block : ∀ k, k < w.heap.size → (∀ u ∈ U, u.ownBlock ≠ some k) → w'.heap[k]? = w.heap[k]?
theorem OnlyIn.refl (U : List Value) (w : World) : OnlyIn U w w := ⟨rfl, rfl, rfl, Nat.le_refl _, fun _ _ _ => rfl⟩
theorem OnlyIn.trans {U : List Value} {a b c : World} (h : OnlyIn U a b) (h' : OnlyIn U b c) : OnlyIn U a c :=
  ⟨h'.os.trans h.os, h'.tape.trans h.tape, h'.output.trans h.output, Nat.le_trans h.size h'.size, fun k hk hn => (h'.block k (Nat.lt_of_lt_of_le hk h.size) hn).trans (h.block k hk hn)⟩
theorem OnlyIn.mono {U V : List Value} {a b : World} (h : OnlyIn U a b) (hs : ∀ u ∈ U, u ∈ V) : OnlyIn V a b :=
  ⟨h.os, h.tape, h.output, h.size, fun k hk hn => h.block k hk fun u hu => hn u (hs u hu)⟩
theorem OnlyIn.of_grown {U : List Value} {u : Value} {a b : World} (h : a.grownBy b u.ownBlock) (hu : u ∈ U) : OnlyIn U a b :=
  ⟨h.os, h.tape, h.output, h.size, fun k hk hn => h.block k hk fun e => hn u hu e.symm⟩
theorem OnlyIn.of_below {U : List Value} {a b : World} (h : Below a.heap.size a b) : OnlyIn U a b :=
  ⟨h.os, h.tape, h.output, h.size, fun k hk _ => h.block k hk⟩
theorem OnlyIn.below {U : List Value} {a b : World} {lo : Nat} (h : OnlyIn U a b) (hlo : lo ≤ a.heap.size) (hU : ∀ u ∈ U, ∀ q, u.ownBlock = some q → lo ≤ q) : Below lo a b :=
  ⟨h.os, h.tape, h.output, h.size, fun k hk => h.block k (by omega) fun u hu e => by have := hU u hu k e; omega⟩
theorem own_only {U : List Value} {w w' : World} {B e s n : Nat} {v : Value} {xs : List Value} (h : w.ownsRow B e s v n xs) (ho : OnlyIn U w w') (hne : ∀ u ∈ U, u.ownBlock = none ∨ u.ownBlock ≠ v.ownBlock) : w'.ownsRow B e s v n xs := by
  refine ⟨h.1, ?_⟩
  rcases h.2 with h' | ⟨g, cap, cur, rfl, hb, hg, rest⟩
  · exact .inl h'
  · refine .inr ⟨g, cap, cur, rfl, hb, (ho.block g (Array.getElem?_eq_some_iff.1 hg).1 fun u hu e => ?_).trans hg, rest⟩
    rcases hne u hu with h1 | h1
    · rw [h1] at e; cases e
    · exact h1 e
theorem Rws.ge {w : World} {lo : Nat} {U : List Value} {Z : List (List Int)} (h : Rws w lo U Z) : ∀ u ∈ U, ∀ q, u.ownBlock = some q → lo ≤ q ∧ q < w.heap.size := by
  intro u hu q hq
  obtain ⟨j, hj, rfl⟩ := List.mem_iff_getElem.1 hu
  exact (h.row j _ _ (List.getElem?_eq_getElem hj) (List.getElem?_eq_getElem (by rw [← h.len]; exact hj))).lt q hq
theorem Rws.kept {w w' : World} {lo : Nat} {U : List Value} {Z : List (List Int)} (h : Rws w lo U Z) (hb : Below w.heap.size w w') : Rws w' lo U Z :=
  ⟨h.len, fun j u zs h1 h2 => own_below (h.row j u zs h1 h2) hb (Nat.le_refl _), h.ne⟩
theorem Rws.lower {w : World} {lo B : Nat} {U : List Value} {Z : List (List Int)} (h : Rws w lo U Z) (hb : B ≤ lo) : Rws w B U Z :=
  ⟨h.len, fun j u zs h1 h2 => own_lower (h.row j u zs h1 h2) hb, h.ne⟩
theorem Rws.only {w w' : World} {lo : Nat} {U V : List Value} {Z : List (List Int)} (h : Rws w lo U Z) (ho : OnlyIn V w w') (hV : ∀ u ∈ V, ∀ q, u.ownBlock = some q → q < lo) : Rws w' lo U Z := by
  refine ⟨h.len, fun j u zs h1 h2 => own_only (h.row j u zs h1 h2) ho (fun y hy => ?_), h.ne⟩
  cases hq : y.ownBlock with
  | none => exact .inl rfl
  | some q =>
    refine .inr fun e => ?_
    have h3 := hV y hy q hq
    have h4 := ((h.row j u zs h1 h2).lt q e.symm).1
    omega
theorem Rws.mark {w w' : World} {lo : Nat} {U : List Value} {Z : List (List Int)} (h : Rws w lo U Z) {j : Nat} {u : Value} {zs : List Int} (hu : U[j]? = some u) (hg : w.grownBy w' u.ownBlock) (ho : OwnsI w' lo u zs) : Rws w' lo U (Z.set j zs) := by
  refine ⟨by simpa using h.len, fun i y ys h1 h2 => ?_, h.ne⟩
  by_cases e : j = i
  · subst e
    rw [hu] at h1
    injection h1 with h1
    subst h1
    have hj : j < Z.length := by rw [← h.len]; exact (List.getElem?_eq_some_iff.1 hu).1
    rw [List.getElem?_set_self hj] at h2
    injection h2 with h2
    subst h2
    exact ho
  · rw [List.getElem?_set_ne e] at h2
    refine World.ownsRow.kept (h.row i y ys h1 h2) hg ?_
    rcases Nat.lt_or_gt_of_ne e with hlt | hlt
    · rcases h.ne j i u y hlt hu h1 with h3 | h3
      · cases hy : y.ownBlock with
        | none => exact .inl rfl
        | some q => exact .inr (by rw [h3]; simp)
      · exact .inr fun e => h3 e.symm
    · exact h.ne i j y u hlt h1 hu
theorem Rws.tail {w : World} {lo : Nat} {u : Value} {U : List Value} {z : List Int} {Z : List (List Int)} (h : Rws w lo (u :: U) (z :: Z)) : OwnsI w lo u z ∧ Rws w lo U Z ∧ ∀ y ∈ U, y.ownBlock = none ∨ y.ownBlock ≠ u.ownBlock := by
  refine ⟨h.row 0 u z rfl rfl, ⟨by simpa using h.len, fun j y zs h1 h2 => h.row (j + 1) y zs (by simpa using h1) (by simpa using h2), fun i j y y' hij h1 h2 => h.ne (i + 1) (j + 1) y y' (by omega) (by simpa using h1) (by simpa using h2)⟩, fun y hy => ?_⟩
  obtain ⟨j, hj, rfl⟩ := List.mem_iff_getElem.1 hy
  rcases h.ne 0 (j + 1) u U[j] (by omega) rfl (by simp [hj]) with h1 | h1
  · cases hy : U[j].ownBlock with
    | none => exact .inl rfl
    | some q => exact .inr (by rw [h1]; simp)
  · exact .inr fun e => h1 e.symm
theorem Rws.cons {w : World} {lo : Nat} {u : Value} {U : List Value} {z : List Int} {Z : List (List Int)} (h0 : OwnsI w lo u z) (h : Rws w lo U Z) (hne : ∀ y ∈ U, u.ownBlock = none ∨ u.ownBlock ≠ y.ownBlock) : Rws w lo (u :: U) (z :: Z) := by
  refine ⟨by simpa using h.len, fun j y zs h1 h2 => ?_, fun i j y y' hij h1 h2 => ?_⟩
  · cases j with
    | zero =>
      have e1 : u = y := by simpa using h1
      have e2 : z = zs := by simpa using h2
      subst e1 e2
      exact h0
    | succ j => exact h.row j y zs (by simpa using h1) (by simpa using h2)
  · cases j with
    | zero => omega
    | succ j =>
      cases i with
      | zero =>
        have e1 : u = y := by simpa using h1
        subst e1
        exact hne y' (List.mem_iff_getElem?.2 ⟨j, by simpa using h2⟩)
      | succ i => exact h.ne i j y y' (by omega) (by simpa using h1) (by simpa using h2)
theorem Rws.snoc {w : World} {lo : Nat} {u : Value} {U : List Value} {z : List Int} {Z : List (List Int)} (h : Rws w lo U Z) (h0 : OwnsI w lo u z) (hne : ∀ y ∈ U, y.ownBlock = none ∨ y.ownBlock ≠ u.ownBlock) : Rws w lo (U ++ [u]) (Z ++ [z]) := by
  have hl := h.len
  have last : ∀ {α : Type} {l : List α} {a b : α} {j : Nat}, (l ++ [a])[j]? = some b → l[j]? = some b ∨ (j = l.length ∧ a = b) := by
    intro α l a b j hj
    by_cases hlt : j < l.length
    · rw [List.getElem?_append_left hlt] at hj; exact .inl hj
    · rw [List.getElem?_append_right (by omega)] at hj
      have hj0 : j - l.length = 0 := by have := (List.getElem?_eq_some_iff.1 hj).1; simp at this; omega
      rw [hj0] at hj
      exact .inr ⟨by omega, by simpa using hj⟩
  refine ⟨by simp [hl], fun j y zs h1 h2 => ?_, fun i j y y' hij h1 h2 => ?_⟩
  · rcases last h1 with h1 | ⟨h1, rfl⟩ <;> rcases last h2 with h2 | ⟨h2, rfl⟩
    · exact h.row j y zs h1 h2
    · have := (List.getElem?_eq_some_iff.1 h1).1; omega
    · have := (List.getElem?_eq_some_iff.1 h2).1; omega
    · exact h0
  · rcases last h1 with h1 | ⟨h1, rfl⟩ <;> rcases last h2 with h2 | ⟨h2, rfl⟩
    · exact h.ne i j y y' hij h1 h2
    · exact hne y (List.mem_iff_getElem?.2 ⟨i, h1⟩)
    · have := (List.getElem?_eq_some_iff.1 h2).1; omega
    · omega
theorem Rws.nil (w : World) (lo : Nat) : Rws w lo [] [] := ⟨rfl, fun j u zs h => by simp at h, fun i j u y _ h => by simp at h⟩
namespace Wd
/-- how many numbers lie in the first rows -/
def pre (rs : List (List Int)) (j : Nat) : Nat := ((rs.take j).map List.length).sum
theorem pre_zero (rs : List (List Int)) : pre rs 0 = 0 := by simp [pre]
theorem pre_succ (rs : List (List Int)) (j : Nat) (h : j < rs.length) : pre rs (j + 1) = pre rs j + (rs[j]).length := by
  unfold pre
  rw [List.take_succ_eq_append_getElem h, List.map_append, List.sum_append]
  simp
theorem pre_le (rs : List (List Int)) (m : Nat) (hr : ∀ r ∈ rs, r.length ≤ m) : ∀ j, j ≤ rs.length → pre rs j ≤ j * m
  | 0, _ => by simp [pre_zero]
  | j + 1, h => by
    rw [pre_succ rs j (by omega), Nat.succ_mul]
    have h1 := pre_le rs m hr j (by omega)
    have h2 := hr _ (List.getElem_mem (show j < rs.length by omega))
    omega
/-- the first rows marked -/
def mkF (j : Nat) (k : Int) (rs : List (List Int)) : List (List Int) := (List.range rs.length).map fun i => if i < j then marks (k + pre rs i) (rs.getD i []).length else rs.getD i []
theorem mkF_len (j : Nat) (k : Int) (rs : List (List Int)) : (mkF j k rs).length = rs.length := by simp [mkF]
theorem mkF_get (j : Nat) (k : Int) (rs : List (List Int)) (i : Nat) (h : i < rs.length) : (mkF j k rs)[i]? = some (if i < j then marks (k + pre rs i) (rs[i]).length else rs[i]) := by
  unfold mkF
  rw [List.getElem?_map, List.getElem?_range h]
  simp [h]
theorem mkF_zero (k : Int) (rs : List (List Int)) : mkF 0 k rs = rs := by
  apply List.ext_getElem?
  intro i
  by_cases h : i < rs.length
  · rw [mkF_get 0 k rs i h, if_neg (by omega), List.getElem?_eq_getElem h]
  · rw [List.getElem?_eq_none (by rw [mkF_len]; omega), List.getElem?_eq_none (by omega)]
theorem mkF_set (j : Nat) (k : Int) (rs : List (List Int)) (h : j < rs.length) : (mkF j k rs).set j (marks (k + pre rs j) (rs[j]).length) = mkF (j + 1) k rs := by
  apply List.ext_getElem?
  intro i
  by_cases hi : i < rs.length
  · rw [mkF_get _ k rs i hi]
    by_cases e : j = i
    · subst e
      rw [List.getElem?_set_self (by rw [mkF_len]; exact h), if_pos (by omega)]
    · rw [List.getElem?_set_ne e, mkF_get _ k rs i hi]
      by_cases h1 : i < j
      · rw [if_pos h1, if_pos (by omega)]
      · rw [if_neg h1, if_neg (by omega)]
  · rw [List.getElem?_eq_none (by rw [List.length_set, mkF_len]; omega), List.getElem?_eq_none (by rw [mkF_len]; omega)]
end Wd
/-- rows of rows that the call owns: the outer row's slice, its values, what they hold -/
structure OwnM (w : World) (lo : Nat) (v : Value) (U : List Value) (Z : List (List Int)) : Prop where
  outer : w.ownsRow lo 35 1 v U.length U
  rows : Rws w lo U Z
theorem OwnM.ne {w : World} {lo : Nat} {v : Value} {U : List Value} {Z : List (List Int)} (h : OwnM w lo v U Z) : ∀ u ∈ U, u.ownBlock = none ∨ u.ownBlock ≠ v.ownBlock := by
  intro u hu
  obtain ⟨j, hj, rfl⟩ := List.mem_iff_getElem.1 hu
  have h1 := h.rows.row j _ _ (List.getElem?_eq_getElem hj) (List.getElem?_eq_getElem (by rw [← h.rows.len]; exact hj))
  exact own_kinds_ne h1 h.outer (by decide)
theorem OwnM.kept {w w' : World} {lo : Nat} {v : Value} {U : List Value} {Z : List (List Int)} (h : OwnM w lo v U Z) (hb : Below w.heap.size w w') : OwnM w' lo v U Z :=
  ⟨own_below h.outer hb (Nat.le_refl _), h.rows.kept hb⟩
theorem OwnM.lower {w : World} {lo B : Nat} {v : Value} {U : List Value} {Z : List (List Int)} (h : OwnM w lo v U Z) (hb : B ≤ lo) : OwnM w B v U Z :=
  ⟨own_lower h.outer hb, h.rows.lower hb⟩
theorem OwnM.lt {w : World} {lo : Nat} {v : Value} {U : List Value} {Z : List (List Int)} (h : OwnM w lo v U Z) : ∀ q, v.ownBlock = some q → lo ≤ q ∧ q < w.heap.size := fun q hq => h.outer.lt q hq
theorem OwnM.only {w w' : World} {lo : Nat} {v : Value} {U V : List Value} {Z : List (List Int)} (h : OwnM w lo v U Z) (ho : OnlyIn V w w') (hV : ∀ u ∈ V, ∀ q, u.ownBlock = some q → q < lo) : OwnM w' lo v U Z := by
  refine ⟨own_only h.outer ho (fun u hu => ?_), h.rows.only ho hV⟩
  cases hq : u.ownBlock with
  | none => exact .inl rfl
  | some q =>
    refine .inr fun e => ?_
    have h1 := hV u hu q hq
    have h2 := (h.outer.lt q e.symm).1
    omega
theorem OwnM.len {w : World} {lo : Nat} {v : Value} {U : List Value} {Z : List (List Int)} (h : OwnM w lo v U Z) : U.length = Z.length := h.rows.len
theorem OwnM.shape {w : World} {lo : Nat} {v : Value} {U : List Value} {Z : List (List Int)} (h : OwnM w lo v U Z) : (v = .slice none 0 0 ∧ U = []) ∨ ∃ g c, v = .slice (some ⟨g, 0, none⟩) U.length c ∧ lo ≤ g ∧ g < w.heap.size := by
  rcases h.outer.2 with ⟨h1, h2⟩ | ⟨g, cap, cur, rfl, hb, hg, _⟩
  · exact .inl ⟨h1, List.eq_nil_of_length_eq_zero h2⟩
  · exact .inr ⟨g, cap, rfl, hb, (Array.getElem?_eq_some_iff.1 hg).1⟩
theorem OwnM.isLL {w : World} {lo : Nat} {v : Value} {U : List Value} {Z : List (List Int)} (h : OwnM w lo v U Z) : IsLL w v Z := by
  rcases h.shape with ⟨rfl, h0⟩ | ⟨g, c, rfl, _⟩
  · have hz : Z = [] := List.eq_nil_of_length_eq_zero (by rw [← h.len, h0]; rfl)
    subst hz
    exact ⟨none, 0, rfl, .inl rfl⟩
  · refine ⟨_, c, by rw [h.len], .inr ⟨_, rfl, fun j hj => ?_⟩⟩
    have hju : j < U.length := by rw [h.len]; exact hj
    refine ⟨U[j], ?_, IsL.of_own (h.rows.row j _ _ (List.getElem?_eq_getElem hju) (List.getElem?_eq_getElem hj))⟩
    rw [add_zero', h.outer.cellAt j (by omega), List.getElem?_eq_getElem hju]
theorem mkF_all (k : Int) (rs : List (List Int)) : mkF rs.length k rs = (List.range rs.length).map fun i => marks (k + pre rs i) (rs.getD i []).length := by
  unfold mkF
  apply List.map_congr_left
  intro i hi
  rw [if_pos (List.mem_range.1 hi)]
theorem Rws.rowAt {w : World} {lo : Nat} {U : List Value} {Z : List (List Int)} (h : Rws w lo U Z) {j : Nat} {u : Value} {zs : List Int} (hu : U[j]? = some u) (hz : Z[j]? = some zs) : OwnsI w lo u zs := h.row j u zs hu hz
set_option maxRecDepth 100000 in
set_option maxHeartbeats 1600000 in
theorem markLL (v : Value) (U : List Value) (Z : List (List Int)) (lo : Nat) (k : Int) (w : World) (hn : Z.length ≤ 1048576) (hr : ∀ r ∈ Z, r.length ≤ 1048576) (hk0 : 0 ≤ k) (hk1 : k ≤ 2097152) (h : OwnM w lo v U Z) :
    Calls Try.prog 46 #[v, .int .i64 k] w fun e w' => e = .returned (.int .i64 (k + pre Z Z.length)) ∧ OwnM w' lo v U (mkF Z.length k Z) ∧ OnlyIn U w w' := by
  have HM := Lib.hid h
  have HN := Lib.hid h.len
  have HP := Lib.hid (fun j hj => pre_le Z 1048576 hr j hj)
  have HR := Lib.hid hr
  have HNE := Lib.hid h.ne
  obtain ⟨n, hn'⟩ : ∃ n, n = Z.length := ⟨_, rfl⟩
  rw [← hn'] at hn ⊢
  have HZ := Lib.hid hn'
  rcases h.shape with ⟨rfl, h0⟩ | ⟨g, c, rfl, _⟩
  · have : n = 0 := by rw [hn', ← h.len, h0]; rfl
    subst this
    clear hn' hr h
    go_enter Try.func46, Try.ntmps46
    go_wp2
    refine wp_loop_rounds 1 ?_
    rw [rounds_succ]
    go_wp2
    go_ret
    refine ⟨ret_int (by rw [pre_zero]; simp), ?_, OnlyIn.refl _ _⟩
    rw [mkF_zero]; exact HM.out
  · have hun : U.length = n := by rw [h.len, hn']
    rw [hun]
    have HU := Lib.hid hun
    clear hn' hr h hun
    go_enter Try.func46, Try.ntmps46
    go_wp2_with fail
    go_loopw [1, 5] (fun q i wr => ∃ j : Nat, j ≤ n ∧ i = .int .i64 j ∧ q = .int .i64 (k + pre Z j) ∧ Rws wr lo U (mkF j k Z) ∧ OnlyIn U w wr) (fun _ i _ => n - (intOf i).toNat)
    case atStart => exact ⟨0, Nat.zero_le _, rfl, by rw [pre_zero]; simp, by rw [mkF_zero]; exact HM.out.rows, OnlyIn.refl _ _⟩
    case round =>
      obtain ⟨j, hj, rfl, rfl, hrows, honly⟩ := hrel
      obtain ⟨wo, rfl⟩ : ∃ wo : World, wo = wr := ⟨_, rfl⟩
      have hout := own_only HM.out.outer honly HNE.out
      have HOL := Lib.hid honly
      by_cases hlt : j < n
      · have hju : j < U.length := by rw [HU.out]; exact hlt
        have hjz : j < Z.length := by rw [← HZ.out]; exact hlt
        have c0 := hout.cellAt j (by rw [HU.out]; omega)
        rw [List.getElem?_eq_getElem hju] at c0
        have hget := mkF_get j k Z j hjz
        rw [if_neg (Nat.lt_irrefl _)] at hget
        have hp := HP.out j (by omega)
        have hp1 := HP.out (j + 1) (by omega)
        have hps := pre_succ Z j hjz
        have hown := hrows.row j _ _ (List.getElem?_eq_getElem hju) hget
        have hlen := HR.out _ (List.getElem_mem hjz)
        obtain ⟨z, hz⟩ : ∃ z, z = pre Z j := ⟨_, rfl⟩
        have HC := Lib.hid (markI U[j] Z[j] lo (k + z) (by omega) (by rw [hz]; omega) wo hown hlen)
        have HNXT : Hid (∀ (w' : World) , OwnsI w' lo U[j] (marks (k + z) Z[j].length) → wo.grownBy w' U[j].ownBlock → Rws w' lo U (mkF (j + 1) k Z) ∧ OnlyIn U w w') := Lib.hid (fun w' ho hg => by
          refine ⟨?_, HOL.out.trans (OnlyIn.of_grown hg (List.getElem_mem hju))⟩
          have := hrows.mark (List.getElem?_eq_getElem hju) hg ho
          rw [hz] at this
          rwa [mkF_set j k Z hjz] at this)
        have HPS : Hid (pre Z (j + 1) = z + Z[j].length) := Lib.hid (by rw [hz]; exact hps)
        obtain ⟨A2, c2, hA2⟩ := own_slice hown
        rw [← hz]
        have hsum0 : (0 : Int) ≤ z := by omega
        have hsum1 : (z : Int) ≤ 1099511627776 := by rw [hz]; omega
        have hl0 : (Z[j].length : Int) ≤ 1048576 := by omega
        rw [hA2] at c0 HC HNXT
        generalize Z[j].length = L at *
        clear hout hrows honly hget hp hp1 hps hown hlen hz hA2 hju hjz
        go_wp2_with fail
        refine HC.out.mono ?_
        rintro e w5 ⟨rfl, ho5, hg5⟩
        have HO := Lib.hid (HNXT.out w5 ho5 hg5)
        clear ho5 hg5
        go_wp2_with fail
        go_roundw
        case rel => exact ⟨j + 1, by omega, by go_num, by rw [HPS.out]; go_num, HO.out.1, HO.out.2⟩
        case measure => simp [intOf]; omega
      · obtain rfl : j = n := by omega
        have HF : Hid (OwnM wo lo (.slice (some ⟨g, 0, none⟩) j c) U (mkF j k Z) ∧ OnlyIn U w wo) := Lib.hid ⟨⟨by rw [HU.out] at hout ⊢; exact hout, hrows⟩, honly⟩
        clear hout hrows honly HOL
        go_wp2_with fail
        go_ret
        exact ⟨rfl, HF.out.1, HF.out.2⟩
set_option maxRecDepth 100000 in
set_option maxHeartbeats 1600000 in
theorem heldLL (v : Value) (U : List Value) (Z : List (List Int)) (lo : Nat) (k : Int) (w : World) (hn : Z.length ≤ 1048576) (hr : ∀ r ∈ Z, r.length ≤ 1048576) (hk0 : 0 ≤ k) (hk1 : k ≤ 2097152) (h : OwnM w lo v U (mkF Z.length k Z)) :
    Calls Try.prog 47 #[v, .int .i64 k] w fun e w' => e = .returned (.int .i64 (k + pre Z Z.length)) ∧ w = w' := by
  have HM := Lib.hid h
  have hlen := h.len
  rw [mkF_len] at hlen
  have HP := Lib.hid (fun j hj => pre_le Z 1048576 hr j hj)
  have HR := Lib.hid hr
  obtain ⟨n, hn'⟩ : ∃ n, n = Z.length := ⟨_, rfl⟩
  rw [← hn'] at hn ⊢
  have HZ := Lib.hid hn'
  rcases h.shape with ⟨rfl, h0⟩ | ⟨g, c, rfl, _⟩
  · have : n = 0 := by rw [hn', ← hlen, h0]; rfl
    subst this
    clear hn' hr h hlen
    go_enter Try.func47, Try.ntmps47
    go_wp2
    refine wp_loop_rounds 1 ?_
    rw [rounds_succ]
    go_wp2
    go_ret
    exact ⟨ret_int (by rw [pre_zero]; simp), rfl⟩
  · have hun : U.length = n := by rw [hlen, hn']
    rw [hun]
    have HU := Lib.hid hun
    clear hn' hr h hun hlen
    go_enter Try.func47, Try.ntmps47
    go_wp2_with fail
    go_loopw [1, 5] (fun q i wr => ∃ j : Nat, j ≤ n ∧ i = .int .i64 j ∧ q = .int .i64 (k + pre Z j) ∧ wr = w) (fun _ i _ => n - (intOf i).toNat)
    case atStart => exact ⟨0, Nat.zero_le _, rfl, by rw [pre_zero]; simp, rfl⟩
    case round =>
      obtain ⟨j, hj, rfl, rfl, rfl⟩ := hrel
      by_cases hlt : j < n
      · have hju : j < U.length := by rw [HU.out]; exact hlt
        have hjz : j < Z.length := by rw [← HZ.out]; exact hlt
        have c0 := HM.out.outer.cellAt j (by rw [HU.out]; omega)
        rw [List.getElem?_eq_getElem hju] at c0
        have hget := mkF_get Z.length k Z j hjz
        rw [if_pos hjz] at hget
        have hp := HP.out j (by omega)
        have hp1 := HP.out (j + 1) (by omega)
        have hps := pre_succ Z j hjz
        have hown := HM.out.rows.row j _ _ (List.getElem?_eq_getElem hju) hget
        have hlen := HR.out _ (List.getElem_mem hjz)
        obtain ⟨z, hz⟩ : ∃ z, z = pre Z j := ⟨_, rfl⟩
        have HC := Lib.hid (heldI U[j] Z[j].length lo (k + z) (by omega) (by rw [hz]; omega) wr (by rw [hz]; exact hown) hlen)
        have HPS : Hid (pre Z (j + 1) = z + Z[j].length) := Lib.hid (by rw [hz]; exact hps)
        obtain ⟨A2, c2, hA2⟩ := own_slice hown
        rw [marks_len] at hA2
        rw [← hz]
        have hsum0 : (0 : Int) ≤ z := by omega
        have hsum1 : (z : Int) ≤ 1099511627776 := by rw [hz]; omega
        have hl0 : (Z[j].length : Int) ≤ 1048576 := by omega
        have hnn : ¬ (k + (z : Int) + (Z[j].length : Int) < 0) := by omega
        rw [hA2] at c0 HC
        generalize Z[j].length = L at *
        clear hget hp hp1 hps hown hlen hz hA2 hju hjz
        go_wp2_with fail
        refine HC.out.mono ?_
        rintro e w5 ⟨rfl, rfl⟩
        go_wp2_with fail
        go_roundw
        case rel => exact ⟨j + 1, by omega, by go_num, by rw [HPS.out]; go_num, by first | rfl | trivial⟩
        case measure => simp [intOf]; omega
      · obtain rfl : j = n := by omega
        go_wp2_with fail
        go_ret
        exact ⟨rfl, rfl⟩
/-- an automaton's value that the call owns -/
structure OwnA (w : World) (lo : Nat) (f n : Value) (U : List Value) (fin : List Int) (nx : List (List Int)) : Prop where
  fin : OwnsI w lo f fin
  nx : OwnM w lo n U nx
  ne : ∀ u ∈ U, f.ownBlock = none ∨ f.ownBlock ≠ u.ownBlock
theorem OwnA.kept {w w' : World} {lo : Nat} {f n : Value} {U : List Value} {fin : List Int} {nx : List (List Int)} (h : OwnA w lo f n U fin nx) (hb : Below w.heap.size w w') : OwnA w' lo f n U fin nx :=
  ⟨own_below h.fin hb (Nat.le_refl _), h.nx.kept hb, h.ne⟩
theorem OwnA.lower {w : World} {lo B : Nat} {f n : Value} {U : List Value} {fin : List Int} {nx : List (List Int)} (h : OwnA w lo f n U fin nx) (hb : B ≤ lo) : OwnA w B f n U fin nx :=
  ⟨own_lower h.fin hb, h.nx.lower hb, h.ne⟩
theorem OwnA.blocks {w : World} {lo : Nat} {f n : Value} {U : List Value} {fin : List Int} {nx : List (List Int)} (h : OwnA w lo f n U fin nx) : ∀ u ∈ f :: U, ∀ q, u.ownBlock = some q → lo ≤ q ∧ q < w.heap.size := by
  intro u hu q hq
  rcases List.mem_cons.1 hu with rfl | hu
  · exact h.fin.lt q hq
  · exact h.nx.rows.ge u hu q hq
theorem OwnA.only {w w' : World} {lo : Nat} {f n : Value} {U V : List Value} {fin : List Int} {nx : List (List Int)} (h : OwnA w lo f n U fin nx) (ho : OnlyIn V w w') (hV : ∀ u ∈ V, ∀ q, u.ownBlock = some q → q < lo) : OwnA w' lo f n U fin nx := by
  refine ⟨own_only h.fin ho (fun u hu => ?_), h.nx.only ho hV, h.ne⟩
  cases hq : u.ownBlock with
  | none => exact .inl rfl
  | some q =>
    refine .inr fun e => ?_
    have h1 := hV u hu q hq
    have h2 := (h.fin.lt q e.symm).1
    omega
theorem OwnA.isAu {w : World} {lo : Nat} {f n : Value} {U : List Value} {x : Au} (h : OwnA w lo f n U x.fin x.nx) : IsAu w (.agg #[.int .i64 x.st, .int .i64 x.go, f, n]) x :=
  ⟨f, n, rfl, IsL.of_own h.fin, h.nx.isLL⟩
/-- how many numbers an automaton holds -/
def auN (x : Au) : Int := x.fin.length + pre x.nx x.nx.length
set_option maxRecDepth 100000 in
set_option maxHeartbeats 1600000 in
theorem markAu (f n : Value) (U : List Value) (x : Au) (lo : Nat) (w : World) (hf : FewA x) (h : OwnA w lo f n U x.fin x.nx) :
    Calls Try.prog 27 #[.agg #[.int .i64 x.st, .int .i64 x.go, f, n], .int .i64 1] w fun e w' => e = .returned (.int .i64 (1 + auN x)) ∧ OwnA w' lo f n U (marks 1 x.fin.length) (mkF x.nx.length (1 + x.fin.length) x.nx) ∧ OnlyIn (f :: U) w w' := by
  have hb := (Below.refl _ w).alloc (Nat.le_refl _) (.cells #[.int .i64 x.st, .int .i64 x.go, f, n] 39)
  have hP := heap_alloc_new w (.cells #[.int .i64 x.st, .int .i64 x.go, f, n] 39)
  have ha := h.kept hb
  have hfl := hf.fin
  have HF := Lib.hid (markI f x.fin lo 1 (by omega) (by omega) _ ha.fin hf.fin)
  have HNX : Hid (∀ w', OwnsI w' lo f (marks 1 x.fin.length) → (w.alloc (.cells #[.int .i64 x.st, .int .i64 x.go, f, n] 39)).grownBy w' f.ownBlock → OwnM w' lo n U x.nx ∧ w'.heap[w.heap.size]? = some (.cells #[.int .i64 x.st, .int .i64 x.go, f, n] 39 (0, 0))) := Lib.hid (fun w' ho hg => by
    have hg' : OnlyIn [f] (w.alloc (.cells #[.int .i64 x.st, .int .i64 x.go, f, n] 39)) w' := OnlyIn.of_grown hg (by simp)
    refine ⟨⟨own_only ha.nx.outer hg' (fun u hu => ?_), ?_⟩, ?_⟩
    · obtain rfl : u = f := by simpa using hu
      exact own_kinds_ne ha.fin ha.nx.outer (by decide)
    · refine ⟨ha.nx.rows.len, fun j u zs h1 h2 => own_only (ha.nx.rows.row j u zs h1 h2) hg' (fun y hy => ?_), ha.nx.rows.ne⟩
      obtain rfl : y = f := by simpa using hy
      exact ha.ne u (List.mem_iff_getElem?.2 ⟨j, h1⟩)
    · rw [hg.block w.heap.size (by simp) (fun e => by have := (h.fin.lt _ e.symm).2; omega)]
      exact hP)
  have HM := Lib.hid (fun W (hW : OwnM W lo n U x.nx) => markLL n U x.nx lo (1 + x.fin.length) W hf.nx hf.row (by omega) (by omega) hW)
  have HFIN : Hid (∀ w1 w2, OwnsI w1 lo f (marks 1 x.fin.length) → (w.alloc (.cells #[.int .i64 x.st, .int .i64 x.go, f, n] 39)).grownBy w1 f.ownBlock → OwnM w2 lo n U (mkF x.nx.length (1 + x.fin.length) x.nx) → OnlyIn U w1 w2 → OwnA w2 lo f n U (marks 1 x.fin.length) (mkF x.nx.length (1 + x.fin.length) x.nx) ∧ OnlyIn (f :: U) w w2) := Lib.hid (fun w1 w2 h1 h2 h3 h4 => by
    refine ⟨⟨own_only h1 h4 (fun u hu => ?_), h3, h.ne⟩, ?_⟩
    · rcases h.ne u hu with h5 | h5
      · cases hq : u.ownBlock with
        | none => exact .inl rfl
        | some q => exact .inr (by rw [h5]; simp)
      · exact .inr fun e => h5 e.symm
    · exact ((OnlyIn.of_below hb).trans (OnlyIn.of_grown h2 (by simp))).trans (h4.mono fun u hu => by simp [hu]))
  have hb0 : 0 ≤ (x.fin.length : Int) := by omega
  have hb1 : (x.fin.length : Int) ≤ 1048576 := by omega
  obtain ⟨Af, cf, rfl⟩ := own_slice h.fin
  obtain ⟨An, cn, rfl⟩ := own_slice h.nx.outer
  obtain ⟨⟨p0, p1, p2, p3⟩, _⟩ := blk4_cells hP
  clear hb hP ha hf h hfl
  unfold auN
  generalize x.fin.length = N at *
  go_enter Try.func27, Try.ntmps27
  go_wp2_with fail
  refine HF.out.mono ?_
  rintro e w1 ⟨rfl, ho1, hg1⟩
  have HN1 := Lib.hid (HNX.out w1 ho1 hg1)
  have HF1 := Lib.hid (fun w2 => HFIN.out w1 w2 ho1 hg1)
  clear ho1 hg1 p0 p1 p2 p3
  obtain ⟨⟨p0, p1, p2, p3⟩, _⟩ := blk4_cells HN1.out.2
  go_wp2_with fail
  refine (HM.out _ HN1.out.1).mono ?_
  rintro e w2 ⟨rfl, ho2, hg2⟩
  have HR := Lib.hid (HF1.out w2 ho2 hg2)
  clear ho2 hg2 p0 p1 p2 p3
  go_wp2_with fail
  go_ret
  exact ⟨ret_int (by omega), HR.out.1, HR.out.2⟩
set_option maxRecDepth 100000 in
set_option maxHeartbeats 1600000 in
theorem heldAu (f n : Value) (U : List Value) (x : Au) (lo : Nat) (w : World) (hf : FewA x) (h : OwnA w lo f n U (marks 1 x.fin.length) (mkF x.nx.length (1 + x.fin.length) x.nx)) :
    Calls Try.prog 28 #[.agg #[.int .i64 x.st, .int .i64 x.go, f, n], .int .i64 1] w fun e w' => e = .returned (.int .i64 (1 + auN x)) ∧ Below w.heap.size w w' := by
  have hb := (Below.refl _ w).alloc (Nat.le_refl _) (.cells #[.int .i64 x.st, .int .i64 x.go, f, n] 39)
  have hP := heap_alloc_new w (.cells #[.int .i64 x.st, .int .i64 x.go, f, n] 39)
  have ha := h.kept hb
  have hfl := hf.fin
  have HF := Lib.hid (heldI f x.fin.length lo 1 (by omega) (by omega) _ ha.fin hf.fin)
  have HM := Lib.hid (heldLL n U x.nx lo (1 + x.fin.length) _ hf.nx hf.row (by omega) (by omega) ha.nx)
  have HB := Lib.hid hb
  have hpb := pre_le x.nx 1048576 hf.row x.nx.length (Nat.le_refl _)
  have hpn := hf.nx
  have hb0 : 0 ≤ (x.fin.length : Int) := by omega
  have hb1 : (x.fin.length : Int) ≤ 1048576 := by omega
  have hq0 : (0 : Int) ≤ (pre x.nx x.nx.length : Int) := by omega
  have hn1 : ¬ (1 + (x.fin.length : Int) < 0) := by omega
  have hn2 : ¬ (1 + (x.fin.length : Int) + (pre x.nx x.nx.length : Int) < 0) := by omega
  obtain ⟨Af, cf, rfl⟩ := own_slice h.fin
  obtain ⟨An, cn, rfl⟩ := own_slice h.nx.outer
  obtain ⟨⟨p0, p1, p2, p3⟩, _⟩ := blk4_cells hP
  clear hb hP ha hf h hfl hpb hpn
  unfold auN
  generalize x.fin.length = N at *
  generalize pre x.nx x.nx.length = P at *
  go_enter Try.func28, Try.ntmps28
  go_wp2_with fail
  refine HF.out.mono ?_
  rintro e w1 ⟨rfl, rfl⟩
  go_wp2_with fail
  refine HM.out.mono ?_
  rintro e w1 ⟨rfl, rfl⟩
  go_wp2_with fail
  go_ret
  exact ⟨ret_int (by omega), HB.out⟩
end Go.Proofs.Ytddjcgaejjldbaa
