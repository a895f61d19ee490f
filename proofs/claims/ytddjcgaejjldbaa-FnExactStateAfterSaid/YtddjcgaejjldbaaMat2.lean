/-
  Walks: laws.markInt64SS, laws.heldInt64SS, at rows that the call owns.
-/
import Derived.Test.YtddjcgaejjldbaaMat
namespace Go.Proofs.Ytddjcgaejjldbaa
open Go.RowKit
open Wd
set_option linter.unusedVariables false
/-- rows of rows that the call owns: the outer row's slice, its values, what they hold -/
structure OwnM (w : World) (lo : Nat) (v : Value) (U : List Value) (Z : List (List Int)) : Prop where
  outer : w.ownsRow lo 35 1 v U.length U
  rows : Rws w lo U Z
theorem OwnM.ne {w : World} {lo : Nat} {v : Value} {U : List Value} {Z : List (List Int)} (h : OwnM w lo v U Z) : ∀ u ∈ U, u.ownBlock = none ∨ u.ownBlock ≠ v.ownBlock := by
  intro u hu
  obtain ⟨j, hj, rfl⟩ := List.mem_iff_getElem.1 hu
  have h1 := h.rows.row j _ _ (List.getElem?_eq_getElem hj) (List.getElem?_eq_getElem (by rw [← h.rows.len]; exact hj))
  exact own_kinds_ne h1 h.outer (by decide)
theorem OwnM.kept {w w' : World} {lo : Nat} {v : Value} {U : List Value} {Z : List (List Int)} (h : OwnM w lo v U Z) (hb : Below w.heap.size w w') : OwnM w' lo v U Z :=
  ⟨own_below h.outer hb (Nat.le_refl _), h.rows.kept hb⟩
theorem OwnM.lower {w : World} {lo B : Nat} {v : Value} {U : List Value} {Z : List (List Int)} (h : OwnM w lo v U Z) (hb : B ≤ lo) : OwnM w B v U Z :=
  ⟨own_lower h.outer hb, h.rows.lower hb⟩
theorem OwnM.lt {w : World} {lo : Nat} {v : Value} {U : List Value} {Z : List (List Int)} (h : OwnM w lo v U Z) : ∀ q, v.ownBlock = some q → lo ≤ q ∧ q < w.heap.size := fun q hq => h.outer.lt q hq
theorem OwnM.only {w w' : World} {lo : Nat} {v : Value} {U V : List Value} {Z : List (List Int)} (h : OwnM w lo v U Z) (ho : OnlyIn V w w') (hV : ∀ u ∈ V, ∀ q, u.ownBlock = some q → q < lo) : OwnM w' lo v U Z := by
  refine ⟨own_only h.outer ho (fun u hu => ?_), h.rows.only ho hV⟩
  cases hq : u.ownBlock with
  | none => exact .inl rfl
  | some q =>
    refine .inr fun e => ?_
    have h1 := hV u hu q hq
    have h2 := (h.outer.lt q e.symm).1
    omega
theorem OwnM.len {w : World} {lo : Nat} {v : Value} {U : List Value} {Z : List (List Int)} (h : OwnM w lo v U Z) : U.length = Z.length := h.rows.len
theorem OwnM.shape {w : World} {lo : Nat} {v : Value} {U : List Value} {Z : List (List Int)} (h : OwnM w lo v U Z) : (v = .slice none 0 0 ∧ U = []) ∨ ∃ g c, v = .slice (some ⟨g, 0, none⟩) U.length c ∧ lo ≤ g ∧ g < w.heap.size := by
  rcases h.outer.2 with ⟨h1, h2⟩ | ⟨g, cap, cur, rfl, hb, hg, _⟩
  · exact .inl ⟨h1, List.eq_nil_of_length_eq_zero h2⟩
  · exact .inr ⟨g, cap, rfl, hb, (Array.getElem?_eq_some_iff.1 hg).1⟩
theorem OwnM.isLL {w : World} {lo : Nat} {v : Value} {U : List Value} {Z : List (List Int)} (h : OwnM w lo v U Z) : IsLL w v Z := by
  rcases h.shape with ⟨rfl, h0⟩ | ⟨g, c, rfl, _⟩
  · have hz : Z = [] := List.eq_nil_of_length_eq_zero (by rw [← h.len, h0]; rfl)
    subst hz
    exact ⟨none, 0, rfl, .inl rfl⟩
  · refine ⟨_, c, by rw [h.len], .inr ⟨_, rfl, fun j hj => ?_⟩⟩
    have hju : j < U.length := by rw [h.len]; exact hj
    refine ⟨U[j], ?_, IsL.of_own (h.rows.row j _ _ (List.getElem?_eq_getElem hju) (List.getElem?_eq_getElem hj))⟩
    rw [add_zero', h.outer.cellAt j (by omega), List.getElem?_eq_getElem hju]
theorem mkF_all (k : Int) (rs : List (List Int)) : mkF rs.length k rs = (List.range rs.length).map fun i => marks (k + pre rs i) (rs.getD i []).length := by
  unfold mkF
  apply List.map_congr_left
  intro i hi
  rw [if_pos (List.mem_range.1 hi)]
theorem Rws.rowAt {w : World} {lo : Nat} {U : List Value} {Z : List (List Int)} (h : Rws w lo U Z) {j : Nat} {u : Value} {zs : List Int} (hu : U[j]? = some u) (hz : Z[j]? = some zs) : OwnsI w lo u zs := h.row j u zs hu hz
set_option maxRecDepth 100000 in
set_option maxHeartbeats 1600000 in
theorem markLL (v : Value) (U : List Value) (Z : List (List Int)) (lo : Nat) (k : Int) (w : World) (hn : Z.length ≤ 1048576) (hr : ∀ r ∈ Z, r.length ≤ 1048576) (hk0 : 0 ≤ k) (hk1 : k ≤ 2097152) (h : OwnM w lo v U Z) :
    Calls Try.prog 46 #[v, .int .i64 k] w fun e w' => e = .returned (.int .i64 (k + pre Z Z.length)) ∧ OwnM w' lo v U (mkF Z.length k Z) ∧ OnlyIn U w w' := by
  have HM := Lib.hid h
  have HN := Lib.hid h.len
  have HP := Lib.hid (fun j hj => pre_le Z 1048576 hr j hj)
  have HR := Lib.hid hr
  have HNE := Lib.hid h.ne
  obtain ⟨n, hn'⟩ : ∃ n, n = Z.length := ⟨_, rfl⟩
  rw [← hn'] at hn ⊢
  have HZ := Lib.hid hn'
  rcases h.shape with ⟨rfl, h0⟩ | ⟨g, c, rfl, _⟩
  · have : n = 0 := by rw [hn', ← h.len, h0]; rfl
    subst this
    clear hn' hr h
    go_enter Try.func46, Try.ntmps46
    go_wp2
    refine wp_loop_rounds 1 ?_
    rw [rounds_succ]
    go_wp2
    go_ret
    refine ⟨ret_int (by rw [pre_zero]; simp), ?_, OnlyIn.refl _ _⟩
    rw [mkF_zero]; exact HM.out
  · have hun : U.length = n := by rw [h.len, hn']
    rw [hun]
    have HU := Lib.hid hun
    clear hn' hr h hun
    go_enter Try.func46, Try.ntmps46
    go_wp2_with fail
    go_loopw [1, 5] (fun q i wr => ∃ j : Nat, j ≤ n ∧ i = .int .i64 j ∧ q = .int .i64 (k + pre Z j) ∧ Rws wr lo U (mkF j k Z) ∧ OnlyIn U w wr) (fun _ i _ => n - (intOf i).toNat)
    case atStart => exact ⟨0, Nat.zero_le _, rfl, by rw [pre_zero]; simp, by rw [mkF_zero]; exact HM.out.rows, OnlyIn.refl _ _⟩
    case round =>
      obtain ⟨j, hj, rfl, rfl, hrows, honly⟩ := hrel
      obtain ⟨wo, rfl⟩ : ∃ wo : World, wo = wr := ⟨_, rfl⟩
      have hout := own_only HM.out.outer honly HNE.out
      have HOL := Lib.hid honly
      by_cases hlt : j < n
      · have hju : j < U.length := by rw [HU.out]; exact hlt
        have hjz : j < Z.length := by rw [← HZ.out]; exact hlt
        have c0 := hout.cellAt j (by rw [HU.out]; omega)
        rw [List.getElem?_eq_getElem hju] at c0
        have hget := mkF_get j k Z j hjz
        rw [if_neg (Nat.lt_irrefl _)] at hget
        have hp := HP.out j (by omega)
        have hp1 := HP.out (j + 1) (by omega)
        have hps := pre_succ Z j hjz
        have hown := hrows.row j _ _ (List.getElem?_eq_getElem hju) hget
        have hlen := HR.out _ (List.getElem_mem hjz)
        obtain ⟨z, hz⟩ : ∃ z, z = pre Z j := ⟨_, rfl⟩
        have HC := Lib.hid (markI U[j] Z[j] lo (k + z) (by omega) (by rw [hz]; omega) wo hown hlen)
        have HNXT : Hid (∀ (w' : World) , OwnsI w' lo U[j] (marks (k + z) Z[j].length) → wo.grownBy w' U[j].ownBlock → Rws w' lo U (mkF (j + 1) k Z) ∧ OnlyIn U w w') := Lib.hid (fun w' ho hg => by
          refine ⟨?_, HOL.out.trans (OnlyIn.of_grown hg (List.getElem_mem hju))⟩
          have := hrows.mark (List.getElem?_eq_getElem hju) hg ho
          rw [hz] at this
          rwa [mkF_set j k Z hjz] at this)
        have HPS : Hid (pre Z (j + 1) = z + Z[j].length) := Lib.hid (by rw [hz]; exact hps)
        obtain ⟨A2, c2, hA2⟩ := own_slice hown
        rw [← hz]
        have hsum0 : (0 : Int) ≤ z := by omega
        have hsum1 : (z : Int) ≤ 1099511627776 := by rw [hz]; omega
        have hl0 : (Z[j].length : Int) ≤ 1048576 := by omega
        rw [hA2] at c0 HC HNXT
        generalize Z[j].length = L at *
        clear hout hrows honly hget hp hp1 hps hown hlen hz hA2 hju hjz
        go_wp2_with fail
        refine HC.out.mono ?_
        rintro e w5 ⟨rfl, ho5, hg5⟩
        have HO := Lib.hid (HNXT.out w5 ho5 hg5)
        clear ho5 hg5
        go_wp2_with fail
        go_roundw
        case rel => exact ⟨j + 1, by omega, by go_num, by rw [HPS.out]; go_num, HO.out.1, HO.out.2⟩
        case measure => simp [intOf]; omega
      · obtain rfl : j = n := by omega
        have HF : Hid (OwnM wo lo (.slice (some ⟨g, 0, none⟩) j c) U (mkF j k Z) ∧ OnlyIn U w wo) := Lib.hid ⟨⟨by rw [HU.out] at hout ⊢; exact hout, hrows⟩, honly⟩
        clear hout hrows honly HOL
        go_wp2_with fail
        go_ret
        exact ⟨rfl, HF.out.1, HF.out.2⟩
set_option maxRecDepth 100000 in
set_option maxHeartbeats 1600000 in
theorem heldLL (v : Value) (U : List Value) (Z : List (List Int)) (lo : Nat) (k : Int) (w : World) (hn : Z.length ≤ 1048576) (hr : ∀ r ∈ Z, r.length ≤ 1048576) (hk0 : 0 ≤ k) (hk1 : k ≤ 2097152) (h : OwnM w lo v U (mkF Z.length k Z)) :
    Calls Try.prog 47 #[v, .int .i64 k] w fun e w' => e = .returned (.int .i64 (k + pre Z Z.length)) ∧ w = w' := by
  have HM := Lib.hid h
  have hlen := h.len
  rw [mkF_len] at hlen
  have HP := Lib.hid (fun j hj => pre_le Z 1048576 hr j hj)
  have HR := Lib.hid hr
  obtain ⟨n, hn'⟩ : ∃ n, n = Z.length := ⟨_, rfl⟩
  rw [← hn'] at hn ⊢
  have HZ := Lib.hid hn'
  rcases h.shape with ⟨rfl, h0⟩ | ⟨g, c, rfl, _⟩
  · have : n = 0 := by rw [hn', ← hlen, h0]; rfl
    subst this
    clear hn' hr h hlen
    go_enter Try.func47, Try.ntmps47
    go_wp2
    refine wp_loop_rounds 1 ?_
    rw [rounds_succ]
    go_wp2
    go_ret
    exact ⟨ret_int (by rw [pre_zero]; simp), rfl⟩
  · have hun : U.length = n := by rw [hlen, hn']
    rw [hun]
    have HU := Lib.hid hun
    clear hn' hr h hun hlen
    go_enter Try.func47, Try.ntmps47
    go_wp2_with fail
    go_loopw [1, 5] (fun q i wr => ∃ j : Nat, j ≤ n ∧ i = .int .i64 j ∧ q = .int .i64 (k + pre Z j) ∧ wr = w) (fun _ i _ => n - (intOf i).toNat)
    case atStart => exact ⟨0, Nat.zero_le _, rfl, by rw [pre_zero]; simp, rfl⟩
    case round =>
      obtain ⟨j, hj, rfl, rfl, rfl⟩ := hrel
      by_cases hlt : j < n
      · have hju : j < U.length := by rw [HU.out]; exact hlt
        have hjz : j < Z.length := by rw [← HZ.out]; exact hlt
        have c0 := HM.out.outer.cellAt j (by rw [HU.out]; omega)
        rw [List.getElem?_eq_getElem hju] at c0
        have hget := mkF_get Z.length k Z j hjz
        rw [if_pos hjz] at hget
        have hp := HP.out j (by omega)
        have hp1 := HP.out (j + 1) (by omega)
        have hps := pre_succ Z j hjz
        have hown := HM.out.rows.row j _ _ (List.getElem?_eq_getElem hju) hget
        have hlen := HR.out _ (List.getElem_mem hjz)
        obtain ⟨z, hz⟩ : ∃ z, z = pre Z j := ⟨_, rfl⟩
        have HC := Lib.hid (heldI U[j] Z[j].length lo (k + z) (by omega) (by rw [hz]; omega) wr (by rw [hz]; exact hown) hlen)
        have HPS : Hid (pre Z (j + 1) = z + Z[j].length) := Lib.hid (by rw [hz]; exact hps)
        obtain ⟨A2, c2, hA2⟩ := own_slice hown
        rw [marks_len] at hA2
        rw [← hz]
        have hsum0 : (0 : Int) ≤ z := by omega
        have hsum1 : (z : Int) ≤ 1099511627776 := by rw [hz]; omega
        have hl0 : (Z[j].length : Int) ≤ 1048576 := by omega
        have hnn : ¬ (k + (z : Int) + (Z[j].length : Int) < 0) := by omega
        rw [hA2] at c0 HC
        generalize Z[j].length = L at *
        clear hget hp hp1 hps hown hlen hz hA2 hju hjz
        go_wp2_with fail
        refine HC.out.mono ?_
        rintro e w5 ⟨rfl, rfl⟩
        go_wp2_with fail
        go_roundw
        case rel => exact ⟨j + 1, by omega, by go_num, by rw [HPS.out]; go_num, by first | rfl | trivial⟩
        case measure => simp [intOf]; omega
      · obtain rfl : j = n := by omega
        go_wp2_with fail
        go_ret
        exact ⟨rfl, rfl⟩
/-- an automaton's value that the call owns -/
structure OwnA (w : World) (lo : Nat) (f n : Value) (U : List Value) (fin : List Int) (nx : List (List Int)) : Prop where
  fin : OwnsI w lo f fin
  nx : OwnM w lo n U nx
  ne : ∀ u ∈ U, f.ownBlock = none ∨ f.ownBlock ≠ u.ownBlock
theorem OwnA.kept {w w' : World} {lo : Nat} {f n : Value} {U : List Value} {fin : List Int} {nx : List (List Int)} (h : OwnA w lo f n U fin nx) (hb : Below w.heap.size w w') : OwnA w' lo f n U fin nx :=
  ⟨own_below h.fin hb (Nat.le_refl _), h.nx.kept hb, h.ne⟩
theorem OwnA.lower {w : World} {lo B : Nat} {f n : Value} {U : List Value} {fin : List Int} {nx : List (List Int)} (h : OwnA w lo f n U fin nx) (hb : B ≤ lo) : OwnA w B f n U fin nx :=
  ⟨own_lower h.fin hb, h.nx.lower hb, h.ne⟩
theorem OwnA.blocks {w : World} {lo : Nat} {f n : Value} {U : List Value} {fin : List Int} {nx : List (List Int)} (h : OwnA w lo f n U fin nx) : ∀ u ∈ f :: U, ∀ q, u.ownBlock = some q → lo ≤ q ∧ q < w.heap.size := by
  intro u hu q hq
  rcases List.mem_cons.1 hu with rfl | hu
  · exact h.fin.lt q hq
  · exact h.nx.rows.ge u hu q hq
theorem OwnA.only {w w' : World} {lo : Nat} {f n : Value} {U V : List Value} {fin : List Int} {nx : List (List Int)} (h : OwnA w lo f n U fin nx) (ho : OnlyIn V w w') (hV : ∀ u ∈ V, ∀ q, u.ownBlock = some q → q < lo) : OwnA w' lo f n U fin nx := by
  refine ⟨own_only h.fin ho (fun u hu => ?_), h.nx.only ho hV, h.ne⟩
  cases hq : u.ownBlock with
  | none => exact .inl rfl
  | some q =>
    refine .inr fun e => ?_
    have h1 := hV u hu q hq
    have h2 := (h.fin.lt q e.symm).1
    omega
theorem OwnA.isAu {w : World} {lo : Nat} {f n : Value} {U : List Value} {x : Au} (h : OwnA w lo f n U x.fin x.nx) : IsAu w (.agg #[.int .i64 x.st, .int .i64 x.go, f, n]) x :=
  ⟨f, n, rfl, IsL.of_own h.fin, h.nx.isLL⟩
/-- how many numbers an automaton holds -/
def auN (x : Au) : Int := x.fin.length + pre x.nx x.nx.length
set_option maxRecDepth 100000 in
set_option maxHeartbeats 1600000 in
theorem markAu (f n : Value) (U : List Value) (x : Au) (lo : Nat) (w : World) (hf : FewA x) (h : OwnA w lo f n U x.fin x.nx) :
    Calls Try.prog 27 #[.agg #[.int .i64 x.st, .int .i64 x.go, f, n], .int .i64 1] w fun e w' => e = .returned (.int .i64 (1 + auN x)) ∧ OwnA w' lo f n U (marks 1 x.fin.length) (mkF x.nx.length (1 + x.fin.length) x.nx) ∧ OnlyIn (f :: U) w w' := by
  have hb := (Below.refl _ w).alloc (Nat.le_refl _) (.cells #[.int .i64 x.st, .int .i64 x.go, f, n] 39)
  have hP := heap_alloc_new w (.cells #[.int .i64 x.st, .int .i64 x.go, f, n] 39)
  have ha := h.kept hb
  have hfl := hf.fin
  have HF := Lib.hid (markI f x.fin lo 1 (by omega) (by omega) _ ha.fin hf.fin)
  have HNX : Hid (∀ w', OwnsI w' lo f (marks 1 x.fin.length) → (w.alloc (.cells #[.int .i64 x.st, .int .i64 x.go, f, n] 39)).grownBy w' f.ownBlock → OwnM w' lo n U x.nx ∧ w'.heap[w.heap.size]? = some (.cells #[.int .i64 x.st, .int .i64 x.go, f, n] 39 (0, 0))) := Lib.hid (fun w' ho hg => by
    have hg' : OnlyIn [f] (w.alloc (.cells #[.int .i64 x.st, .int .i64 x.go, f, n] 39)) w' := OnlyIn.of_grown hg (by simp)
    refine ⟨⟨own_only ha.nx.outer hg' (fun u hu => ?_), ?_⟩, ?_⟩
    · obtain rfl : u = f := by simpa using hu
      exact own_kinds_ne ha.fin ha.nx.outer (by decide)
    · refine ⟨ha.nx.rows.len, fun j u zs h1 h2 => own_only (ha.nx.rows.row j u zs h1 h2) hg' (fun y hy => ?_), ha.nx.rows.ne⟩
      obtain rfl : y = f := by simpa using hy
      exact ha.ne u (List.mem_iff_getElem?.2 ⟨j, h1⟩)
    · rw [hg.block w.heap.size (by simp) (fun e => by have := (h.fin.lt _ e.symm).2; omega)]
      exact hP)
  have HM := Lib.hid (fun W (hW : OwnM W lo n U x.nx) => markLL n U x.nx lo (1 + x.fin.length) W hf.nx hf.row (by omega) (by omega) hW)
  have HFIN : Hid (∀ w1 w2, OwnsI w1 lo f (marks 1 x.fin.length) → (w.alloc (.cells #[.int .i64 x.st, .int .i64 x.go, f, n] 39)).grownBy w1 f.ownBlock → OwnM w2 lo n U (mkF x.nx.length (1 + x.fin.length) x.nx) → OnlyIn U w1 w2 → OwnA w2 lo f n U (marks 1 x.fin.length) (mkF x.nx.length (1 + x.fin.length) x.nx) ∧ OnlyIn (f :: U) w w2) := Lib.hid (fun w1 w2 h1 h2 h3 h4 => by
    refine ⟨⟨own_only h1 h4 (fun u hu => ?_), h3, h.ne⟩, ?_⟩
    · rcases h.ne u hu with h5 | h5
      · cases hq : u.ownBlock with
        | none => exact .inl rfl
        | some q => exact .inr (by rw [h5]; simp)
      · exact .inr fun e => h5 e.symm
    · exact ((OnlyIn.of_below hb).trans (OnlyIn.of_grown h2 (by simp))).trans (h4.mono fun u hu => by simp [hu]))
  have hb0 : 0 ≤ (x.fin.length : Int) := by omega
  have hb1 : (x.fin.length : Int) ≤ 1048576 := by omega
  obtain ⟨Af, cf, rfl⟩ := own_slice h.fin
  obtain ⟨An, cn, rfl⟩ := own_slice h.nx.outer
  obtain ⟨⟨p0, p1, p2, p3⟩, _⟩ := blk4_cells hP
  clear hb hP ha hf h hfl
  unfold auN
  generalize x.fin.length = N at *
  go_enter Try.func27, Try.ntmps27
  go_wp2_with fail
  refine HF.out.mono ?_
  rintro e w1 ⟨rfl, ho1, hg1⟩
  have HN1 := Lib.hid (HNX.out w1 ho1 hg1)
  have HF1 := Lib.hid (fun w2 => HFIN.out w1 w2 ho1 hg1)
  clear ho1 hg1 p0 p1 p2 p3
  obtain ⟨⟨p0, p1, p2, p3⟩, _⟩ := blk4_cells HN1.out.2
  go_wp2_with fail
  refine (HM.out _ HN1.out.1).mono ?_
  rintro e w2 ⟨rfl, ho2, hg2⟩
  have HR := Lib.hid (HF1.out w2 ho2 hg2)
  clear ho2 hg2 p0 p1 p2 p3
  go_wp2_with fail
  go_ret
  exact ⟨ret_int (by omega), HR.out.1, HR.out.2⟩
set_option maxRecDepth 100000 in
set_option maxHeartbeats 1600000 in
theorem heldAu (f n : Value) (U : List Value) (x : Au) (lo : Nat) (w : World) (hf : FewA x) (h : OwnA w lo f n U (marks 1 x.fin.length) (mkF x.nx.length (1 + x.fin.length) x.nx)) :
    Calls Try.prog 28 #[.agg #[.int .i64 x.st, .int .i64 x.go, f, n], .int .i64 1] w fun e w' => e = .returned (.int .i64 (1 + auN x)) ∧ Below w.heap.size w w' := by
  have hb := (Below.refl _ w).alloc (Nat.le_refl _) (.cells #[.int .i64 x.st, .int .i64 x.go, f, n] 39)
  have hP := heap_alloc_new w (.cells #[.int .i64 x.st, .int .i64 x.go, f, n] 39)
  have ha := h.kept hb
  have hfl := hf.fin
  have HF := Lib.hid (heldI f x.fin.length lo 1 (by omega) (by omega) _ ha.fin hf.fin)
  have HM := Lib.hid (heldLL n U x.nx lo (1 + x.fin.length) _ hf.nx hf.row (by omega) (by omega) ha.nx)
  have HB := Lib.hid hb
  have hpb := pre_le x.nx 1048576 hf.row x.nx.length (Nat.le_refl _)
  have hpn := hf.nx
  have hb0 : 0 ≤ (x.fin.length : Int) := by omega
  have hb1 : (x.fin.length : Int) ≤ 1048576 := by omega
  have hq0 : (0 : Int) ≤ (pre x.nx x.nx.length : Int) := by omega
  have hn1 : ¬ (1 + (x.fin.length : Int) < 0) := by omega
  have hn2 : ¬ (1 + (x.fin.length : Int) + (pre x.nx x.nx.length : Int) < 0) := by omega
  obtain ⟨Af, cf, rfl⟩ := own_slice h.fin
  obtain ⟨An, cn, rfl⟩ := own_slice h.nx.outer
  obtain ⟨⟨p0, p1, p2, p3⟩, _⟩ := blk4_cells hP
  clear hb hP ha hf h hfl hpb hpn
  unfold auN
  generalize x.fin.length = N at *
  generalize pre x.nx x.nx.length = P at *
  go_enter Try.func28, Try.ntmps28
  go_wp2_with fail
  refine HF.out.mono ?_
  rintro e w1 ⟨rfl, rfl⟩
  go_wp2_with fail
  refine HM.out.mono ?_
  rintro e w1 ⟨rfl, rfl⟩
  go_wp2_with fail
  go_ret
  exact ⟨ret_int (by omega), HB.out⟩
end Go.Proofs.Ytddjcgaejjldbaa
