/-
  Walks: laws.markInt64SS, laws.heldInt64SS, laws.markAuto, laws.heldAuto at what the call owns; for seats whose other texts take Mat2's short form.
-/
import Derived.Test.YtaffachjopjbgaaMat2
namespace Go.Proofs.Ytaffachjopjbgaa
open Go.RowKit
open Wd
set_option linter.unusedVariables false
set_option maxRecDepth 100000 in
set_option maxHeartbeats 1600000 in
theorem markLL (v : Value) (U : List Value) (Z : List (List Int)) (lo : Nat) (k : Int) (w : World) (hn : Z.length ≤ 1048576) (hr : ∀ r ∈ Z, r.length ≤ 1048576) (hk0 : 0 ≤ k) (hk1 : k ≤ 2097152) (h : OwnM w lo v U Z) :
    Calls Try.prog 53 #[v, .int .i64 k] w fun e w' => e = .returned (.int .i64 (k + pre Z Z.length)) ∧ OwnM w' lo v U (mkF Z.length k Z) ∧ OnlyIn U w w' := by
  have HM := Lib.hid h
  have HN := Lib.hid h.len
  have HP := Lib.hid (fun j hj => pre_le Z 1048576 hr j hj)
  have HR := Lib.hid hr
  have HNE := Lib.hid h.ne
  obtain ⟨n, hn'⟩ : ∃ n, n = Z.length := ⟨_, rfl⟩
  rw [← hn'] at hn ⊢
  have HZ := Lib.hid hn'
  rcases h.shape with ⟨rfl, h0⟩ | ⟨g, c, rfl, _⟩
  · have : n = 0 := by rw [hn', ← h.len, h0]; rfl
    subst this
    clear hn' hr h
    go_enter Try.func53, Try.ntmps53
    go_wp2
    refine wp_loop_rounds 1 ?_
    rw [rounds_succ]
    go_wp2
    go_ret
    refine ⟨ret_int (by rw [pre_zero]; simp), ?_, OnlyIn.refl _ _⟩
    rw [mkF_zero]; exact HM.out
  · have hun : U.length = n := by rw [h.len, hn']
    rw [hun]
    have HU := Lib.hid hun
    clear hn' hr h hun
    go_enter Try.func53, Try.ntmps53
    go_wp2_with fail
    go_loopw [1, 5] (fun q i wr => ∃ j : Nat, j ≤ n ∧ i = .int .i64 j ∧ q = .int .i64 (k + pre Z j) ∧ Rws wr lo U (mkF j k Z) ∧ OnlyIn U w wr) (fun _ i _ => n - (intOf i).toNat)
    case atStart => exact ⟨0, Nat.zero_le _, rfl, by rw [pre_zero]; simp, by rw [mkF_zero]; exact HM.out.rows, OnlyIn.refl _ _⟩
    case round =>
      obtain ⟨j, hj, rfl, rfl, hrows, honly⟩ := hrel
      obtain ⟨wo, rfl⟩ : ∃ wo : World, wo = wr := ⟨_, rfl⟩
      have hout := own_only HM.out.outer honly HNE.out
      have HOL := Lib.hid honly
      by_cases hlt : j < n
      · have hju : j < U.length := by rw [HU.out]; exact hlt
        have hjz : j < Z.length := by rw [← HZ.out]; exact hlt
        have c0 := hout.cellAt j (by rw [HU.out]; omega)
        rw [List.getElem?_eq_getElem hju] at c0
        have hget := mkF_get j k Z j hjz
        rw [if_neg (Nat.lt_irrefl _)] at hget
        have hp := HP.out j (by omega)
        have hp1 := HP.out (j + 1) (by omega)
        have hps := pre_succ Z j hjz
        have hown := hrows.row j _ _ (List.getElem?_eq_getElem hju) hget
        have hlen := HR.out _ (List.getElem_mem hjz)
        obtain ⟨z, hz⟩ : ∃ z, z = pre Z j := ⟨_, rfl⟩
        have HC := Lib.hid (markI U[j] Z[j] lo (k + z) (by omega) (by rw [hz]; omega) wo hown hlen)
        have HNXT : Hid (∀ (w' : World) , OwnsI w' lo U[j] (marks (k + z) Z[j].length) → wo.grownBy w' U[j].ownBlock → Rws w' lo U (mkF (j + 1) k Z) ∧ OnlyIn U w w') := Lib.hid (fun w' ho hg => by
          refine ⟨?_, HOL.out.trans (OnlyIn.of_grown hg (List.getElem_mem hju))⟩
          have := hrows.mark (List.getElem?_eq_getElem hju) hg ho
          rw [hz] at this
          rwa [mkF_set j k Z hjz] at this)
        have HPS : Hid (pre Z (j + 1) = z + Z[j].length) := Lib.hid (by rw [hz]; exact hps)
        obtain ⟨A2, c2, hA2⟩ := own_slice hown
        rw [← hz]
        have hsum0 : (0 : Int) ≤ z := by omega
        have hsum1 : (z : Int) ≤ 1099511627776 := by rw [hz]; omega
        have hl0 : (Z[j].length : Int) ≤ 1048576 := by omega
        rw [hA2] at c0 HC HNXT
        generalize Z[j].length = L at *
        clear hout hrows honly hget hp hp1 hps hown hlen hz hA2 hju hjz
        go_wp2_with fail
        refine HC.out.mono ?_
        rintro e w5 ⟨rfl, ho5, hg5⟩
        have HO := Lib.hid (HNXT.out w5 ho5 hg5)
        clear ho5 hg5
        go_wp2_with fail
        go_roundw
        case rel => exact ⟨j + 1, by omega, by go_num, by rw [HPS.out]; go_num, HO.out.1, HO.out.2⟩
        case measure => simp [intOf]; omega
      · obtain rfl : j = n := by omega
        have HF : Hid (OwnM wo lo (.slice (some ⟨g, 0, none⟩) j c) U (mkF j k Z) ∧ OnlyIn U w wo) := Lib.hid ⟨⟨by rw [HU.out] at hout ⊢; exact hout, hrows⟩, honly⟩
        clear hout hrows honly HOL
        go_wp2_with fail
        go_ret
        exact ⟨rfl, HF.out.1, HF.out.2⟩
set_option maxRecDepth 100000 in
set_option maxHeartbeats 1600000 in
theorem heldLL (v : Value) (U : List Value) (Z : List (List Int)) (lo : Nat) (k : Int) (w : World) (hn : Z.length ≤ 1048576) (hr : ∀ r ∈ Z, r.length ≤ 1048576) (hk0 : 0 ≤ k) (hk1 : k ≤ 2097152) (h : OwnM w lo v U (mkF Z.length k Z)) :
    Calls Try.prog 54 #[v, .int .i64 k] w fun e w' => e = .returned (.int .i64 (k + pre Z Z.length)) ∧ w = w' := by
  have HM := Lib.hid h
  have hlen := h.len
  rw [mkF_len] at hlen
  have HP := Lib.hid (fun j hj => pre_le Z 1048576 hr j hj)
  have HR := Lib.hid hr
  obtain ⟨n, hn'⟩ : ∃ n, n = Z.length := ⟨_, rfl⟩
  rw [← hn'] at hn ⊢
  have HZ := Lib.hid hn'
  rcases h.shape with ⟨rfl, h0⟩ | ⟨g, c, rfl, _⟩
  · have : n = 0 := by rw [hn', ← hlen, h0]; rfl
    subst this
    clear hn' hr h hlen
    go_enter Try.func54, Try.ntmps54
    go_wp2
    refine wp_loop_rounds 1 ?_
    rw [rounds_succ]
    go_wp2
    go_ret
    exact ⟨ret_int (by rw [pre_zero]; simp), rfl⟩
  · have hun : U.length = n := by rw [hlen, hn']
    rw [hun]
    have HU := Lib.hid hun
    clear hn' hr h hun hlen
    go_enter Try.func54, Try.ntmps54
    go_wp2_with fail
    go_loopw [1, 5] (fun q i wr => ∃ j : Nat, j ≤ n ∧ i = .int .i64 j ∧ q = .int .i64 (k + pre Z j) ∧ wr = w) (fun _ i _ => n - (intOf i).toNat)
    case atStart => exact ⟨0, Nat.zero_le _, rfl, by rw [pre_zero]; simp, rfl⟩
    case round =>
      obtain ⟨j, hj, rfl, rfl, rfl⟩ := hrel
      by_cases hlt : j < n
      · have hju : j < U.length := by rw [HU.out]; exact hlt
        have hjz : j < Z.length := by rw [← HZ.out]; exact hlt
        have c0 := HM.out.outer.cellAt j (by rw [HU.out]; omega)
        rw [List.getElem?_eq_getElem hju] at c0
        have hget := mkF_get Z.length k Z j hjz
        rw [if_pos hjz] at hget
        have hp := HP.out j (by omega)
        have hp1 := HP.out (j + 1) (by omega)
        have hps := pre_succ Z j hjz
        have hown := HM.out.rows.row j _ _ (List.getElem?_eq_getElem hju) hget
        have hlen := HR.out _ (List.getElem_mem hjz)
        obtain ⟨z, hz⟩ : ∃ z, z = pre Z j := ⟨_, rfl⟩
        have HC := Lib.hid (heldI U[j] Z[j].length lo (k + z) (by omega) (by rw [hz]; omega) wr (by rw [hz]; exact hown) hlen)
        have HPS : Hid (pre Z (j + 1) = z + Z[j].length) := Lib.hid (by rw [hz]; exact hps)
        obtain ⟨A2, c2, hA2⟩ := own_slice hown
        rw [marks_len] at hA2
        rw [← hz]
        have hsum0 : (0 : Int) ≤ z := by omega
        have hsum1 : (z : Int) ≤ 1099511627776 := by rw [hz]; omega
        have hl0 : (Z[j].length : Int) ≤ 1048576 := by omega
        have hnn : ¬ (k + (z : Int) + (Z[j].length : Int) < 0) := by omega
        rw [hA2] at c0 HC
        generalize Z[j].length = L at *
        clear hget hp hp1 hps hown hlen hz hA2 hju hjz
        go_wp2_with fail
        refine HC.out.mono ?_
        rintro e w5 ⟨rfl, rfl⟩
        go_wp2_with fail
        go_roundw
        case rel => exact ⟨j + 1, by omega, by go_num, by rw [HPS.out]; go_num, by first | rfl | trivial⟩
        case measure => simp [intOf]; omega
      · obtain rfl : j = n := by omega
        go_wp2_with fail
        go_ret
        exact ⟨rfl, rfl⟩
set_option maxRecDepth 100000 in
set_option maxHeartbeats 1600000 in
theorem markAu (f n : Value) (U : List Value) (x : Au) (lo : Nat) (w : World) (hf : FewA x) (h : OwnA w lo f n U x.fin x.nx) :
    Calls Try.prog 36 #[.agg #[.int .i64 x.st, .int .i64 x.go, f, n], .int .i64 1] w fun e w' => e = .returned (.int .i64 (1 + auN x)) ∧ OwnA w' lo f n U (marks 1 x.fin.length) (mkF x.nx.length (1 + x.fin.length) x.nx) ∧ OnlyIn (f :: U) w w' := by
  have hb := (Below.refl _ w).alloc (Nat.le_refl _) (.cells #[.int .i64 x.st, .int .i64 x.go, f, n] 33)
  have hP := heap_alloc_new w (.cells #[.int .i64 x.st, .int .i64 x.go, f, n] 33)
  have ha := h.kept hb
  have hfl := hf.fin
  have HF := Lib.hid (markI f x.fin lo 1 (by omega) (by omega) _ ha.fin hf.fin)
  have HNX : Hid (∀ w', OwnsI w' lo f (marks 1 x.fin.length) → (w.alloc (.cells #[.int .i64 x.st, .int .i64 x.go, f, n] 33)).grownBy w' f.ownBlock → OwnM w' lo n U x.nx ∧ w'.heap[w.heap.size]? = some (.cells #[.int .i64 x.st, .int .i64 x.go, f, n] 33 (0, 0))) := Lib.hid (fun w' ho hg => by
    have hg' : OnlyIn [f] (w.alloc (.cells #[.int .i64 x.st, .int .i64 x.go, f, n] 33)) w' := OnlyIn.of_grown hg (by simp)
    refine ⟨⟨own_only ha.nx.outer hg' (fun u hu => ?_), ?_⟩, ?_⟩
    · obtain rfl : u = f := by simpa using hu
      exact own_kinds_ne ha.fin ha.nx.outer (by decide)
    · refine ⟨ha.nx.rows.len, fun j u zs h1 h2 => own_only (ha.nx.rows.row j u zs h1 h2) hg' (fun y hy => ?_), ha.nx.rows.ne⟩
      obtain rfl : y = f := by simpa using hy
      exact ha.ne u (List.mem_iff_getElem?.2 ⟨j, h1⟩)
    · rw [hg.block w.heap.size (by simp) (fun e => by have := (h.fin.lt _ e.symm).2; omega)]
      exact hP)
  have HM := Lib.hid (fun W (hW : OwnM W lo n U x.nx) => markLL n U x.nx lo (1 + x.fin.length) W hf.nx hf.row (by omega) (by omega) hW)
  have HFIN : Hid (∀ w1 w2, OwnsI w1 lo f (marks 1 x.fin.length) → (w.alloc (.cells #[.int .i64 x.st, .int .i64 x.go, f, n] 33)).grownBy w1 f.ownBlock → OwnM w2 lo n U (mkF x.nx.length (1 + x.fin.length) x.nx) → OnlyIn U w1 w2 → OwnA w2 lo f n U (marks 1 x.fin.length) (mkF x.nx.length (1 + x.fin.length) x.nx) ∧ OnlyIn (f :: U) w w2) := Lib.hid (fun w1 w2 h1 h2 h3 h4 => by
    refine ⟨⟨own_only h1 h4 (fun u hu => ?_), h3, h.ne⟩, ?_⟩
    · rcases h.ne u hu with h5 | h5
      · cases hq : u.ownBlock with
        | none => exact .inl rfl
        | some q => exact .inr (by rw [h5]; simp)
      · exact .inr fun e => h5 e.symm
    · exact ((OnlyIn.of_below hb).trans (OnlyIn.of_grown h2 (by simp))).trans (h4.mono fun u hu => by simp [hu]))
  have hb0 : 0 ≤ (x.fin.length : Int) := by omega
  have hb1 : (x.fin.length : Int) ≤ 1048576 := by omega
  obtain ⟨Af, cf, rfl⟩ := own_slice h.fin
  obtain ⟨An, cn, rfl⟩ := own_slice h.nx.outer
  obtain ⟨⟨p0, p1, p2, p3⟩, _⟩ := blk4_cells hP
  clear hb hP ha hf h hfl
  unfold auN
  generalize x.fin.length = N at *
  go_enter Try.func36, Try.ntmps36
  go_wp2_with fail
  refine HF.out.mono ?_
  rintro e w1 ⟨rfl, ho1, hg1⟩
  have HN1 := Lib.hid (HNX.out w1 ho1 hg1)
  have HF1 := Lib.hid (fun w2 => HFIN.out w1 w2 ho1 hg1)
  clear ho1 hg1 p0 p1 p2 p3
  obtain ⟨⟨p0, p1, p2, p3⟩, _⟩ := blk4_cells HN1.out.2
  go_wp2_with fail
  refine (HM.out _ HN1.out.1).mono ?_
  rintro e w2 ⟨rfl, ho2, hg2⟩
  have HR := Lib.hid (HF1.out w2 ho2 hg2)
  clear ho2 hg2 p0 p1 p2 p3
  go_wp2_with fail
  go_ret
  exact ⟨ret_int (by omega), HR.out.1, HR.out.2⟩
set_option maxRecDepth 100000 in
set_option maxHeartbeats 1600000 in
theorem heldAu (f n : Value) (U : List Value) (x : Au) (lo : Nat) (w : World) (hf : FewA x) (h : OwnA w lo f n U (marks 1 x.fin.length) (mkF x.nx.length (1 + x.fin.length) x.nx)) :
    Calls Try.prog 42 #[.agg #[.int .i64 x.st, .int .i64 x.go, f, n], .int .i64 1] w fun e w' => e = .returned (.int .i64 (1 + auN x)) ∧ Below w.heap.size w w' := by
  have hb := (Below.refl _ w).alloc (Nat.le_refl _) (.cells #[.int .i64 x.st, .int .i64 x.go, f, n] 33)
  have hP := heap_alloc_new w (.cells #[.int .i64 x.st, .int .i64 x.go, f, n] 33)
  have ha := h.kept hb
  have hfl := hf.fin
  have HF := Lib.hid (heldI f x.fin.length lo 1 (by omega) (by omega) _ ha.fin hf.fin)
  have HM := Lib.hid (heldLL n U x.nx lo (1 + x.fin.length) _ hf.nx hf.row (by omega) (by omega) ha.nx)
  have HB := Lib.hid hb
  have hpb := pre_le x.nx 1048576 hf.row x.nx.length (Nat.le_refl _)
  have hpn := hf.nx
  have hb0 : 0 ≤ (x.fin.length : Int) := by omega
  have hb1 : (x.fin.length : Int) ≤ 1048576 := by omega
  have hq0 : (0 : Int) ≤ (pre x.nx x.nx.length : Int) := by omega
  have hn1 : ¬ (1 + (x.fin.length : Int) < 0) := by omega
  have hn2 : ¬ (1 + (x.fin.length : Int) + (pre x.nx x.nx.length : Int) < 0) := by omega
  obtain ⟨Af, cf, rfl⟩ := own_slice h.fin
  obtain ⟨An, cn, rfl⟩ := own_slice h.nx.outer
  obtain ⟨⟨p0, p1, p2, p3⟩, _⟩ := blk4_cells hP
  clear hb hP ha hf h hfl hpb hpn
  unfold auN
  generalize x.fin.length = N at *
  generalize pre x.nx x.nx.length = P at *
  go_enter Try.func42, Try.ntmps42
  go_wp2_with fail
  refine HF.out.mono ?_
  rintro e w1 ⟨rfl, rfl⟩
  go_wp2_with fail
  refine HM.out.mono ?_
  rintro e w1 ⟨rfl, rfl⟩
  go_wp2_with fail
  go_ret
  exact ⟨ret_int (by omega), HB.out⟩
end Go.Proofs.Ytaffachjopjbgaa
