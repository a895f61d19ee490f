/-
  The walk of impl.validLengths.
-/
import Derived.Test.YtaffachjopjbgaaMeasL
import Derived.Laws.EntriesVeiled
namespace Go.Proofs.Ytaffachjopjbgaa.len
open Go.RowKit
open Wd
set_option linter.unusedVariables false

theorem made_inv {w w1 : World} {B : Nat} {gs : List Rl} {A : Option Addr} {c n t1 t2 t3 t4 : Nat} (V : Nat → Int) (hn : n = gs.length) (hBs : B ≤ w.heap.size)
    (hr : gs = [] ∨ ∃ g, A = some ⟨g, 0, none⟩ ∧ g < B ∧ ∀ j u, (rv gs)[j]? = some u → w.cell? ⟨g, j, none⟩ = some u)
    (hown : w1.ownsRow w.heap.size 2 1 (.slice (some ⟨w.heap.size + 1 + 1, 0, none⟩) n n) n (iv (List.replicate n 0)))
    (hg : ((w.alloc (.cells #[.slice A n c] t1)).alloc (.cells #[joinV] t2)).grownBy w1 none) :
    w.heap.size + 1 + 1 < w1.heap.size ∧ Below w.heap.size w ((w1.alloc (.cells #[.slice (some ⟨w.heap.size + 1 + 1, 0, none⟩) n n] t3)).alloc (.cells #[measV w1.heap.size w.heap.size (w.heap.size + 1) (w1.heap.size + 1)] t4)) ∧
    MInv B w1.heap.size w.heap.size (w.heap.size + 1) (w1.heap.size + 1) (w.heap.size + 1 + 1) joinV gs V ((w1.alloc (.cells #[.slice (some ⟨w.heap.size + 1 + 1, 0, none⟩) n n] t3)).alloc (.cells #[measV w1.heap.size w.heap.size (w.heap.size + 1) (w1.heap.size + 1)] t4)) := by
  have hlt : w.heap.size + 1 + 1 < w1.heap.size := (hown.lt _ rfl).2
  have hB1 := below_of_grown hg
  have hBw : Below w.heap.size w w1 := (((Below.refl _ w).alloc (Nat.le_refl _) _).alloc (by simp) _).trans (hB1.mono (by simp; omega))
  obtain ⟨o1, ho1⟩ : ∃ o1, o1 = Obj.cells #[.slice (some ⟨w.heap.size + 1 + 1, 0, none⟩) n n] t3 := ⟨_, rfl⟩
  obtain ⟨o2, ho2⟩ : ∃ o2, o2 = Obj.cells #[measV w1.heap.size w.heap.size (w.heap.size + 1) (w1.heap.size + 1)] t4 := ⟨_, rfl⟩
  have hBf : Below w1.heap.size w1 ((w1.alloc o1).alloc o2) := ((Below.refl _ w1).alloc (Nat.le_refl _) _).alloc (by simp) _
  have c1 : ((w1.alloc o1).alloc o2).cell? ⟨w1.heap.size, 0, none⟩ = some (.slice (some ⟨w.heap.size + 1 + 1, 0, none⟩) n n) := by
    rw [((Below.refl _ (w1.alloc o1)).alloc (Nat.le_refl _) o2).cell (p := ⟨w1.heap.size, 0, none⟩) (by simp), ho1]; exact cell_new _ _ _
  have c2 : ((w1.alloc o1).alloc o2).cell? ⟨w1.heap.size + 1, 0, none⟩ = some (measV w1.heap.size w.heap.size (w.heap.size + 1) (w1.heap.size + 1)) := by
    have := cell_new (w1.alloc o1) (measV w1.heap.size w.heap.size (w.heap.size + 1) (w1.heap.size + 1)) t4
    rw [ho2]
    simp at this ⊢
  have c3 : ((w1.alloc o1).alloc o2).cell? ⟨w.heap.size, 0, none⟩ = some (.slice A n c) := by
    rw [hBf.cell (p := ⟨w.heap.size, 0, none⟩) (by simp; omega), hB1.cell (p := ⟨w.heap.size, 0, none⟩) (by simp; omega), ((Below.refl _ (w.alloc _)).alloc (Nat.le_refl _) _).cell (p := ⟨w.heap.size, 0, none⟩) (by simp)]; exact cell_new _ _ _
  have c4 : ((w1.alloc o1).alloc o2).cell? ⟨w.heap.size + 1, 0, none⟩ = some joinV := by
    rw [hBf.cell (p := ⟨w.heap.size + 1, 0, none⟩) (by simp; omega), hB1.cell (p := ⟨w.heap.size + 1, 0, none⟩) (by simp)]
    have := cell_new (w.alloc (.cells #[.slice A n c] t1)) joinV t2
    simp at this ⊢
  have hBa := hBw.trans (hBf.mono (by omega))
  have hoF := own_below (own_below hown ((Below.refl _ w1).alloc (Nat.le_refl _) o1) (Nat.le_refl _)) ((Below.refl _ (w1.alloc o1)).alloc (Nat.le_refl _) o2) (Nat.le_refl _)
  rw [← ho1, ← ho2]
  refine ⟨hlt, hBa, ⟨by rw [← hn]; exact c1, ⟨_, c3, A, c, by rw [hn], ?_⟩, c4, c2, by omega, by omega, by omega, by omega, by omega, Nat.le_trans hBs hBa.size⟩, List.replicate n 0, by simp [hn], MemOk.zero _ _, by rw [← hn]; exact own_lower hoF hBs⟩
  rcases hr with hr | ⟨g, hA, hg', hc⟩
  · exact .inl hr
  · exact .inr ⟨g, hA, hg', fun j u hu => (hBa.cell (p := ⟨g, j, none⟩) (Nat.lt_of_lt_of_le hg' hBs)).trans (hc j u hu)⟩
theorem made_i64 (n : Nat) : (madeCells #[.int .i64 0] n).toList = iv (List.replicate n 0) := by
  apply List.ext_getElem
  · simp [madeCells, iv]
  · intro i h1 h2
    simp [madeCells, iv, Nat.mod_one]

set_option maxRecDepth 100000 in
set_option maxHeartbeats 3200000 in
/-- impl.measured at the join of lengths -/
theorem measured_any (B : Nat) (v : Value) (gs : List Rl) (w : World) (hn : gs.length ≤ 1048576) (hBs : B ≤ w.heap.size) (hr : RulesU B w v gs) :
    Calls Try.prog 210 #[v, joinV] w fun e w' => ∃ bm br bj bf M, e = .returned (measV bm br bj bf) ∧ (w.heap.size ≤ bm ∧ w.heap.size ≤ br ∧ w.heap.size ≤ bj ∧ w.heap.size ≤ bf ∧ w.heap.size ≤ M) ∧ MInv B bm br bj bf M joinV gs (lenV gs) w' ∧ Below w.heap.size w w' := by
  obtain ⟨i0, hi, hz0, hz1, hz2⟩ := info_parts Try.info_i64
  obtain ⟨A, c, rfl, hr⟩ := hr
  obtain ⟨n, hng⟩ : ∃ n, n = gs.length := ⟨_, rfl⟩
  rw [← hng] at hn ⊢
  have HN := Lib.hid hng
  have HR := Lib.hid hr
  have HBS := Lib.hid hBs
  clear hng hr hBs
  go_enter Try.func210, Try.ntmps210
  go_wp2_with (refine wpList_make_full _ rfl _ _ 22 rfl w.heap.size 2 i0 (.int .i64 0) 1 Try.underlying22 hi hz0 hz1 .i64 .i64 _ _ n rfl rfl rfl rfl (by rw [hz2]; omega) (by unfold maxLen; omega) (by simp; omega) ?_)
  intro w1 hown hg
  rw [made_i64] at hown
  have hm := made_inv (t3 := 22) (t4 := 120) (lenV gs) HN.out HBS.out HR.out hown hg
  have HM := Lib.hid hm
  clear hown hg hm
  go_wp2
  go_ret
  obtain ⟨h1, h2, h3⟩ := HM.out
  exact ⟨_, _, _, _, _, rfl, ⟨by omega, by omega, by omega, by omega, by omega⟩, h3, h2⟩

theorem mt_p (v : Value) (w : World) : (method 391 198 v "loop.example/g01133/impl.fits").run Try.prog w = .ok (254, v) w := by kernel_rfl
theorem mt_l (v : Value) (w : World) : (method 391 211 v "loop.example/g01133/impl.fits").run Try.prog w = .ok (256, v) w := by kernel_rfl
/-- a store elsewhere -/
theorem MInv.far {B bm br bj bf M : Nat} {jv : Value} {gs : List Rl} {V : Nat → Int} {w : World} (h : MInv B bm br bj bf M jv gs V w) (L k : Nat) (u : Value) (hL : B ≤ L) (h1 : L < bm) (h2 : L < br) (h3 : L < bj) (h4 : L < bf) (h5 : L < M) :
    MInv B bm br bj bf M jv gs V (w.setCell ⟨L, k, none⟩ u) := by
  obtain ⟨hs, mem, hl, hm, ho⟩ := h
  have hc : ∀ (b o : Nat) v, L ≠ b → w.cell? ⟨b, o, none⟩ = some v → (w.setCell ⟨L, k, none⟩ u).cell? ⟨b, o, none⟩ = some v := fun b o v hne hc => by
    rw [World.cell?_setCell_other _ _ _ _ (fun e => hne (congrArg Addr.block e))]; exact hc
  obtain ⟨v, hv, A, c, rfl, hr⟩ := hs.r
  refine ⟨⟨hc _ _ _ (by omega) hs.m, ⟨_, hc _ _ _ (by omega) hv, A, c, rfl, ?_⟩, hc _ _ _ (by omega) hs.j, hc _ _ _ (by omega) hs.f, hs.nm, hs.nr, hs.nj, hs.nf, hs.hB, by simpa [World.setCell] using hs.hs⟩, mem, hl, hm, ?_⟩
  · rcases hr with hr | ⟨g, hA, hg', hcc⟩
    · exact .inl hr
    · exact .inr ⟨g, hA, hg', fun j u' hu => hc _ _ _ (by omega) (hcc j u' hu)⟩
  · exact World.ownsRow.kept ho (only_setCell (World.grownBy.refl w (some L)) (.inl rfl) u) (.inr (by simp [Value.ownBlock]; omega))
/-- the lengths so far, and zeros behind them -/
def lensK (gs : List Rl) (k : Nat) : List Int := lens (gs.take k) ++ List.replicate (gs.length - k) 0
theorem lensK_len (gs : List Rl) (k : Nat) (h : k ≤ gs.length) : (lensK gs k).length = gs.length := by
  simp [lensK, lens_len]; omega
theorem lensK_set (gs : List Rl) (k : Nat) (h : k < gs.length) : (lensK gs k).set k (lenV gs k) = lensK gs (k + 1) := by
  unfold lensK
  have h1 : (lens (gs.take k)).length = k := by rw [lens_len]; simp; omega
  rw [List.set_append_right _ _ (by omega), h1, Nat.sub_self, show gs.length - k = (gs.length - (k + 1)) + 1 from by omega, List.replicate_succ, List.set_cons_zero, lens_snoc h, List.append_assoc]
  rfl
theorem lensK_all (gs : List Rl) : lensK gs gs.length = lens gs := by simp [lensK]
theorem lensK_zero (gs : List Rl) : lensK gs 0 = List.replicate gs.length 0 := by simp [lensK, lens, vals, valsOn]
/-- all rules fit up to a number -/
def FitTo (gs : List Rl) (k : Nat) : Prop := ∀ j (h : j < gs.length), j < k → gs[j].ok j = true

set_option maxRecDepth 100000 in
set_option maxHeartbeats 3200000 in
theorem vlen_any (v : Value) (gs : List Rl) (w : World) (hf : FewR gs) (hr : Rules w v gs) :
    Calls Try.prog 173 #[.agg #[v]] w (LensPost gs w) := by
  have hR0 := hr
  obtain ⟨A, c, rfl, hr⟩ := hr
  have hn := hf.len
  by_cases hlong : 400 < gs.length
  · have HP : Hid (∀ x w', Below w.heap.size w w' → LensPost gs w (.returned (.tuple #[x, .bool false])) w') := Lib.hid fun x w' hb => ⟨x, by rw [gOk_long hlong], fun h' => by (rw [gOk_long hlong] at h'; cases h'), hb⟩
    clear hr hR0
    go_enter Try.func173, Try.ntmps173
    go_wp2
    go_ret2
    exact HP.out _ _ ((Below.refl _ _).alloc (Nat.le_refl _) _)
  · have h4 : gs.length ≤ 400 := by omega
    have HG := Lib.hid (gOk_short h4)
    obtain ⟨n, hng⟩ : ∃ n, n = gs.length := ⟨_, rfl⟩
    rw [← hng] at hn h4 ⊢
    have HN := Lib.hid hng
    have HR := Lib.hid hr
    have HR0 := Lib.hid hR0
    have HF := Lib.hid hf
    clear hr hR0 hf hlong hng
    go_enter Try.func173, Try.ntmps173
    go_wp2
    go_loopw [4, 5, 16] (fun _ _ i wr => ∃ k : Nat, k ≤ n ∧ i = .int .i64 k ∧ Below w.heap.size w wr ∧ FitTo gs k ∧ wr.cell? ⟨w.heap.size, 0, none⟩ = some (.slice A n c)) (fun _ _ i _ => n - (intOf i).toNat)
    case atStart => exact ⟨0, Nat.zero_le _, rfl, (Below.refl _ _).alloc (Nat.le_refl _) _, fun _ _ h => by omega, cell_new _ _ _⟩
    case round =>
      obtain ⟨k, hk, rfl, hB, hu, hc0⟩ := hrel
      obtain ⟨wo, rfl⟩ : ∃ wo : World, wo = wr := ⟨_, rfl⟩
      by_cases hlt : k < n
      · have hkg : k < gs.length := by rw [← HN.out]; exact hlt
        rcases HR.out with hn | ⟨g, rfl, hg, hc⟩
        · rw [hn] at hkg; simp at hkg
        obtain ⟨a0, a1, a2⟩ := rules_cells hc hkg
        rw [← hB.cell (p := ⟨g, k * 3, none⟩) hg] at a0
        rw [← hB.cell (p := ⟨g, k * 3 + 1, none⟩) hg] at a1
        rw [← hB.cell (p := ⟨g, k * 3 + 2, none⟩) hg] at a2
        clear hc
        by_cases h0 : gs[k].L.size = 0
        · have HK := Lib.hid (fun W => kind_pair gs[k] h0 W)
          have HQ := Lib.hid (fun W => pair_fits gs[k] h0 k W)
          have HM := mt_p
          have hB0 := hB
          have hs0 := hB.size
          cases hok : gs[k].ok k
          · have HBD := Lib.hid (bad_fit hkg hok)
            rw [hok] at HQ
            have HBB := Lib.hid hB
            clear hok hu hB hB0 h0
            go_wp2_with fail
            refine (HK.out _).mono ?_
            rintro e w1 ⟨rfl, hB1⟩
            go_wp2_with fail
            refine (HQ.out _).mono ?_
            rintro e w2 ⟨rfl, hB2⟩
            have HF2 : Hid (∀ x, LensPost gs w (.returned (.tuple #[x, .bool false])) w2) := Lib.hid fun x => ⟨x, by rw [HG.out, HBD.out], fun h' => by (rw [HG.out, HBD.out] at h'; cases h'), ((HBB.out.alloc hs0 _).trans (hB1.mono (by simp; omega))).trans (hB2.mono (Nat.le_trans (by simp; omega) hB1.size))⟩
            clear hB1 hB2
            go_wp2_with fail
            go_ret2
            exact HF2.out _
          · have HU : Hid (FitTo gs (k + 1)) := Lib.hid fun j hj hjk => by
              by_cases e : j = k
              · subst e; exact hok
              · exact hu j hj (by omega)
            rw [hok] at HQ
            have HBB := Lib.hid hB
            have HC0 := Lib.hid hc0
            clear hok hu hB hB0 h0
            go_wp2_with fail
            refine (HK.out _).mono ?_
            rintro e w1 ⟨rfl, hB1⟩
            go_wp2_with fail
            refine (HQ.out _).mono ?_
            rintro e w2 ⟨rfl, hB2⟩
            have hB3 := ((HBB.out.alloc hs0 (.cells #[.string gs[k].L, .int .i64 gs[k].l, .int .i64 gs[k].r] 127)).trans (hB1.mono (by simp; omega))).trans (hB2.mono (Nat.le_trans (by simp; omega) hB1.size))
            have hlc := lt_of_cell HC0.out
            have hc3 : w2.cell? ⟨w.heap.size, 0, none⟩ = some (.slice (some ⟨g, 0, none⟩) n c) := by
              rw [hB2.cell (p := ⟨w.heap.size, 0, none⟩) (Nat.lt_of_lt_of_le (by simp; omega) hB1.size), hB1.cell (p := ⟨w.heap.size, 0, none⟩) (by simp; omega), ((Below.refl _ wo).alloc (Nat.le_refl _) _).cell (p := ⟨w.heap.size, 0, none⟩) hlc]; exact HC0.out
            have HB3 := Lib.hid hB3
            have HC3 := Lib.hid hc3
            clear hB1 hB2 hB3 hc3 hlc
            go_wp2_with fail
            go_roundw
            case rel => first | exact ⟨k + 1, by omega, by go_num, HB3.out, HU.out, HC3.out⟩ | ((repeat apply Exists.intro); exact ⟨⟨k + 1, by omega, by go_num, HB3.out, HU.out, HC3.out⟩, rfl⟩)
            case measure => simp [intOf]; omega
        · have HK := Lib.hid (fun W => kind_letter gs[k] h0 W)
          have HQ := Lib.hid (fun W => letter_fits gs[k] h0 k W)
          have HM := mt_l
          have hB0 := hB
          have hs0 := hB.size
          cases hok : gs[k].ok k
          · have HBD := Lib.hid (bad_fit hkg hok)
            rw [hok] at HQ
            have HBB := Lib.hid hB
            clear hok hu hB hB0 h0
            go_wp2_with fail
            refine (HK.out _).mono ?_
            rintro e w1 ⟨rfl, hB1⟩
            go_wp2_with fail
            refine (HQ.out _).mono ?_
            rintro e w2 ⟨rfl, hB2⟩
            have HF2 : Hid (∀ x, LensPost gs w (.returned (.tuple #[x, .bool false])) w2) := Lib.hid fun x => ⟨x, by rw [HG.out, HBD.out], fun h' => by (rw [HG.out, HBD.out] at h'; cases h'), ((HBB.out.alloc hs0 _).trans (hB1.mono (by simp; omega))).trans (hB2.mono (Nat.le_trans (by simp; omega) hB1.size))⟩
            clear hB1 hB2
            go_wp2_with fail
            go_ret2
            exact HF2.out _
          · have HU : Hid (FitTo gs (k + 1)) := Lib.hid fun j hj hjk => by
              by_cases e : j = k
              · subst e; exact hok
              · exact hu j hj (by omega)
            rw [hok] at HQ
            have HBB := Lib.hid hB
            have HC0 := Lib.hid hc0
            clear hok hu hB hB0 h0
            go_wp2_with fail
            refine (HK.out _).mono ?_
            rintro e w1 ⟨rfl, hB1⟩
            go_wp2_with fail
            refine (HQ.out _).mono ?_
            rintro e w2 ⟨rfl, hB2⟩
            have hB3 := ((HBB.out.alloc hs0 (.cells #[.string gs[k].L, .int .i64 gs[k].l, .int .i64 gs[k].r] 127)).trans (hB1.mono (by simp; omega))).trans (hB2.mono (Nat.le_trans (by simp; omega) hB1.size))
            have hlc := lt_of_cell HC0.out
            have hc3 : w2.cell? ⟨w.heap.size, 0, none⟩ = some (.slice (some ⟨g, 0, none⟩) n c) := by
              rw [hB2.cell (p := ⟨w.heap.size, 0, none⟩) (Nat.lt_of_lt_of_le (by simp; omega) hB1.size), hB1.cell (p := ⟨w.heap.size, 0, none⟩) (by simp; omega), ((Below.refl _ wo).alloc (Nat.le_refl _) _).cell (p := ⟨w.heap.size, 0, none⟩) hlc]; exact HC0.out
            have HB3 := Lib.hid hB3
            have HC3 := Lib.hid hc3
            clear hB1 hB2 hB3 hc3 hlc
            go_wp2_with fail
            go_roundw
            case rel => first | exact ⟨k + 1, by omega, by go_num, HB3.out, HU.out, HC3.out⟩ | ((repeat apply Exists.intro); exact ⟨⟨k + 1, by omega, by go_num, HB3.out, HU.out, HC3.out⟩, rfl⟩)
            case measure => simp [intOf]; omega
      · have hall : FitTo gs gs.length := fun j hj hjk => hu j hj (by have := HN.out; omega)
        have hn' : gs.length ≤ 1048576 := by have := HN.out; omega
        obtain ⟨i0, hi, hz0, hz1, hz2⟩ := info_parts Try.info_i64
        have hsz := hB.size
        have HALL := Lib.hid hall
        have HB := Lib.hid hB
        have HC0 := Lib.hid hc0
        have hk2 : k = n := by omega
        clear hall hu hB
        obtain rfl : k = n := hk2
        go_wp2_with (refine wpList_make_full _ rfl _ _ 22 rfl w.heap.size 2 i0 (.int .i64 0) 1 Try.underlying22 hi hz0 hz1 .i64 .i64 _ _ k rfl rfl rfl rfl (by rw [hz2]; omega) (by unfold maxLen; omega) hsz ?_)
        intro w1 hown hg
        have hB1 := below_of_grown hg
        have hlo := (hown.lt _ rfl).2
        have hBw := HB.out.trans (hB1.mono hsz)
        have c1 : w1.cell? ⟨w.heap.size, 0, none⟩ = some (.slice A k c) := (hB1.cell (p := ⟨w.heap.size, 0, none⟩) (lt_of_cell HC0.out)).trans HC0.out
        have hmd := measured_any w.heap.size (.slice A k c) gs w1 hn' hBw.size (by have := HR0.out.under hBw; rw [← HN.out] at this; exact this)
        have HMD := Lib.hid hmd
        have HO := Lib.hid hown
        have HBW := Lib.hid hBw
        clear hmd hown hg hB1 hBw hc0
        obtain ⟨L, hLe⟩ : ∃ L, L = wo.heap.size := ⟨_, rfl⟩
        rw [← hLe] at hlo HO ⊢
        have HLE := Lib.hid hLe
        clear hLe
        go_wp2_with fail
        refine HMD.out.mono ?_
        rintro e w2 ⟨bm, br, bj, bf, M, rfl, ⟨b1, b2, b3, b4, b5⟩, hI, hB2⟩
        have hB3 := HBW.out.trans (hB2.mono HBW.out.size)
        have hown2 := own_below HO.out hB2 (Nat.le_refl _)
        have hst0 : ∃ j : Nat, j ≤ k ∧ Value.int .i64 0 = .int .i64 j ∧ w2.ownsRow w.heap.size 2 1 (.slice (some ⟨L, 0, none⟩) k k) k (iv (lensK gs j)) ∧ Below w.heap.size w w2 ∧ MInv w.heap.size bm br bj bf M joinV gs (lenV gs) w2 ∧ UpTo gs j :=
          ⟨0, Nat.zero_le _, rfl, by rw [lensK_zero, ← HN.out, ← made_i64]; exact hown2, hB3, hI, upTo_zero _⟩
        have HST0 := Lib.hid hst0
        have hLw : w.heap.size ≤ L := by rw [HLE.out]; exact hsz
        clear hst0 hown2 hB3 hI hB2
        go_wp2_with fail
        go_loopw [8, 36] (fun _ i wr => ∃ j : Nat, j ≤ k ∧ i = .int .i64 j ∧ wr.ownsRow w.heap.size 2 1 (.slice (some ⟨L, 0, none⟩) k k) k (iv (lensK gs j)) ∧ Below w.heap.size w wr ∧ MInv w.heap.size bm br bj bf M joinV gs (lenV gs) wr ∧ UpTo gs j) (fun _ i _ => k - (intOf i).toNat)
        case atStart => exact HST0.out
        case round =>
          obtain ⟨j, hj, rfl, hown, hB, hI, hu⟩ := hrel
          obtain ⟨wp, rfl⟩ : ∃ wp : World, wp = wr := ⟨_, rfl⟩
          by_cases hjk : j < k
          · have hjg : j < gs.length := by rw [← HN.out]; exact hjk
            have hok := HALL.out j hjg hjg
            have HMS := Lib.hid (meas_any w.heap.size bm br bj bf M gs hn' (j + 1) j (by omega) hjg hu hok wp hI)
            have HU := Lib.hid hu
            have HB := Lib.hid hB
            have HO := Lib.hid hown
            have HOK := Lib.hid hok
            clear hu hB hown hok hI
            go_wp2_with fail
            refine HMS.out.mono ?_
            rintro e w3 ⟨rfl, hI3, hg3⟩
            have hown3 := World.ownsRow.kept HO.out hg3 (.inr (by simp [Value.ownBlock]; omega))
            have hB3 := HB.out.grown hg3 HB.out.size (fun q hq => by injection hq with hq; omega)
            have hc3 : w3.cell? ⟨L, j, none⟩ = some (.int .i64 ((lensK gs j).getD j 0)) := by rw [hown3.cellAt j (by omega)]; exact iv_at (by rw [lensK_len _ _ (by omega)]; exact hjg)
            have hf3 : w3.frozen? ⟨L, j, none⟩ = false := hown3.frozenAt _
            generalize (lensK gs j).getD j 0 = zz at hc3
            have hc4 : (w3.setCell ⟨L, j, none⟩ (.int .i64 (lenV gs j))).cell? ⟨L, j, none⟩ = some (.int .i64 (lenV gs j)) := World.cell?_setCell_same _ _ _ hc3
            have hst := (hown3.stored j (.int .i64 (lenV gs j))).1
            rw [← iv_setk, lensK_set gs j hjg] at hst
            have hI4 := MInv.far hI3 L j (.int .i64 (lenV gs j)) hLw (by omega) (by omega) (by omega) (by omega) (by omega)
            have hB4 := hB3.setCell (p := ⟨L, j, none⟩) hLw (.int .i64 (lenV gs j))
            by_cases hbig : 1000000000000000 < lenV gs j
            · have HF2 : Hid (∀ x, LensPost gs w (.returned (.tuple #[x, .bool false])) (w3.setCell ⟨L, j, none⟩ (.int .i64 (lenV gs j)))) := Lib.hid fun x => ⟨x, by rw [HG.out, bad_long hjg hbig], fun h' => by (rw [HG.out, bad_long hjg hbig] at h'; cases h'), hB4⟩
              clear hst hI4 hB4 hB3 hown3 hI3 hg3
              go_wp2_with fail
              go_ret2
              exact HF2.out _
            · have HNW : Hid (∃ j' : Nat, j' ≤ k ∧ Value.int .i64 ((j + 1 : Nat) : Int) = .int .i64 j' ∧ (w3.setCell ⟨L, j, none⟩ (.int .i64 (lenV gs j))).ownsRow w.heap.size 2 1 (.slice (some ⟨L, 0, none⟩) k k) k (iv (lensK gs j')) ∧ Below w.heap.size w (w3.setCell ⟨L, j, none⟩ (.int .i64 (lenV gs j))) ∧ MInv w.heap.size bm br bj bf M joinV gs (lenV gs) (w3.setCell ⟨L, j, none⟩ (.int .i64 (lenV gs j))) ∧ UpTo gs j') :=
                Lib.hid ⟨j + 1, by omega, rfl, hst, hB4, hI4, upTo_succ HU.out hjg HOK.out (by unfold lenV at hbig; omega)⟩
              clear hst hI4 hB4 hB3 hown3 hI3 hg3
              go_wp2_with fail
              go_roundw
              case rel => first | exact HNW.out | ((repeat apply Exists.intro); exact ⟨HNW.out, rfl⟩)
              case measure => simp [intOf]; omega
          · have hjn : j = gs.length := by have := HN.out; omega
            have hfs := upTo_all hu (by omega)
            rw [hjn, lensK_all] at hown
            have HY : Hid (LensPost gs w (.returned (.tuple #[.slice (some ⟨L, 0, none⟩) k k, .bool true])) wp) := Lib.hid ⟨_, by rw [HG.out, hfs], fun _ => by unfold OwnsI; rw [lens_len, ← HN.out]; exact hown, hB⟩
            clear hown hB hI hu hfs hjn
            go_wp2_with fail
            go_ret2
            exact HY.out
end Go.Proofs.Ytaffachjopjbgaa.len
