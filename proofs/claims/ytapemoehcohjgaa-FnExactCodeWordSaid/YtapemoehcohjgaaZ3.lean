/-
  Contracts and numbers of the functions that the laws of this place call, one text behind the other. No condition beyond those that each theorem names.
-/
import Derived.Test.YtapemoehcohjgaaZ1
import Derived.Test.YtapemoehcohjgaaZ2
import Derived.Laws.EntriesVeiled
import Derived.Deep.RegionHeld3
import Derived.Deep.RegionLaw
import Derived.Deep.AppendLies
import Derived.BigQuiet
import Derived.Deep.QuietTactic
import Derived.StillTailTactics
import Derived.Deep.DeepCutAuto
namespace Go.Proofs.Ytapemoehcohjgaa.len
open Go.RowKit
open Wd
set_option linter.unusedVariables false

theorem made_inv {w w1 : World} {B : Nat} {gs : List Rl} {A : Option Addr} {c n t1 t2 t3 t4 : Nat} (V : Nat → Int) (hn : n = gs.length) (hBs : B ≤ w.heap.size)
    (hr : gs = [] ∨ ∃ g, A = some ⟨g, 0, none⟩ ∧ g < B ∧ ∀ j u, (rv gs)[j]? = some u → w.cell? ⟨g, j, none⟩ = some u)
    (hown : w1.ownsRow w.heap.size 2 1 (.slice (some ⟨w.heap.size + 1 + 1, 0, none⟩) n n) n (iv (List.replicate n 0)))
    (hg : ((w.alloc (.cells #[.slice A n c] t1)).alloc (.cells #[joinV] t2)).grownBy w1 none) :
    w.heap.size + 1 + 1 < w1.heap.size ∧ Below w.heap.size w ((w1.alloc (.cells #[.slice (some ⟨w.heap.size + 1 + 1, 0, none⟩) n n] t3)).alloc (.cells #[measV w1.heap.size w.heap.size (w.heap.size + 1) (w1.heap.size + 1)] t4)) ∧
    MInv B w1.heap.size w.heap.size (w.heap.size + 1) (w1.heap.size + 1) (w.heap.size + 1 + 1) joinV gs V ((w1.alloc (.cells #[.slice (some ⟨w.heap.size + 1 + 1, 0, none⟩) n n] t3)).alloc (.cells #[measV w1.heap.size w.heap.size (w.heap.size + 1) (w1.heap.size + 1)] t4)) := by
  have hlt : w.heap.size + 1 + 1 < w1.heap.size := (hown.lt _ rfl).2
  have hB1 := below_of_grown hg
  have hBw : Below w.heap.size w w1 := (((Below.refl _ w).alloc (Nat.le_refl _) _).alloc (by simp) _).trans (hB1.mono (by simp; omega))
  obtain ⟨o1, ho1⟩ : ∃ o1, o1 = Obj.cells #[.slice (some ⟨w.heap.size + 1 + 1, 0, none⟩) n n] t3 := ⟨_, rfl⟩
  obtain ⟨o2, ho2⟩ : ∃ o2, o2 = Obj.cells #[measV w1.heap.size w.heap.size (w.heap.size + 1) (w1.heap.size + 1)] t4 := ⟨_, rfl⟩
  have hBf : Below w1.heap.size w1 ((w1.alloc o1).alloc o2) := ((Below.refl _ w1).alloc (Nat.le_refl _) _).alloc (by simp) _
  have c1 : ((w1.alloc o1).alloc o2).cell? ⟨w1.heap.size, 0, none⟩ = some (.slice (some ⟨w.heap.size + 1 + 1, 0, none⟩) n n) := by
    rw [((Below.refl _ (w1.alloc o1)).alloc (Nat.le_refl _) o2).cell (p := ⟨w1.heap.size, 0, none⟩) (by simp), ho1]; exact cell_new _ _ _
  have c2 : ((w1.alloc o1).alloc o2).cell? ⟨w1.heap.size + 1, 0, none⟩ = some (measV w1.heap.size w.heap.size (w.heap.size + 1) (w1.heap.size + 1)) := by
    have := cell_new (w1.alloc o1) (measV w1.heap.size w.heap.size (w.heap.size + 1) (w1.heap.size + 1)) t4
    rw [ho2]
    simp at this ⊢
  have c3 : ((w1.alloc o1).alloc o2).cell? ⟨w.heap.size, 0, none⟩ = some (.slice A n c) := by
    rw [hBf.cell (p := ⟨w.heap.size, 0, none⟩) (by simp; omega), hB1.cell (p := ⟨w.heap.size, 0, none⟩) (by simp; omega), ((Below.refl _ (w.alloc _)).alloc (Nat.le_refl _) _).cell (p := ⟨w.heap.size, 0, none⟩) (by simp)]; exact cell_new _ _ _
  have c4 : ((w1.alloc o1).alloc o2).cell? ⟨w.heap.size + 1, 0, none⟩ = some joinV := by
    rw [hBf.cell (p := ⟨w.heap.size + 1, 0, none⟩) (by simp; omega), hB1.cell (p := ⟨w.heap.size + 1, 0, none⟩) (by simp)]
    have := cell_new (w.alloc (.cells #[.slice A n c] t1)) joinV t2
    simp at this ⊢
  have hBa := hBw.trans (hBf.mono (by omega))
  have hoF := own_below (own_below hown ((Below.refl _ w1).alloc (Nat.le_refl _) o1) (Nat.le_refl _)) ((Below.refl _ (w1.alloc o1)).alloc (Nat.le_refl _) o2) (Nat.le_refl _)
  rw [← ho1, ← ho2]
  refine ⟨hlt, hBa, ⟨by rw [← hn]; exact c1, ⟨_, c3, A, c, by rw [hn], ?_⟩, c4, c2, by omega, by omega, by omega, by omega, by omega, Nat.le_trans hBs hBa.size⟩, List.replicate n 0, by simp [hn], MemOk.zero _ _, by rw [← hn]; exact own_lower hoF hBs⟩
  rcases hr with hr | ⟨g, hA, hg', hc⟩
  · exact .inl hr
  · exact .inr ⟨g, hA, hg', fun j u hu => (hBa.cell (p := ⟨g, j, none⟩) (Nat.lt_of_lt_of_le hg' hBs)).trans (hc j u hu)⟩
theorem made_i64 (n : Nat) : (madeCells #[.int .i64 0] n).toList = iv (List.replicate n 0) := by
  apply List.ext_getElem
  · simp [madeCells, iv]
  · intro i h1 h2
    simp [madeCells, iv, Nat.mod_one]

set_option maxRecDepth 100000 in
set_option maxHeartbeats 3200000 in
/-- impl.measured at the join of lengths -/
theorem measured_any (B : Nat) (v : Value) (gs : List Rl) (w : World) (hn : gs.length ≤ 1048576) (hBs : B ≤ w.heap.size) (hr : RulesU B w v gs) :
    Calls Try.prog 109 #[v, joinV] w fun e w' => ∃ bm br bj bf M, e = .returned (measV bm br bj bf) ∧ (w.heap.size ≤ bm ∧ w.heap.size ≤ br ∧ w.heap.size ≤ bj ∧ w.heap.size ≤ bf ∧ w.heap.size ≤ M) ∧ MInv B bm br bj bf M joinV gs (lenV gs) w' ∧ Below w.heap.size w w' := by
  obtain ⟨i0, hi, hz0, hz1, hz2⟩ := info_parts Try.info_i64
  obtain ⟨A, c, rfl, hr⟩ := hr
  obtain ⟨n, hng⟩ : ∃ n, n = gs.length := ⟨_, rfl⟩
  rw [← hng] at hn ⊢
  have HN := Lib.hid hng
  have HR := Lib.hid hr
  have HBS := Lib.hid hBs
  clear hng hr hBs
  go_enter Try.func109, Try.ntmps109
  go_wp2_with (refine wpList_make_full _ rfl _ _ 45 rfl w.heap.size 2 i0 (.int .i64 0) 1 Try.underlying45 hi hz0 hz1 .i64 .i64 _ _ n rfl rfl rfl rfl (by rw [hz2]; omega) (by unfold maxLen; omega) (by simp; omega) ?_)
  intro w1 hown hg
  rw [made_i64] at hown
  have hm := made_inv (t3 := 45) (t4 := 151) (lenV gs) HN.out HBS.out HR.out hown hg
  have HM := Lib.hid hm
  clear hown hg hm
  go_wp2
  go_ret
  obtain ⟨h1, h2, h3⟩ := HM.out
  exact ⟨_, _, _, _, _, rfl, ⟨by omega, by omega, by omega, by omega, by omega⟩, h3, h2⟩

theorem mt_p (v : Value) (w : World) : (method 290 148 v "loop.example/g01133/impl.fits").run Try.prog w = .ok (137, v) w := by kernel_rfl
theorem mt_l (v : Value) (w : World) : (method 290 132 v "loop.example/g01133/impl.fits").run Try.prog w = .ok (135, v) w := by kernel_rfl
/-- a store elsewhere -/
theorem MInv.far {B bm br bj bf M : Nat} {jv : Value} {gs : List Rl} {V : Nat → Int} {w : World} (h : MInv B bm br bj bf M jv gs V w) (L k : Nat) (u : Value) (hL : B ≤ L) (h1 : L < bm) (h2 : L < br) (h3 : L < bj) (h4 : L < bf) (h5 : L < M) :
    MInv B bm br bj bf M jv gs V (w.setCell ⟨L, k, none⟩ u) := by
  obtain ⟨hs, mem, hl, hm, ho⟩ := h
  have hc : ∀ (b o : Nat) v, L ≠ b → w.cell? ⟨b, o, none⟩ = some v → (w.setCell ⟨L, k, none⟩ u).cell? ⟨b, o, none⟩ = some v := fun b o v hne hc => by
    rw [World.cell?_setCell_other _ _ _ _ (fun e => hne (congrArg Addr.block e))]; exact hc
  obtain ⟨v, hv, A, c, rfl, hr⟩ := hs.r
  refine ⟨⟨hc _ _ _ (by omega) hs.m, ⟨_, hc _ _ _ (by omega) hv, A, c, rfl, ?_⟩, hc _ _ _ (by omega) hs.j, hc _ _ _ (by omega) hs.f, hs.nm, hs.nr, hs.nj, hs.nf, hs.hB, by simpa [World.setCell] using hs.hs⟩, mem, hl, hm, ?_⟩
  · rcases hr with hr | ⟨g, hA, hg', hcc⟩
    · exact .inl hr
    · exact .inr ⟨g, hA, hg', fun j u' hu => hc _ _ _ (by omega) (hcc j u' hu)⟩
  · exact World.ownsRow.kept ho (only_setCell (World.grownBy.refl w (some L)) (.inl rfl) u) (.inr (by simp [Value.ownBlock]; omega))
/-- the lengths so far, and zeros behind them -/
def lensK (gs : List Rl) (k : Nat) : List Int := lens (gs.take k) ++ List.replicate (gs.length - k) 0
theorem lensK_len (gs : List Rl) (k : Nat) (h : k ≤ gs.length) : (lensK gs k).length = gs.length := by
  simp [lensK, lens_len]; omega
theorem lensK_set (gs : List Rl) (k : Nat) (h : k < gs.length) : (lensK gs k).set k (lenV gs k) = lensK gs (k + 1) := by
  unfold lensK
  have h1 : (lens (gs.take k)).length = k := by rw [lens_len]; simp; omega
  rw [List.set_append_right _ _ (by omega), h1, Nat.sub_self, show gs.length - k = (gs.length - (k + 1)) + 1 from by omega, List.replicate_succ, List.set_cons_zero, lens_snoc h, List.append_assoc]
  rfl
theorem lensK_all (gs : List Rl) : lensK gs gs.length = lens gs := by simp [lensK]
theorem lensK_zero (gs : List Rl) : lensK gs 0 = List.replicate gs.length 0 := by simp [lensK, lens, vals, valsOn]
/-- all rules fit up to a number -/
def FitTo (gs : List Rl) (k : Nat) : Prop := ∀ j (h : j < gs.length), j < k → gs[j].ok j = true

set_option maxRecDepth 100000 in
set_option maxHeartbeats 3200000 in
theorem vlen_any (v : Value) (gs : List Rl) (w : World) (hf : FewR gs) (hr : Rules w v gs) :
    Calls Try.prog 99 #[.agg #[v]] w (LensPost gs w) := by
  have hR0 := hr
  obtain ⟨A, c, rfl, hr⟩ := hr
  have hn := hf.len
  by_cases hlong : 400 < gs.length
  · have HP : Hid (∀ x w', Below w.heap.size w w' → LensPost gs w (.returned (.tuple #[x, .bool false])) w') := Lib.hid fun x w' hb => ⟨x, by rw [gOk_long hlong], fun h' => by (rw [gOk_long hlong] at h'; cases h'), hb⟩
    clear hr hR0
    go_enter Try.func99, Try.ntmps99
    go_wp2
    go_ret2
    exact HP.out _ _ ((Below.refl _ _).alloc (Nat.le_refl _) _)
  · have h4 : gs.length ≤ 400 := by omega
    have HG := Lib.hid (gOk_short h4)
    obtain ⟨n, hng⟩ : ∃ n, n = gs.length := ⟨_, rfl⟩
    rw [← hng] at hn h4 ⊢
    have HN := Lib.hid hng
    have HR := Lib.hid hr
    have HR0 := Lib.hid hR0
    have HF := Lib.hid hf
    clear hr hR0 hf hlong hng
    go_enter Try.func99, Try.ntmps99
    go_wp2
    go_loopw [4, 5, 16] (fun _ _ i wr => ∃ k : Nat, k ≤ n ∧ i = .int .i64 k ∧ Below w.heap.size w wr ∧ FitTo gs k ∧ wr.cell? ⟨w.heap.size, 0, none⟩ = some (.slice A n c)) (fun _ _ i _ => n - (intOf i).toNat)
    case atStart => exact ⟨0, Nat.zero_le _, rfl, (Below.refl _ _).alloc (Nat.le_refl _) _, fun _ _ h => by omega, cell_new _ _ _⟩
    case round =>
      obtain ⟨k, hk, rfl, hB, hu, hc0⟩ := hrel
      obtain ⟨wo, rfl⟩ : ∃ wo : World, wo = wr := ⟨_, rfl⟩
      by_cases hlt : k < n
      · have hkg : k < gs.length := by rw [← HN.out]; exact hlt
        rcases HR.out with hn | ⟨g, rfl, hg, hc⟩
        · rw [hn] at hkg; simp at hkg
        obtain ⟨a0, a1, a2⟩ := rules_cells hc hkg
        rw [← hB.cell (p := ⟨g, k * 3, none⟩) hg] at a0
        rw [← hB.cell (p := ⟨g, k * 3 + 1, none⟩) hg] at a1
        rw [← hB.cell (p := ⟨g, k * 3 + 2, none⟩) hg] at a2
        clear hc
        by_cases h0 : gs[k].L.size = 0
        · have HK := Lib.hid (fun W => kind_pair gs[k] h0 W)
          have HQ := Lib.hid (fun W => pair_fits gs[k] h0 k W)
          have HM := mt_p
          have hB0 := hB
          have hs0 := hB.size
          cases hok : gs[k].ok k
          · have HBD := Lib.hid (bad_fit hkg hok)
            rw [hok] at HQ
            have HBB := Lib.hid hB
            clear hok hu hB hB0 h0
            go_wp2_with fail
            refine (HK.out _).mono ?_
            rintro e w1 ⟨rfl, hB1⟩
            go_wp2_with fail
            refine (HQ.out _).mono ?_
            rintro e w2 ⟨rfl, hB2⟩
            have HF2 : Hid (∀ x, LensPost gs w (.returned (.tuple #[x, .bool false])) w2) := Lib.hid fun x => ⟨x, by rw [HG.out, HBD.out], fun h' => by (rw [HG.out, HBD.out] at h'; cases h'), ((HBB.out.alloc hs0 _).trans (hB1.mono (by simp; omega))).trans (hB2.mono (Nat.le_trans (by simp; omega) hB1.size))⟩
            clear hB1 hB2
            go_wp2_with fail
            go_ret2
            exact HF2.out _
          · have HU : Hid (FitTo gs (k + 1)) := Lib.hid fun j hj hjk => by
              by_cases e : j = k
              · subst e; exact hok
              · exact hu j hj (by omega)
            rw [hok] at HQ
            have HBB := Lib.hid hB
            have HC0 := Lib.hid hc0
            clear hok hu hB hB0 h0
            go_wp2_with fail
            refine (HK.out _).mono ?_
            rintro e w1 ⟨rfl, hB1⟩
            go_wp2_with fail
            refine (HQ.out _).mono ?_
            rintro e w2 ⟨rfl, hB2⟩
            have hB3 := ((HBB.out.alloc hs0 (.cells #[.string gs[k].L, .int .i64 gs[k].l, .int .i64 gs[k].r] 128)).trans (hB1.mono (by simp; omega))).trans (hB2.mono (Nat.le_trans (by simp; omega) hB1.size))
            have hlc := lt_of_cell HC0.out
            have hc3 : w2.cell? ⟨w.heap.size, 0, none⟩ = some (.slice (some ⟨g, 0, none⟩) n c) := by
              rw [hB2.cell (p := ⟨w.heap.size, 0, none⟩) (Nat.lt_of_lt_of_le (by simp; omega) hB1.size), hB1.cell (p := ⟨w.heap.size, 0, none⟩) (by simp; omega), ((Below.refl _ wo).alloc (Nat.le_refl _) _).cell (p := ⟨w.heap.size, 0, none⟩) hlc]; exact HC0.out
            have HB3 := Lib.hid hB3
            have HC3 := Lib.hid hc3
            clear hB1 hB2 hB3 hc3 hlc
            go_wp2_with fail
            go_roundw
            case rel => first | exact ⟨k + 1, by omega, by go_num, HB3.out, HU.out, HC3.out⟩ | ((repeat apply Exists.intro); exact ⟨⟨k + 1, by omega, by go_num, HB3.out, HU.out, HC3.out⟩, rfl⟩)
            case measure => simp [intOf]; omega
        · have HK := Lib.hid (fun W => kind_letter gs[k] h0 W)
          have HQ := Lib.hid (fun W => letter_fits gs[k] h0 k W)
          have HM := mt_l
          have hB0 := hB
          have hs0 := hB.size
          cases hok : gs[k].ok k
          · have HBD := Lib.hid (bad_fit hkg hok)
            rw [hok] at HQ
            have HBB := Lib.hid hB
            clear hok hu hB hB0 h0
            go_wp2_with fail
            refine (HK.out _).mono ?_
            rintro e w1 ⟨rfl, hB1⟩
            go_wp2_with fail
            refine (HQ.out _).mono ?_
            rintro e w2 ⟨rfl, hB2⟩
            have HF2 : Hid (∀ x, LensPost gs w (.returned (.tuple #[x, .bool false])) w2) := Lib.hid fun x => ⟨x, by rw [HG.out, HBD.out], fun h' => by (rw [HG.out, HBD.out] at h'; cases h'), ((HBB.out.alloc hs0 _).trans (hB1.mono (by simp; omega))).trans (hB2.mono (Nat.le_trans (by simp; omega) hB1.size))⟩
            clear hB1 hB2
            go_wp2_with fail
            go_ret2
            exact HF2.out _
          · have HU : Hid (FitTo gs (k + 1)) := Lib.hid fun j hj hjk => by
              by_cases e : j = k
              · subst e; exact hok
              · exact hu j hj (by omega)
            rw [hok] at HQ
            have HBB := Lib.hid hB
            have HC0 := Lib.hid hc0
            clear hok hu hB hB0 h0
            go_wp2_with fail
            refine (HK.out _).mono ?_
            rintro e w1 ⟨rfl, hB1⟩
            go_wp2_with fail
            refine (HQ.out _).mono ?_
            rintro e w2 ⟨rfl, hB2⟩
            have hB3 := ((HBB.out.alloc hs0 (.cells #[.string gs[k].L, .int .i64 gs[k].l, .int .i64 gs[k].r] 128)).trans (hB1.mono (by simp; omega))).trans (hB2.mono (Nat.le_trans (by simp; omega) hB1.size))
            have hlc := lt_of_cell HC0.out
            have hc3 : w2.cell? ⟨w.heap.size, 0, none⟩ = some (.slice (some ⟨g, 0, none⟩) n c) := by
              rw [hB2.cell (p := ⟨w.heap.size, 0, none⟩) (Nat.lt_of_lt_of_le (by simp; omega) hB1.size), hB1.cell (p := ⟨w.heap.size, 0, none⟩) (by simp; omega), ((Below.refl _ wo).alloc (Nat.le_refl _) _).cell (p := ⟨w.heap.size, 0, none⟩) hlc]; exact HC0.out
            have HB3 := Lib.hid hB3
            have HC3 := Lib.hid hc3
            clear hB1 hB2 hB3 hc3 hlc
            go_wp2_with fail
            go_roundw
            case rel => first | exact ⟨k + 1, by omega, by go_num, HB3.out, HU.out, HC3.out⟩ | ((repeat apply Exists.intro); exact ⟨⟨k + 1, by omega, by go_num, HB3.out, HU.out, HC3.out⟩, rfl⟩)
            case measure => simp [intOf]; omega
      · have hall : FitTo gs gs.length := fun j hj hjk => hu j hj (by have := HN.out; omega)
        have hn' : gs.length ≤ 1048576 := by have := HN.out; omega
        obtain ⟨i0, hi, hz0, hz1, hz2⟩ := info_parts Try.info_i64
        have hsz := hB.size
        have HALL := Lib.hid hall
        have HB := Lib.hid hB
        have HC0 := Lib.hid hc0
        have hk2 : k = n := by omega
        clear hall hu hB
        obtain rfl : k = n := hk2
        go_wp2_with (refine wpList_make_full _ rfl _ _ 45 rfl w.heap.size 2 i0 (.int .i64 0) 1 Try.underlying45 hi hz0 hz1 .i64 .i64 _ _ k rfl rfl rfl rfl (by rw [hz2]; omega) (by unfold maxLen; omega) hsz ?_)
        intro w1 hown hg
        have hB1 := below_of_grown hg
        have hlo := (hown.lt _ rfl).2
        have hBw := HB.out.trans (hB1.mono hsz)
        have c1 : w1.cell? ⟨w.heap.size, 0, none⟩ = some (.slice A k c) := (hB1.cell (p := ⟨w.heap.size, 0, none⟩) (lt_of_cell HC0.out)).trans HC0.out
        have hmd := measured_any w.heap.size (.slice A k c) gs w1 hn' hBw.size (by have := HR0.out.under hBw; rw [← HN.out] at this; exact this)
        have HMD := Lib.hid hmd
        have HO := Lib.hid hown
        have HBW := Lib.hid hBw
        clear hmd hown hg hB1 hBw hc0
        obtain ⟨L, hLe⟩ : ∃ L, L = wo.heap.size := ⟨_, rfl⟩
        rw [← hLe] at hlo HO ⊢
        have HLE := Lib.hid hLe
        clear hLe
        go_wp2_with fail
        refine HMD.out.mono ?_
        rintro e w2 ⟨bm, br, bj, bf, M, rfl, ⟨b1, b2, b3, b4, b5⟩, hI, hB2⟩
        have hB3 := HBW.out.trans (hB2.mono HBW.out.size)
        have hown2 := own_below HO.out hB2 (Nat.le_refl _)
        have hst0 : ∃ j : Nat, j ≤ k ∧ Value.int .i64 0 = .int .i64 j ∧ w2.ownsRow w.heap.size 2 1 (.slice (some ⟨L, 0, none⟩) k k) k (iv (lensK gs j)) ∧ Below w.heap.size w w2 ∧ MInv w.heap.size bm br bj bf M joinV gs (lenV gs) w2 ∧ UpTo gs j :=
          ⟨0, Nat.zero_le _, rfl, by rw [lensK_zero, ← HN.out, ← made_i64]; exact hown2, hB3, hI, upTo_zero _⟩
        have HST0 := Lib.hid hst0
        have hLw : w.heap.size ≤ L := by rw [HLE.out]; exact hsz
        clear hst0 hown2 hB3 hI hB2
        go_wp2_with fail
        go_loopw [8, 36] (fun _ i wr => ∃ j : Nat, j ≤ k ∧ i = .int .i64 j ∧ wr.ownsRow w.heap.size 2 1 (.slice (some ⟨L, 0, none⟩) k k) k (iv (lensK gs j)) ∧ Below w.heap.size w wr ∧ MInv w.heap.size bm br bj bf M joinV gs (lenV gs) wr ∧ UpTo gs j) (fun _ i _ => k - (intOf i).toNat)
        case atStart => exact HST0.out
        case round =>
          obtain ⟨j, hj, rfl, hown, hB, hI, hu⟩ := hrel
          obtain ⟨wp, rfl⟩ : ∃ wp : World, wp = wr := ⟨_, rfl⟩
          by_cases hjk : j < k
          · have hjg : j < gs.length := by rw [← HN.out]; exact hjk
            have hok := HALL.out j hjg hjg
            have HMS := Lib.hid (meas_any w.heap.size bm br bj bf M gs hn' (j + 1) j (by omega) hjg hu hok wp hI)
            have HU := Lib.hid hu
            have HB := Lib.hid hB
            have HO := Lib.hid hown
            have HOK := Lib.hid hok
            clear hu hB hown hok hI
            go_wp2_with fail
            refine HMS.out.mono ?_
            rintro e w3 ⟨rfl, hI3, hg3⟩
            have hown3 := World.ownsRow.kept HO.out hg3 (.inr (by simp [Value.ownBlock]; omega))
            have hB3 := HB.out.grown hg3 HB.out.size (fun q hq => by injection hq with hq; omega)
            have hc3 : w3.cell? ⟨L, j, none⟩ = some (.int .i64 ((lensK gs j).getD j 0)) := by rw [hown3.cellAt j (by omega)]; exact iv_at (by rw [lensK_len _ _ (by omega)]; exact hjg)
            have hf3 : w3.frozen? ⟨L, j, none⟩ = false := hown3.frozenAt _
            generalize (lensK gs j).getD j 0 = zz at hc3
            have hc4 : (w3.setCell ⟨L, j, none⟩ (.int .i64 (lenV gs j))).cell? ⟨L, j, none⟩ = some (.int .i64 (lenV gs j)) := World.cell?_setCell_same _ _ _ hc3
            have hst := (hown3.stored j (.int .i64 (lenV gs j))).1
            rw [← iv_setk, lensK_set gs j hjg] at hst
            have hI4 := MInv.far hI3 L j (.int .i64 (lenV gs j)) hLw (by omega) (by omega) (by omega) (by omega) (by omega)
            have hB4 := hB3.setCell (p := ⟨L, j, none⟩) hLw (.int .i64 (lenV gs j))
            by_cases hbig : 1000000000000000 < lenV gs j
            · have HF2 : Hid (∀ x, LensPost gs w (.returned (.tuple #[x, .bool false])) (w3.setCell ⟨L, j, none⟩ (.int .i64 (lenV gs j)))) := Lib.hid fun x => ⟨x, by rw [HG.out, bad_long hjg hbig], fun h' => by (rw [HG.out, bad_long hjg hbig] at h'; cases h'), hB4⟩
              clear hst hI4 hB4 hB3 hown3 hI3 hg3
              go_wp2_with fail
              go_ret2
              exact HF2.out _
            · have HNW : Hid (∃ j' : Nat, j' ≤ k ∧ Value.int .i64 ((j + 1 : Nat) : Int) = .int .i64 j' ∧ (w3.setCell ⟨L, j, none⟩ (.int .i64 (lenV gs j))).ownsRow w.heap.size 2 1 (.slice (some ⟨L, 0, none⟩) k k) k (iv (lensK gs j')) ∧ Below w.heap.size w (w3.setCell ⟨L, j, none⟩ (.int .i64 (lenV gs j))) ∧ MInv w.heap.size bm br bj bf M joinV gs (lenV gs) (w3.setCell ⟨L, j, none⟩ (.int .i64 (lenV gs j))) ∧ UpTo gs j') :=
                Lib.hid ⟨j + 1, by omega, rfl, hst, hB4, hI4, upTo_succ HU.out hjg HOK.out (by unfold lenV at hbig; omega)⟩
              clear hst hI4 hB4 hB3 hown3 hI3 hg3
              go_wp2_with fail
              go_roundw
              case rel => first | exact HNW.out | ((repeat apply Exists.intro); exact ⟨HNW.out, rfl⟩)
              case measure => simp [intOf]; omega
          · have hjn : j = gs.length := by have := HN.out; omega
            have hfs := upTo_all hu (by omega)
            rw [hjn, lensK_all] at hown
            have HY : Hid (LensPost gs w (.returned (.tuple #[.slice (some ⟨L, 0, none⟩) k k, .bool true])) wp) := Lib.hid ⟨_, by rw [HG.out, hfs], fun _ => by unfold OwnsI; rw [lens_len, ← HN.out]; exact hown, hB⟩
            clear hown hB hI hu hfs hjn
            go_wp2_with fail
            go_ret2
            exact HY.out
end Go.Proofs.Ytapemoehcohjgaa.len
namespace Go.Proofs.Ytapemoehcohjgaa
open Go.RowKit
open Wd
set_option linter.unusedVariables false
/-- cells of a row of one's own, stored one behind the other -/
theorem own_setCells {B e s g c n : Nat} : ∀ (vs : List Value) (o : Nat) (w : World) (xs : List Value), w.ownsRow B e s (.slice (some ⟨g, 0, none⟩) n c) n xs → o + vs.length ≤ xs.length →
    (w.setCells g o vs).ownsRow B e s (.slice (some ⟨g, 0, none⟩) n c) n (xs.take o ++ vs ++ xs.drop (o + vs.length))
  | [], o, w, xs, h, ho => by
    have : xs.take o ++ [] ++ xs.drop (o + ([] : List Value).length) = xs := by simp
    rw [this]; exact h
  | v :: r, o, w, xs, h, ho => by
    have h1 := (h.stored o v).1
    have ho' : o < xs.length := by simp at ho; omega
    have h2 := own_setCells r (o + 1) _ _ h1 (by simp at ho ⊢; omega)
    have e1 : (xs.set o v).take (o + 1) ++ r ++ (xs.set o v).drop (o + 1 + r.length) = xs.take o ++ v :: r ++ xs.drop (o + (v :: r).length) := by
      rw [List.take_succ_eq_append_getElem (by simpa using ho'), List.take_set_of_le (Nat.le_refl _), List.drop_set_of_lt (by omega)]
      simp [Nat.add_assoc, Nat.add_comm 1]
    rw [e1] at h2
    exact h2
theorem below_setCells {B : Nat} {w : World} : ∀ (vs : List Value) (g o : Nat) (w' : World), B ≤ g → Below B w w' → Below B w (w'.setCells g o vs)
  | [], g, o, w', hg, h => h
  | v :: r, g, o, w', hg, h => below_setCells r g (o + 1) _ hg (h.setCell (p := ⟨g, o, none⟩) hg v)
theorem heap_setCells (b : Nat) : ∀ (vs : List Value) (g o : Nat) (w : World), b ≠ g → (w.setCells g o vs).heap[b]? = w.heap[b]?
  | [], g, o, w, h => rfl
  | v :: r, g, o, w, h => (heap_setCells b r g (o + 1) _ h).trans (Below.heap_setCell w ⟨g, o, none⟩ v b h)
namespace Wd
/-- all rows of maps are 24 wide -/
def wide (ms : List (List Int)) : Prop := ∀ r ∈ ms, r.length = 24
/-- the maps so far, and zeros -/
def flK (ms : List (List Int)) (n : Nat) : List Int := ms.flatten ++ List.replicate ((n - ms.length) * 24) 0
end Wd
theorem flat_len : ∀ (ms : List (List Int)), wide ms → ms.flatten.length = ms.length * 24
  | [], _ => rfl
  | r :: ms, h => by
    rw [List.flatten_cons, List.length_append, h r (by simp), flat_len ms (fun x hx => h x (by simp [hx])), List.length_cons]
    omega
theorem flat_get : ∀ (ms : List (List Int)), wide ms → ∀ j i, j < ms.length → i < 24 → ms.flatten[j * 24 + i]? = some ((ms.getD j []).getD i 0)
  | [], _, j, i, hj, _ => by simp at hj
  | r :: ms, h, j, i, hj, hi => by
    have hr := h r (by simp)
    rw [List.flatten_cons]
    cases j with
    | zero =>
      rw [List.getElem?_append_left (by omega)]
      simp only [Nat.zero_mul, Nat.zero_add, List.getD_cons_zero]
      rw [List.getD_eq_getElem?_getD, List.getElem?_eq_getElem (by omega)]
      rfl
    | succ j =>
      rw [List.getElem?_append_right (by omega), hr, show (j + 1) * 24 + i - 24 = j * 24 + i from by omega, List.getD_cons_succ]
      exact flat_get ms (fun x hx => h x (by simp [hx])) j i (by simpa using hj) hi
theorem flK_len (ms : List (List Int)) (n : Nat) (h : wide ms) (hn : ms.length ≤ n) : (flK ms n).length = n * 24 := by
  unfold flK
  rw [List.length_append, flat_len ms h, List.length_replicate]
  omega
theorem flK_store (ms : List (List Int)) (n : Nat) (r : List Int) (h : wide ms) (hr : r.length = 24) (hn : ms.length < n) : (iv (flK ms n)).take (ms.length * 24) ++ iv r ++ (iv (flK ms n)).drop (ms.length * 24 + (iv r).length) = iv (flK (ms ++ [r]) n) := by
  have hf := flat_len ms h
  unfold flK
  rw [iv_app, List.take_append_of_le_length (by rw [iv_len]; omega), List.take_of_length_le (by rw [iv_len]; omega), List.drop_append, iv_len, iv_len, hf, hr, List.drop_of_length_le (by rw [iv_len]; omega)]
  rw [List.flatten_append, iv_app, iv_app]
  simp only [List.flatten_cons, List.flatten_nil, List.append_nil, List.nil_append, List.length_append, List.length_cons, List.length_nil]
  congr 1
  rw [show ms.length * 24 + 24 - ms.length * 24 = 24 from by omega, show (n - ms.length) * 24 = 24 + (n - (ms.length + 1)) * 24 from by omega]
  simp [iv, List.map_replicate, List.drop_replicate]
/-- maps in a slice, in a block from lo on -/
def IsMs (w : World) (lo : Nat) (v : Value) (ms : List (List Int)) : Prop :=
  ∃ (A : Option Addr) (c : Nat), v = .slice A ms.length c ∧ (ms = [] ∨ ∃ g, A = some ⟨g, 0, none⟩ ∧ (lo ≤ g ∧ g < w.heap.size) ∧ ∀ j i, j < ms.length → i < 24 → w.cell? ⟨g, j * 24 + i, none⟩ = some (.int .i64 ((ms.getD j []).getD i 0)))
theorem IsMs.kept {w w' : World} {lo : Nat} {v : Value} {ms : List (List Int)} (h : IsMs w lo v ms) (hb : Below w.heap.size w w') : IsMs w' lo v ms := by
  obtain ⟨A, c, hv, h | ⟨g, hA, hg, hc⟩⟩ := h
  · exact ⟨A, c, hv, .inl h⟩
  · exact ⟨A, c, hv, .inr ⟨g, hA, ⟨hg.1, Nat.lt_of_lt_of_le hg.2 hb.size⟩, fun j i hj hi => (hb.cell (p := ⟨g, j * 24 + i, none⟩) hg.2).trans (hc j i hj hi)⟩⟩
theorem IsMs.lower {w : World} {lo B : Nat} {v : Value} {ms : List (List Int)} (h : IsMs w lo v ms) (hB : B ≤ lo) : IsMs w B v ms := by
  obtain ⟨A, c, hv, h | ⟨g, hA, hg, hc⟩⟩ := h
  · exact ⟨A, c, hv, .inl h⟩
  · exact ⟨A, c, hv, .inr ⟨g, hA, ⟨by omega, hg.2⟩, hc⟩⟩
theorem IsMs.far {w : World} {lo : Nat} {v : Value} {ms : List (List Int)} (h : IsMs w lo v ms) (p : Addr) (u : Value) (hp : p.block < lo) : IsMs (w.setCell p u) lo v ms := by
  obtain ⟨A, c, hv, h | ⟨g, hA, hg, hc⟩⟩ := h
  · exact ⟨A, c, hv, .inl h⟩
  · exact ⟨A, c, hv, .inr ⟨g, hA, ⟨hg.1, by simpa using hg.2⟩, fun j i hj hi => (World.cell?_of_block (a := ⟨g, j * 24 + i, none⟩) (Below.heap_setCell w p u g (by omega))).trans (hc j i hj hi)⟩⟩
theorem isMs_of_own {w : World} {B e g c n : Nat} {ms : List (List Int)} (h : w.ownsRow B e 24 (.slice (some ⟨g, 0, none⟩) n c) n (iv (flK ms n))) (hw : wide ms) (hn : ms.length = n) : IsMs w B (.slice (some ⟨g, 0, none⟩) n c) ms := by
  refine ⟨_, c, by rw [hn], .inr ⟨g, rfl, h.lt g rfl, fun j i hj hi => ?_⟩⟩
  have hf := flat_get ms hw j i hj hi
  have hl := flat_len ms hw
  have hlt : j * 24 + i < (flK ms n).length := by rw [flK_len ms n hw (by omega)]; omega
  rw [h.cellAt (j * 24 + i) (by rw [flK_len ms n hw (by omega)] at hlt; omega), iv_get _ _ hlt]
  have e : (flK ms n)[j * 24 + i]? = some ((ms.getD j []).getD i 0) := by
    unfold flK
    rw [List.getElem?_append_left (by rw [hl]; omega)]
    exact hf
  rw [List.getElem?_eq_getElem hlt] at e
  injection e with e
  rw [e]
/-- a map of a row of one's own, as a range -/
theorem range_of_own {w : World} {B e g c n : Nat} {ms : List (List Int)} (h : w.ownsRow B e 24 (.slice (some ⟨g, 0, none⟩) n c) n (iv (flK ms n))) (hw : wide ms) (hn : ms.length ≤ n) (j : Nat) (hj : j < ms.length) : w.rangeAt g (j * 24) (iv (ms.getD j [])) := by
  intro i v hv
  have hrow : (ms.getD j []).length = 24 := by rw [List.getD_eq_getElem?_getD, List.getElem?_eq_getElem hj]; exact hw _ (List.getElem_mem hj)
  have hi : i < 24 := by have := (List.getElem?_eq_some_iff.1 hv).1; rw [iv_len, hrow] at this; exact this
  rw [iv_get _ i (by omega)] at hv
  injection hv with hv
  subst hv
  have hf := flat_get ms hw j i hj hi
  have hl := flat_len ms hw
  have hlt : j * 24 + i < (flK ms n).length := by rw [flK_len ms n hw hn]; omega
  rw [h.cellAt (j * 24 + i) (by rw [flK_len ms n hw hn] at hlt; omega), iv_get _ _ hlt]
  have e : (flK ms n)[j * 24 + i]? = some ((ms.getD j []).getD i 0) := by
    unfold flK
    rw [List.getElem?_append_left (by rw [hl]; omega)]
    exact hf
  rw [List.getElem?_eq_getElem hlt] at e
  injection e with e
  rw [e, List.getD_eq_getElem?_getD, List.getElem?_eq_getElem (by omega)]
  rfl
theorem there_of_own {w : World} {B e g c n : Nat} {ms : List (List Int)} (h : w.ownsRow B e 24 (.slice (some ⟨g, 0, none⟩) n c) n (iv (flK ms n))) (hw : wide ms) (hn : ms.length < n) : w.there g (ms.length * 24) 24 := by
  intro i hi
  have hlt : ms.length * 24 + i < (flK ms n).length := by rw [flK_len ms n hw (by omega)]; omega
  refine ⟨?_, h.frozenAt _⟩
  rw [h.cellAt _ (by rw [flK_len ms n hw (by omega)] at hlt; omega), iv_get _ _ hlt]
  rfl
theorem Try.info_map : (Try.prog.info? 147).map (fun i => (i.zero, i.size, i.bytes)) = some (some (.agg (iv (List.replicate 24 0)).toArray), 24, 192) := by kernel_rfl
theorem made_map (n : Nat) : (madeCells (Value.agg (iv (List.replicate 24 0)).toArray).cells (n * 24)).toList = iv (flK [] n) := by
  apply List.ext_getElem
  · simp [madeCells, iv, flK]
  · intro i h1 h2
    have : (i % 24) < 24 := Nat.mod_lt _ (by omega)
    simp only [madeCells, iv, flK, Value.cells]
    simp
    show (List.replicate 24 (Value.int .i64 0))[i % 24]?.getD default = _
    rw [List.getElem?_replicate, if_pos this]
    rfl
theorem tm_ll (v : Value) (w : World) : (Instr.typeAssert (.iface 132 v) 135 132 true).run Try.prog w = .ok (.tuple #[v, .bool true]) w := by kernel_rfl
theorem tm_pl (v : Value) (w : World) : (Instr.typeAssert (.iface 148 v) 135 132 true).run Try.prog w = .ok (.tuple #[.agg #[.string ⟨#[]⟩, .int .i64 0, .int .i64 0], .bool false]) w := by kernel_rfl
theorem tm_pp (v : Value) (w : World) : (Instr.typeAssert (.iface 148 v) 135 148 true).run Try.prog w = .ok (.tuple #[v, .bool true]) w := by kernel_rfl
theorem range_steps {w : World} {T : Nat} {nx : List (List Int)} {t : TypeId} (h : w.heap[T]? = some (.cells (iv (stAll nx)).toArray t (0, 0))) (d : Nat) (hd : d < 4) : w.rangeAt T (d * 24) (iv (stepsRow nx d)) := by
  intro i v hv
  have hi : i < 24 := by have := (List.getElem?_eq_some_iff.1 hv).1; rw [iv_len, stepsRow_len] at this; exact this
  rw [iv_get _ i (by rw [stepsRow_len]; exact hi)] at hv
  injection hv with hv
  subst hv
  rw [cell_of_row _ _ _ _ _ _ h, List.getElem?_toArray, iv_get _ _ (by rw [stAll_len]; omega)]
  simp only [stAll, stepsRow, List.getElem_map, List.getElem_range]
  rw [show (d * 24 + i) % 24 = i from by omega, show (d * 24 + i) / 24 = d from by omega]
theorem mapsK_wide {nx : List (List Int)} {st : Int} {gs : List Rl} (h : nx.all (rowOk st) = true) (hl : (nx.length : Int) = st) (h1 : 1 ≤ st) (h24 : st ≤ 24) (hfit : fits gs = true) (k : Nat) (hk : k ≤ gs.length) : wide (mapsK nx gs k) := by
  intro r hr
  obtain ⟨j, hj, rfl⟩ := List.mem_iff_getElem.1 hr
  have hjk : j < k := by rwa [mapsK_len] at hj
  have := (mapsK_ok h hl h1 h24 hfit k hk j hjk).1
  rwa [List.getD_eq_getElem?_getD, List.getElem?_eq_getElem hj, Option.getD_some] at this
/-- what holds between two rules: w is the world ahead of the maps, which lie in block M -/
def WkRel (nx : List (List Int)) (gs : List Rl) (w : World) (M n : Nat) (i : Value) (wr : World) : Prop :=
  ∃ k : Nat, k ≤ n ∧ i = .int .i64 k ∧ wr.ownsRow M 147 24 (.slice (some ⟨M, 0, none⟩) n n) n (iv (flK (mapsK nx gs k) n)) ∧ Below M w wr
theorem wk_store {w : World} {M n : Nat} {ms : List (List Int)} {row : List Int} (h : w.ownsRow M 147 24 (.slice (some ⟨M, 0, none⟩) n n) n (iv (flK ms n))) (hw : wide ms) (hr : row.length = 24) (hn : ms.length < n) :
    (w.setCells M (ms.length * 24) (iv row)).ownsRow M 147 24 (.slice (some ⟨M, 0, none⟩) n n) n (iv (flK (ms ++ [row]) n)) := by
  have := own_setCells (iv row) (ms.length * 24) w _ h (by rw [iv_len, iv_len, hr, flK_len ms n hw (by omega)]; omega)
  rwa [flK_store ms n row hw hr hn] at this
theorem mapsK_next (nx : List (List Int)) (gs : List Rl) (k : Nat) (h : k < gs.length) : mapsK nx gs (k + 1) = mapsK nx gs k ++ [rowM nx (mapsK nx gs k) gs[k]] := by
  rw [mapsK, List.getD_eq_getElem?_getD, List.getElem?_eq_getElem h]
  rfl
/-- a walk's value over rules that came in; its lengths and maps lie in blocks from lo on -/
def IsW (w : World) (lo : Nat) (wv gv : Value) (gs : List Rl) (nx : List (List Int)) (go : Int) : Prop :=
  ∃ lv mv, wv = .agg #[gv, lv, mv, .int .i64 go] ∧ OwnsI w lo lv (lens gs) ∧ IsMs w lo mv (mapsK nx gs gs.length)
theorem IsW.kept {w w' : World} {lo : Nat} {wv gv : Value} {gs : List Rl} {nx : List (List Int)} {go : Int} (h : IsW w lo wv gv gs nx go) (hb : Below w.heap.size w w') : IsW w' lo wv gv gs nx go := by
  obtain ⟨lv, mv, h0, h2, h3⟩ := h
  exact ⟨lv, mv, h0, own_below h2 hb (Nat.le_refl _), h3.kept hb⟩
theorem IsW.lower {w : World} {lo B : Nat} {wv gv : Value} {gs : List Rl} {nx : List (List Int)} {go : Int} (h : IsW w lo wv gv gs nx go) (hB : B ≤ lo) : IsW w B wv gv gs nx go := by
  obtain ⟨lv, mv, h0, h2, h3⟩ := h
  exact ⟨lv, mv, h0, own_lower h2 hB, h3.lower hB⟩
theorem IsW.far {w : World} {lo : Nat} {wv gv : Value} {gs : List Rl} {nx : List (List Int)} {go : Int} (h : IsW w lo wv gv gs nx go) (p : Addr) (u : Value) (hp : p.block < lo) : IsW (w.setCell p u) lo wv gv gs nx go := by
  obtain ⟨lv, mv, h0, h2, h3⟩ := h
  exact ⟨lv, mv, h0, own_setLow h2 p u hp, h3.far p u hp⟩
theorem IsW.shape {w : World} {lo : Nat} {wv gv : Value} {gs : List Rl} {nx : List (List Int)} {go : Int} (h : IsW w lo wv gv gs nx go) : ∃ A2 c2 A3 c3, wv = .agg #[gv, .slice A2 (lens gs).length c2, .slice A3 gs.length c3, .int .i64 go] := by
  obtain ⟨lv, mv, rfl, h2, h3⟩ := h
  obtain ⟨A2, c2, rfl⟩ := own_slice h2
  obtain ⟨A3, c3, rfl, h3'⟩ := h3
  exact ⟨A2, c2, A3, c3, by rw [mapsK_len]⟩
def zeroW : Value := .agg #[.slice none 0 0, .slice none 0 0, .slice none 0 0, .int .i64 0]
set_option maxRecDepth 100000 in
set_option maxHeartbeats 12800000 in
theorem walkOf_any (go st : Int) (nv : Value) (nx : List (List Int)) (v : Value) (gs : List Rl) (w : World) (h1 : 1 ≤ st) (h24 : st ≤ 24) (hrow : nx.all (rowOk st) = true) (hlen : (nx.length : Int) = st) (hN : IsLL w nv nx) (hf : FewR gs) (hr : Rules w v gs) :
    Calls Try.prog 76 #[.int .i64 go, nv, .agg #[v]] w fun e w' => ∃ wv, e = .returned (.tuple #[wv, .bool (gOk gs)]) ∧ (gOk gs = true → IsW w' w.heap.size wv v gs nx go) ∧ (gOk gs = false → wv = zeroW) ∧ Below w.heap.size w w' := by
  obtain ⟨i0, hi, hz0, hz1, hz2⟩ := info_parts Try.info_map
  have hzv := (zero_of_info (P := Try.prog) zero_steps).1
  have hb : Below w.heap.size w ((w.alloc (.cells #[v] 37)).alloc (.cells #[.slice none 0 0, .slice none 0 0, .slice none 0 0, .int .i64 0] 76)) := ((Below.refl _ w).alloc (Nat.le_refl _) _).alloc (by simp) _
  have hG : ((w.alloc (.cells #[v] 37)).alloc (.cells #[.slice none 0 0, .slice none 0 0, .slice none 0 0, .int .i64 0] 76)).cell? ⟨w.heap.size, 0, none⟩ = some v := by
    have b2 := (Below.refl _ (w.alloc (.cells #[v] 37))).alloc (Nat.le_refl _) (.cells #[.slice none 0 0, .slice none 0 0, .slice none 0 0, .int .i64 0] 76)
    exact (b2.cell (p := ⟨w.heap.size, 0, none⟩) (by simp)).trans (cell_new w v _)
  have hR : B4 ((w.alloc (.cells #[v] 37)).alloc (.cells #[.slice none 0 0, .slice none 0 0, .slice none 0 0, .int .i64 0] 76)) (w.heap.size + 1) (.slice none 0 0) (.slice none 0 0) (.slice none 0 0) (.int .i64 0) 76 := by
    have := B4.new (w.alloc (.cells #[v] 37)) (.slice none 0 0) (.slice none 0 0) (.slice none 0 0) (.int .i64 0) 76
    rwa [show (w.alloc (.cells #[v] 37)).heap.size = w.heap.size + 1 from by simp] at this
  have hl1 := len.vlen_any v gs _ hf (hr.kept hb)
  unfold LensPost at hl1
  have HL := Lib.hid hl1
  have HB := Lib.hid hb
  have HG := Lib.hid hG
  have HR := Lib.hid hR
  have HRU := Lib.hid (fun W (hb : Below w.heap.size w W) => hr.kept hb)
  have HS := Lib.hid (fun W (hb : Below w.heap.size w W) => stepsOf_any nv nx st W hlen h24 hrow (hN.kept hb))
  have HROW := Lib.hid hrow
  have HLEN := Lib.hid hlen
  obtain ⟨An, cn, rfl, _⟩ := hN
  obtain ⟨Av, cv, rfl, _⟩ := hr
  clear hb hR hl1 hrow hlen
  cases hok : gOk gs
  · rw [hok] at HL
    clear hok
    go_enter Try.func76, Try.ntmps76
    go_wp2_with fail
    refine HL.out.mono ?_
    rintro e w3 ⟨x, rfl, _, hB3⟩
    have HB3 := Lib.hid (HB.out.trans (hB3.mono HB.out.size))
    have HR3 := Lib.hid (HR.out.kept hB3)
    obtain ⟨⟨r0, r1, r2, r3⟩, g0, g1, g2, g3⟩ := blk4_cells HR3.out
    have HE := Lib.hid (blk4_cells (blk4_all (a' := .slice none 0 0) (b' := .slice none 0 0) (c' := .slice none 0 0) (d' := .int .i64 0) HR3.out)).1
    clear hB3
    go_wp2_with fail
    obtain ⟨y0, y1, y2, y3⟩ := HE.out
    refine bodyPost_ret (v := .tuple #[zeroW, .bool false]) (by simp [results, Try.results76, go_sem, y0, y1, y2, y3, zeroW]) rfl ⟨_, rfl, fun h => (by cases h), fun _ => rfl, ?_⟩
    exact (((HB3.out.setCell (by simp) _).setCell (by simp) _).setCell (by simp) _).setCell (by simp) _
  · rw [hok] at HL
    have HOK := Lib.hid hok
    have HFIT := Lib.hid (gOk_iff.1 hok).2.1
    have hn400 := gOk_len hok
    clear hok
    go_enter Try.func76, Try.ntmps76
    go_wp2_with fail
    refine HL.out.mono ?_
    rintro e w3 ⟨x, rfl, ho3, hB3⟩
    have ho3 := ho3 trivial
    have HO3 : Hid (OwnsI w3 (w.heap.size + 2) x (lens gs)) := Lib.hid (by have := ho3; simpa using this)
    obtain ⟨Ax, cx, rfl⟩ := own_slice ho3
    have HB3 := Lib.hid (HB.out.trans (hB3.mono HB.out.size))
    have HR3 := Lib.hid (HR.out.kept hB3)
    have HG3 := Lib.hid ((hB3.cell (p := ⟨w.heap.size, 0, none⟩) (lt_of_cell HG.out)).trans HG.out)
    clear hB3 ho3 hG
    go_wp2_with fail
    refine (HS.out _ HB3.out).mono ?_
    rintro e w4 ⟨rfl, hB4⟩
    have HB4 := Lib.hid (HB3.out.trans (hB4.mono HB3.out.size))
    have HR4 := Lib.hid (HR3.out.kept hB4)
    have HO4 := Lib.hid (own_below HO3.out hB4 (Nat.le_refl _))
    have HG4 := Lib.hid ((hB4.cell (p := ⟨w.heap.size, 0, none⟩) (lt_of_cell HG3.out)).trans HG3.out)
    clear hB4
    obtain ⟨T, hT⟩ : ∃ T, T = w4.heap.size := ⟨_, rfl⟩
    have hsm : (Try.prog.info? 159).map (·.size) = some (iv (stAll nx)).toArray.size := by rw [(zero_of_info zero_steps).2]; simp [iv, stAll_len]
    have hz : (iv Z96).toArray.size = (iv (stAll nx)).toArray.size := by simp [iv, stAll_len, Z96]
    have ho1 : (iv (stAll nx)).toArray.all (·.oneCell') = true := all_oneCell_toArray (fun v hv => by obtain ⟨x, _, rfl⟩ := List.mem_map.1 hv; rfl)
    have HSM := Lib.hid (And.intro hsm (And.intro hz ho1))
    have hT4 := heap_alloc_new w4 (.cells (iv Z96).toArray 159)
    have HTC := Lib.hid (setRow_heap _ w4.heap.size _ (iv (stAll nx)).toArray _ _ hT4)
    have hb5 : Below w4.heap.size w4 ((w4.alloc (.cells (iv Z96).toArray 159)).setRow w4.heap.size (iv (stAll nx)).toArray) := bSetRow ((Below.refl _ w4).alloc (Nat.le_refl _) _) (Nat.le_refl _) _
    have HT4 := Lib.hid hT4
    have HB5 := Lib.hid (HB4.out.trans (hb5.mono HB4.out.size))
    have HR5 := Lib.hid (HR4.out.kept hb5)
    have HO5 := Lib.hid (own_below HO4.out hb5 (Nat.le_refl _))
    have HG5 := Lib.hid ((hb5.cell (p := ⟨w.heap.size, 0, none⟩) (lt_of_cell HG4.out)).trans HG4.out)
    have HTL : Hid (w.heap.size + 1 < T) := Lib.hid (by rw [hT]; exact HR4.out.lt)
    clear hsm hz ho1 hT4 hb5
    go_upto_region 5 with (with_reducible refine wpList_store_row rfl 159 _ _ rfl w4.heap.size _ rfl rfl 159 _ HT4.out HSM.out.1 HSM.out.2.1 HSM.out.2.2 ?_)
    rw [← hT] at HTC HB5 HR5 HO5 HG5 ⊢
    clear HT4 HSM
    generalize (w4.alloc (.cells (iv Z96).toArray 159)).setRow T (iv (stAll nx)).toArray = w5 at *
    clear hT hzv
    have hg5 := HG5.out
    have hs5 := HB5.out.size
    obtain ⟨n, hne⟩ : ∃ n, n = gs.length := ⟨_, rfl⟩
    rw [← hne] at hn400 hg5
    rw [← hne]
    have HN := Lib.hid hne
    clear hne
    go_wp2_with (refine wpList_make_full _ rfl _ _ 73 rfl w5.heap.size 147 i0 (.agg (iv (List.replicate 24 0)).toArray) 24 Try.underlying73 hi hz0 hz1 .i64 .i64 _ _ n rfl rfl rfl rfl (by rw [hz2]; omega) (by unfold maxLen; omega) (Nat.le_refl _) ?_)
    intro w6 hown hgr
    have hown : w6.ownsRow w5.heap.size 147 24 (.slice (some ⟨w5.heap.size, 0, none⟩) n n) n (iv (flK [] n)) := by rw [← made_map]; exact hown
    have hB6 := below_of_grown hgr
    obtain ⟨M, hM⟩ : ∃ M, M = w5.heap.size := ⟨_, rfl⟩
    rw [← hM] at hown hB6 ⊢
    have HST : Hid (WkRel nx gs w5 M n (.int .i64 0) w6) := Lib.hid ⟨0, Nat.zero_le _, rfl, hown, hB6⟩
    have HME := Lib.hid hM
    have hTM : T < M := by rw [hM]; exact (Array.getElem?_eq_some_iff.1 HTC.out).1
    have hg6 := (hB6.cell (p := ⟨w.heap.size, 0, none⟩) (by rw [hM]; exact lt_of_cell HG5.out)).trans HG5.out
    rw [← HN.out] at hg6
    clear hown hgr hB6 hM hg5 hs5
    go_wp2_with fail
    clear hg6
    go_loopw [12, 13, 14, 15, 33] (fun _ _ _ _ i wr => WkRel nx gs w5 M n i wr) (fun _ _ _ _ i _ => n - (intOf i).toNat)
    case atStart => exact HST.out
    case round =>
      obtain ⟨k, hk, rfl, hown, hB⟩ := hrel
      obtain ⟨wo, rfl⟩ : ∃ wo : World, wo = wr := ⟨_, rfl⟩
      have hB' : Below w5.heap.size w5 wo := by rw [← HME.out]; exact hB
      have hBw := HB5.out.trans (hB'.mono HB5.out.size)
      by_cases hkn : k < n
      · have hkg : k < gs.length := by rw [← HN.out]; exact hkn
        obtain ⟨Ay, cy, hvy, hcy⟩ := HRU.out wo hBw
        injection hvy with hvA _ hvc
        subst hvA hvc
        rcases hcy with hn0 | ⟨g, rfl, hg, hc⟩
        · rw [hn0] at hkg; simp at hkg
        obtain ⟨a0, a1, a2⟩ := rules_cells hc hkg
        have hfit := fits_at HFIT.out k hkg
        have hml := mapsK_len nx gs k
        have hw := mapsK_wide HROW.out HLEN.out h1 h24 HFIT.out k (by omega)
        have hnx := mapsK_next nx gs k hkg
        have hok := mapsK_ok HROW.out HLEN.out h1 h24 HFIT.out k (by omega)
        have HOW := Lib.hid hown
        have HBo := Lib.hid hB
        have HW := Lib.hid hw
        have HML := Lib.hid hml
        have hMl : M < wo.heap.size := (hown.lt M rfl).2
        have HTo := Lib.hid ((hB'.block T (by rw [← HME.out]; exact hTM)).trans HTC.out)
        generalize hms : mapsK nx gs k = ms at *
        have k0 : (0 : Int) ≤ (k : Int) := by omega
        have k1 : (k : Int) < (n : Int) := by omega
        clear hc hB hB' hBw hms
        by_cases h0 : gs[k].L.size = 0
        · have hp := (ok_pair h0).1 hfit
          have HK := Lib.hid (fun W => kind_pair gs[k] h0 W)
          have HT1 := tm_pl
          have HT2 := tm_pp
          have hrw : rowM nx ms gs[k] = thenRow (ms.getD gs[k].l.toNat []) (ms.getD gs[k].r.toNat []) := by unfold rowM; rw [if_pos h0]
          generalize gs[k] = R at *
          obtain ⟨L, l, r⟩ := R
          simp only at hp hrw a0 a1 a2 HK
          obtain ⟨a, rfl⟩ : ∃ a : Nat, l = a := ⟨l.toNat, by omega⟩
          obtain ⟨b, rfl⟩ : ∃ b : Nat, r = b := ⟨r.toNat, by omega⟩
          rw [Int.toNat_natCast, Int.toNat_natCast] at hrw
          have ha : a < k := by omega
          have hb : b < k := by omega
          have hoa := hok a ha
          have hob := hok b hb
          have HRA := Lib.hid (fun w8 (hb8 : Below wo.heap.size wo w8) => range_of_own (own_below HOW.out hb8 (Nat.le_refl _)) HW.out (by omega) a (by omega))
          have HRB := Lib.hid (fun w8 (hb8 : Below wo.heap.size wo w8) => range_of_own (own_below HOW.out hb8 (Nat.le_refl _)) HW.out (by omega) b (by omega))
          have HTHR := Lib.hid (fun w8 (hb8 : Below wo.heap.size wo w8) => by
            have := there_of_own (own_below HOW.out hb8 (Nat.le_refl _)) HW.out (by rw [HML.out]; exact hkn)
            rw [HML.out] at this
            exact this)
          generalize ms.getD a [] = ma at *
          generalize ms.getD b [] = mb at *
          have hT24 := thenRow_ok h24 hoa hob
          have HTHEN := Lib.hid (fun W => then_any ma mb st h24 hoa hob W)
          have hsa : (Try.prog.info? 147).map (·.size) = some (iv ma).length := by rw [size_map, iv_len, hoa.1]
          have hsb : (Try.prog.info? 147).map (·.size) = some (iv mb).length := by rw [size_map, iv_len, hob.1]
          have hsr : (Try.prog.info? 147).map (·.size) = some (iv (thenRow ma mb)).length := by rw [size_map, iv_len, hT24.1]
          have hlr : (iv (thenRow ma mb)).length = 24 := by rw [iv_len, hT24.1]
          have ho1 : ∀ v ∈ iv (thenRow ma mb), v.oneCell' = true := fun v hv => by obtain ⟨x, _, rfl⟩ := List.mem_map.1 hv; rfl
          have HZR : Hid ((Try.prog.info? 147).map (·.size) = some (iv (thenRow ma mb)).toArray.size) := Lib.hid (by rw [hsr]; simp)
          have HONE : Hid ((iv (thenRow ma mb)).toArray.all (·.oneCell') = true) := Lib.hid (all_oneCell_toArray ho1)
          have HNX : Hid (∀ w8, Below wo.heap.size wo w8 → WkRel nx gs w5 M n (.int .i64 ((k + 1 : Nat) : Int)) (w8.setCells M (k * 24) (iv (thenRow ma mb)))) := Lib.hid (fun w8 hb8 => by
            refine ⟨k + 1, hkn, rfl, ?_, below_setCells _ _ _ _ (Nat.le_refl _) (HBo.out.trans (hb8.mono (by omega)))⟩
            have := wk_store (row := thenRow ma mb) (own_below HOW.out hb8 (Nat.le_refl _)) HW.out hT24.1 (by rw [HML.out]; exact hkn)
            rw [hnx, hrw, ← HML.out]
            exact this)
          have a0' : (0 : Int) ≤ (a : Int) := by omega
          have a1' : (a : Int) < (n : Int) := by omega
          have b0' : (0 : Int) ≤ (b : Int) := by omega
          have b1' : (b : Int) < (n : Int) := by omega
          have hu := und_map
          clear hnx hrw hok hown hfit h0 hml hw hp hoa hob hT24
          go_wp2_with fail
          refine (HK.out _).mono ?_
          rintro e w7 ⟨rfl, hB7⟩
          have hb7 := ((Below.refl _ wo).alloc (Nat.le_refl _) (.cells #[.string L, .int .i64 a, .int .i64 b] 128)).trans (hB7.mono (by simp))
          have hb8 := hb7.alloc hb7.size (.cells #[.string L, .int .i64 a, .int .i64 b] 148)
          have kcs := heap_alloc_new w7 (.cells #[.string L, .int .i64 a, .int .i64 b] 148)
          have kc1 : (w7.alloc (.cells #[.string L, .int .i64 a, .int .i64 b] 148)).cell? ⟨w7.heap.size, 1, none⟩ = some (.int .i64 a) := by rw [cell_of_row _ _ _ _ _ _ kcs]; rfl
          have kc2 : (w7.alloc (.cells #[.string L, .int .i64 a, .int .i64 b] 148)).cell? ⟨w7.heap.size, 2, none⟩ = some (.int .i64 b) := by rw [cell_of_row _ _ _ _ _ _ kcs]; rfl
          have HB8 := Lib.hid hb8
          obtain ⟨Kp, hKp⟩ : ∃ Kp, Kp = w7.heap.size := ⟨_, rfl⟩
          have hM7 : M < w7.heap.size := by have := hb7.size; omega
          have hKl : w7.heap.size < (w7.alloc (.cells #[.string L, .int .i64 a, .int .i64 b] 148)).heap.size := by simp
          clear a0 a1 a2 hB7 hb7 hb8 kcs
          go_upto_region 15 with fail
          have hKM : Kp ≠ M := by have := HB8.out.size; rw [hKp]; omega
          rw [← hKp] at kc1 kc2 hKl ⊢
          generalize w7.alloc (.cells #[.string L, .int .i64 a, .int .i64 b] 148) = w8 at *
          clear hKp
          have hb8d : Below wo.heap.size wo w8.drew := below_drewN HB8.out 1
          have hS0 : (fun w' : World => w'.cell? ⟨Kp, 1, none⟩ = some (.int .i64 (a : Int)) ∧ w'.cell? ⟨Kp, 2, none⟩ = some (.int .i64 (b : Int)) ∧ w'.rangeAt M (a * 24) (iv ma) ∧ w'.rangeAt M (b * 24) (iv mb)) w8.drew := ⟨kc1, kc2, HRA.out w8.drew hb8d, HRB.out w8.drew hb8d⟩
          refine wp_region_held_drew (S := fun w' : World => w'.cell? ⟨Kp, 1, none⟩ = some (.int .i64 (a : Int)) ∧ w'.cell? ⟨Kp, 2, none⟩ = some (.int .i64 (b : Int)) ∧ w'.rangeAt M (a * 24) (iv ma) ∧ w'.rangeAt M (b * 24) (iv mb)) (by kernel_rfl) hS0 (fun hHeld => ?_)
          refine takeH (i := 0) (dst := some 54) (v := ?_) rfl (by kernel_rfl) (by kernel_rfl) (by kernel_rfl) (fun _ _ _ h => h) (Or.inl ⟨by rfl, ?_⟩) (by assumption) ?_
          rotate_left 1
          · (intro w hSw; (try dsimp only at hSw); go_simp; try (with_reducible rfl))
          simp only [Act.put, List.setIfInBounds_toArray, List.set_cons_zero, List.set_cons_succ]
          refine takeH (i := 1) (dst := some 55) (v := ?_) rfl (by kernel_rfl) (by kernel_rfl) (by kernel_rfl) (fun _ _ _ h => h) (Or.inl ⟨by rfl, ?_⟩) (by assumption) ?_
          rotate_left 1
          · (intro w hSw; (try dsimp only at hSw); go_simp; try (with_reducible rfl))
          simp only [Act.put, List.setIfInBounds_toArray, List.set_cons_zero, List.set_cons_succ]
          refine takeH (i := 2) (dst := some 56) (v := ?_) rfl (by kernel_rfl) (by kernel_rfl) (by kernel_rfl) (fun _ _ _ h => h) (Or.inl ⟨by rfl, ?_⟩) (by assumption) ?_
          rotate_left 1
          · (intro w hSw; (try dsimp only at hSw); go_simp; try (with_reducible rfl))
          simp only [Act.put, List.setIfInBounds_toArray, List.set_cons_zero, List.set_cons_succ]
          refine takeH (i := 3) (dst := some 57) (v := ?_) rfl (by kernel_rfl) (by kernel_rfl) (by kernel_rfl) (fun _ _ _ h => h) (Or.inl ⟨by rfl, ?_⟩) (by assumption) ?_
          rotate_left 1
          · (intro w hSw; (try dsimp only at hSw); go_simp; try (with_reducible rfl))
          simp only [Act.put, List.setIfInBounds_toArray, List.set_cons_zero, List.set_cons_succ]
          refine takeH (i := 4) (dst := some 58) (v := ?_) rfl (by kernel_rfl) (by kernel_rfl) (by kernel_rfl) (fun _ _ _ h => h) (Or.inl ⟨by rfl, ?_⟩) (by assumption) ?_
          rotate_left 1
          · (intro w hSw; (try dsimp only at hSw); go_simp; try (with_reducible rfl))
          simp only [Act.put, List.setIfInBounds_toArray, List.set_cons_zero, List.set_cons_succ]
          refine takeH (i := 5) (dst := some 59) (v := ?_) rfl (by kernel_rfl) (by kernel_rfl) (by kernel_rfl) (fun _ _ _ h => h) (Or.inl ⟨by rfl, ?_⟩) (by assumption) ?_
          rotate_left 1
          · (intro w hSw; (try dsimp only at hSw); go_simp; try (with_reducible rfl))
          simp only [Act.put, List.setIfInBounds_toArray, List.set_cons_zero, List.set_cons_succ]
          refine takeH (i := 6) (dst := some 60) (v := .agg (iv ma).toArray) rfl (by kernel_rfl) (by kernel_rfl) (by kernel_rfl) (fun _ _ _ h => h) (yieldsIf_load_mid (by rfl) _ _ rfl M (a * 24) rfl (iv ma) _ (fun w hw => hw.2.2.1) und_map rfl hsa) (by assumption) ?_
          simp only [Act.put, List.setIfInBounds_toArray, List.set_cons_zero, List.set_cons_succ]
          refine takeH (i := 7) (dst := some 61) (v := ?_) rfl (by kernel_rfl) (by kernel_rfl) (by kernel_rfl) (fun _ _ _ h => h) (Or.inl ⟨by rfl, ?_⟩) (by assumption) ?_
          rotate_left 1
          · (intro w hSw; (try dsimp only at hSw); go_simp; try (with_reducible rfl))
          simp only [Act.put, List.setIfInBounds_toArray, List.set_cons_zero, List.set_cons_succ]
          refine takeH (i := 8) (dst := some 62) (v := ?_) rfl (by kernel_rfl) (by kernel_rfl) (by kernel_rfl) (fun _ _ _ h => h) (Or.inl ⟨by rfl, ?_⟩) (by assumption) ?_
          rotate_left 1
          · (intro w hSw; (try dsimp only at hSw); go_simp; try (with_reducible rfl))
          simp only [Act.put, List.setIfInBounds_toArray, List.set_cons_zero, List.set_cons_succ]
          refine takeH (i := 9) (dst := some 63) (v := ?_) rfl (by kernel_rfl) (by kernel_rfl) (by kernel_rfl) (fun _ _ _ h => h) (Or.inl ⟨by rfl, ?_⟩) (by assumption) ?_
          rotate_left 1
          · (intro w hSw; (try dsimp only at hSw); go_simp; try (with_reducible rfl))
          simp only [Act.put, List.setIfInBounds_toArray, List.set_cons_zero, List.set_cons_succ]
          refine takeH (i := 10) (dst := some 64) (v := ?_) rfl (by kernel_rfl) (by kernel_rfl) (by kernel_rfl) (fun _ _ _ h => h) (Or.inl ⟨by rfl, ?_⟩) (by assumption) ?_
          rotate_left 1
          · (intro w hSw; (try dsimp only at hSw); go_simp; try (with_reducible rfl))
          simp only [Act.put, List.setIfInBounds_toArray, List.set_cons_zero, List.set_cons_succ]
          refine takeH (i := 11) (dst := some 65) (v := .agg (iv mb).toArray) rfl (by kernel_rfl) (by kernel_rfl) (by kernel_rfl) (fun _ _ _ h => h) (yieldsIf_load_mid (by rfl) _ _ rfl M (b * 24) rfl (iv mb) _ (fun w hw => hw.2.2.2) und_map rfl hsb) (by assumption) ?_
          simp only [Act.put, List.setIfInBounds_toArray, List.set_cons_zero, List.set_cons_succ]
          refine wpAnyH_ready (rs := [12]) (by kernel_rfl) (by simp) ?_
          refine AllReadyH.cons (o := ⟨some 66, _, _, _, _, none⟩) rfl (fun K hK => ?_) AllReadyH.nil
          go_simp
          go_at_call 101
          refine (HTHEN.out _).mono ?_
          rintro e w9 ⟨rfl, hB9⟩
          have hB9 := below_undrew hB9
          have hb89 := HB8.out.trans (hB9.mono HB8.out.size)
          have HN9 := Lib.hid (HNX.out w9 hb89)
          have TH : w9.there M (k * 24) (iv (thenRow ma mb)).toArray.size := by
            have := HTHR.out w9 hb89
            rw [show (iv (thenRow ma mb)).toArray.size = 24 from by simpa using hlr]
            exact this
          have RA9 := HRA.out w9 hb89
          have RB9 := HRB.out w9 hb89
          have la : (iv ma).length = 24 := by rw [size_map] at hsa; injection hsa with h; exact h.symm
          have lb : (iv mb).length = 24 := by rw [size_map] at hsb; injection hsb with h; exact h.symm
          refine hK.out _ _ ⟨(hB9.cell (p := ⟨Kp, 1, none⟩) hKl).trans kc1, (hB9.cell (p := ⟨Kp, 2, none⟩) hKl).trans kc2, RA9, RB9⟩ (fun hHeld => ?_)
          clear hK K
          try simp only [Act.put, List.setIfInBounds_toArray, List.set_cons_zero, List.set_cons_succ]
          refine takeH (i := 13) (dst := some 67) (v := ?_) rfl (by kernel_rfl) (by kernel_rfl) (by kernel_rfl) (fun _ _ _ h => h) (Or.inl ⟨by rfl, ?_⟩) (by assumption) ?_
          rotate_left 1
          · (intro w hSw; (try dsimp only at hSw); go_simp; try (with_reducible rfl))
          simp only [Act.put, List.setIfInBounds_toArray, List.set_cons_zero, List.set_cons_succ]
          refine wpAnyH_ready (rs := [14]) (by kernel_rfl) (by simp) ?_
          refine AllReadyH.cons (o := ⟨none, _, _, _, _, none⟩) rfl (fun K hK => ?_) AllReadyH.nil
          refine step_store_mid (by rfl) 147 _ _ (by rfl) M (k * 24) (iv (thenRow ma mb)).toArray (by rfl) (by rfl) TH HZR.out HONE.out ?_
          refine hK.out _ _ ⟨(World.cell?_of_block (a := ⟨Kp, 1, none⟩) (heap_setCells Kp _ M _ w9 hKM)).trans ((hB9.cell (p := ⟨Kp, 1, none⟩) hKl).trans kc1), (World.cell?_of_block (a := ⟨Kp, 2, none⟩) (heap_setCells Kp _ M _ w9 hKM)).trans ((hB9.cell (p := ⟨Kp, 2, none⟩) hKl).trans kc2), World.rangeAt_setCells_apart RA9 _ _ _ (by rw [la]; right; left; omega), World.rangeAt_setCells_apart RB9 _ _ _ (by rw [lb]; right; left; omega)⟩ (fun hHeld => ?_)
          clear hK K
          refine wpAnyH_done (by kernel_rfl) ?_ _
          go_wp2_with fail
          go_roundw
          all_goals first | exact HN9.out | ((repeat apply Exists.intro); exact ⟨HN9.out, rfl⟩) | (simp [intOf]; done) | (simp [intOf]; omega) | omega
        · have hst4 : ∀ l, l < 4 → mapOk st (stepsRow nx l) := fun l hl => stepsRow_ok HROW.out HLEN.out h1 hl
          obtain ⟨b, hL, hb1, hb2, hno⟩ := letter_byte h0 hfit
          have HK := Lib.hid (fun W => kind_letter gs[k] h0 W)
          have HT := tm_ll
          obtain ⟨d, hd⟩ : ∃ d : Nat, d = b.toNat - 97 := ⟨_, rfl⟩
          have hd1 : (b.toNat : Int) = (d : Int) + 97 := by omega
          have hd4 : d < 4 := by omega
          have HIX := Lib.hid (fun W => idx_letter b d hd1 hd4 W)
          have hrow : rowM nx ms gs[k] = stepsRow nx d := by unfold rowM; rw [if_neg h0, hno, hd]
          have hS24 := (hst4 d hd4).1
          have HNX : Hid (∀ w8, Below wo.heap.size wo w8 → WkRel nx gs w5 M n (.int .i64 ((k + 1 : Nat) : Int)) (w8.setCells M (k * 24) (iv (stepsRow nx d)))) := Lib.hid (fun w8 hb8 => by
            refine ⟨k + 1, hkn, rfl, ?_, below_setCells _ _ _ _ (Nat.le_refl _) (HBo.out.trans (hb8.mono (by omega)))⟩
            have := wk_store (row := stepsRow nx d) (own_below HOW.out hb8 (Nat.le_refl _)) HW.out hS24 (by rw [HML.out]; exact hkn)
            rw [hnx, hrow, ← HML.out]
            exact this)
          have HLB := Lib.hid hL
          generalize gs[k] = R at *
          clear hnx hrow hok hst4 hown hfit h0 hd hno hL hd1 hb1 hb2 hml hw
          go_wp2_with fail
          refine (HK.out _).mono ?_
          rintro e w7 ⟨rfl, hB7⟩
          have hb7 := ((Below.refl _ wo).alloc (Nat.le_refl _) (.cells #[.string R.L, .int .i64 R.l, .int .i64 R.r] 128)).trans (hB7.mono (by simp))
          have hb8 := hb7.alloc hb7.size (.cells #[.string R.L, .int .i64 R.l, .int .i64 R.r] 132)
          have hM7 : M < w7.heap.size := by have := hb7.size; omega
          have kc : (w7.alloc (.cells #[.string R.L, .int .i64 R.l, .int .i64 R.r] 132)).cell? ⟨w7.heap.size, 0, none⟩ = some (.string ⟨#[b]⟩) := by rw [cell_of_row _ _ _ _ _ _ (heap_alloc_new w7 _), ← HLB.out]; rfl
          have HB8 := Lib.hid hb8
          clear a0 a1 a2 hB7 hb7 hb8
          go_upto_region 12 with fail
          generalize w7.alloc (.cells #[.string R.L, .int .i64 R.l, .int .i64 R.r] 132) = w8 at *
          have hsz : (Try.prog.info? 147).map (·.size) = some (iv (stepsRow nx d)).length := by rw [size_map, iv_len, hS24]
          have HSZ := Lib.hid hsz
          have HRT := Lib.hid (range_steps (nx := nx) ((HB8.out.block T (by omega)).trans HTo.out) d hd4)
          have HTH : Hid (w8.there M (k * 24) (iv (stepsRow nx d)).toArray.size) := Lib.hid (by
            have := there_of_own (own_below HOW.out HB8.out (Nat.le_refl _)) HW.out (by rw [HML.out]; exact hkn)
            rw [HML.out] at this
            rw [show (iv (stepsRow nx d)).toArray.size = 24 from by simp [iv, hS24]]
            exact this)
          have HZA : Hid ((Try.prog.info? 147).map (·.size) = some (iv (stepsRow nx d)).toArray.size) := Lib.hid (by rw [hsz]; simp)
          have HONE : Hid ((iv (stepsRow nx d)).toArray.all (·.oneCell') = true) := Lib.hid (all_oneCell_toArray (fun v hv => by obtain ⟨x, _, rfl⟩ := List.mem_map.1 hv; rfl))
          have HN8 := Lib.hid (HNX.out w8 HB8.out)
          have hd0 : (0 : Int) ≤ (d : Int) := by omega
          have hd5 : (d : Int) < 4 := by omega
          clear hsz hS24 hM7 hMl
          go_wp2_with fail
          refine (HIX.out _).mono ?_
          rintro e w9 ⟨rfl, rfl⟩
          go_wp2_with (first
            | (with_reducible refine wpList_load_mid rfl 147 _ rfl T (d * 24) rfl (iv (stepsRow nx d)) _ HRT.out und_map rfl HSZ.out ?_)
            | (with_reducible refine wpList_store_mid rfl 147 _ _ rfl M (k * 24) (iv (stepsRow nx d)).toArray rfl rfl HTH.out HZA.out HONE.out ?_))
          go_roundw
          all_goals first | exact HN8.out | ((repeat apply Exists.intro); exact ⟨HN8.out, rfl⟩) | (simp [intOf]; done) | (simp [intOf]; omega) | omega
      · obtain rfl : k = n := by omega
        have HR9 := Lib.hid (HR5.out.kept hB')
        have HI9 := Lib.hid (own_below HO5.out hB' (Nat.le_refl _))
        have hg9 := (hB'.cell (p := ⟨w.heap.size, 0, none⟩) (lt_of_cell HG5.out)).trans HG5.out
        rw [← HN.out] at hg9
        have HRR := Lib.hid (HRU.out wo hBw)
        have HMS := Lib.hid (isMs_of_own hown (mapsK_wide HROW.out HLEN.out h1 h24 HFIT.out k (by have := HN.out; omega)) (mapsK_len nx gs k))
        have HBW := Lib.hid hBw
        have hR1 : w.heap.size + 1 < wo.heap.size := HR9.out.lt
        obtain ⟨⟨r0, r1, r2, r3⟩, g0, g1, g2, g3⟩ := blk4_cells HR9.out
        have HE := Lib.hid (blk4_cells (blk4_all (a' := .slice Av k cv) (b' := .slice Ax (lens gs).length cx) (c' := .slice (some ⟨M, 0, none⟩) k k) (d' := .int .i64 go) HR9.out)).1
        have HFIN : Hid (Below wo.heap.size wo wo) := Lib.hid (Below.refl _ _)
        have HMR : Hid (M ≠ w.heap.size + 1) := Lib.hid (by have := HTL.out; omega)
        have HSET : Hid (∀ d0 d1 d2 d3, IsW ((((wo.setCell ⟨w.heap.size + 1, 0, none⟩ d0).setCell ⟨w.heap.size + 1, 1, none⟩ d1).setCell ⟨w.heap.size + 1, 2, none⟩ d2).setCell ⟨w.heap.size + 1, 3, none⟩ d3) w.heap.size (.agg #[.slice Av k cv, .slice Ax (lens gs).length cx, .slice (some ⟨M, 0, none⟩) k k, .int .i64 go]) (.slice Av gs.length cv) gs nx go) := Lib.hid (fun d0 d1 d2 d3 => by
          have gk : wo.grownBy ((((wo.setCell ⟨w.heap.size + 1, 0, none⟩ d0).setCell ⟨w.heap.size + 1, 1, none⟩ d1).setCell ⟨w.heap.size + 1, 2, none⟩ d2).setCell ⟨w.heap.size + 1, 3, none⟩ d3) (some (w.heap.size + 1)) := by
            refine ⟨rfl, rfl, rfl, by simp, fun i hi hne => ?_⟩
            have hne' : i ≠ w.heap.size + 1 := fun e => hne (by rw [e])
            rw [Below.heap_setCell _ _ _ _ hne', Below.heap_setCell _ _ _ _ hne', Below.heap_setCell _ _ _ _ hne', Below.heap_setCell _ _ _ _ hne']
          have hwd := mapsK_wide HROW.out HLEN.out h1 h24 HFIT.out k (by have := HN.out; omega)
          have hms := isMs_of_own (World.ownsRow.kept hown gk (.inr (by simp [Value.ownBlock]; exact HMR.out))) hwd (mapsK_len nx gs k)
          rw [HN.out] at hms ⊢
          exact ⟨_, _, rfl, own_lower (own_setLow (own_setLow (own_setLow (own_setLow HI9.out _ _ (by simp)) _ _ (by simp)) _ _ (by simp)) _ _ (by simp)) (by omega), hms.lower (by rw [HME.out]; exact HB5.out.size)⟩)
        clear hown hB hB' hBw
        go_wp2_with fail
        obtain ⟨y0, y1, y2, y3⟩ := HE.out
        refine bodyPost_ret (v := .tuple #[.agg #[.slice Av k cv, .slice Ax (lens gs).length cx, .slice (some ⟨M, 0, none⟩) k k, .int .i64 go], .bool true]) (by simp [results, Try.results76, go_sem, y0, y1, y2, y3]) rfl ⟨_, rfl, fun _ => HSET.out _ _ _ _, fun h => (by cases h), ?_⟩
        exact (((HBW.out.setCell (by simp) _).setCell (by simp) _).setCell (by simp) _).setCell (by simp) _
end Go.Proofs.Ytapemoehcohjgaa
namespace Go.Proofs.Ytapemoehcohjgaa
open Go.RowKit
open Wd
set_option linter.unusedVariables false
theorem letterN_any (d : Nat) (hd : d < 4) (w : World) :
    Calls Try.prog 47 #[.int .u8 ((97 + d : Nat) : Int)] w fun e w' => e = .returned (.int .i64 (d : Int)) ∧ w' = w := by
  match d, hd with
  | 0, _ =>
    go_enter Try.func47, Try.ntmps47
    go_wp2
    go_ret
    exact ⟨rfl, rfl⟩
  | 1, _ =>
    go_enter Try.func47, Try.ntmps47
    go_wp2
    go_ret
    exact ⟨rfl, rfl⟩
  | 2, _ =>
    go_enter Try.func47, Try.ntmps47
    go_wp2
    go_ret
    exact ⟨rfl, rfl⟩
  | 3, _ =>
    go_enter Try.func47, Try.ntmps47
    go_wp2
    go_ret
    exact ⟨rfl, rfl⟩
end Go.Proofs.Ytapemoehcohjgaa
namespace Go.Proofs.Ytapemoehcohjgaa
open Go.RowKit
open Wd
set_option linter.unusedVariables false
namespace Wd
/-- the next state -/
def stepA (nx : List (List Int)) (t : Int) (c : UInt8) : Int := (nx.getD t.toNat []).getD (c.toNat - 97) 0
/-- the state behind k letters -/
def rdK (nx : List (List Int)) (t : Int) (l : List UInt8) : Nat → Int
  | 0 => t
  | k + 1 => stepA nx (rdK nx t l k) (l.getD k 97)
theorem row_facts {nx : List (List Int)} {st : Int} (h : nx.all (rowOk st) = true) {i : Nat} (hi : i < nx.length) : nx[i].length = 4 ∧ ∀ j (hj : j < nx[i].length), 0 ≤ nx[i][j] ∧ nx[i][j] < st := by
  have h1 := List.all_eq_true.1 h nx[i] (List.getElem_mem hi)
  unfold rowOk at h1
  rw [Bool.and_eq_true, decide_eq_true_iff] at h1
  refine ⟨h1.1, fun j hj => ?_⟩
  have := List.all_eq_true.1 h1.2 nx[i][j] (List.getElem_mem hj)
  rwa [decide_eq_true_iff] at this
theorem step_in {nx : List (List Int)} {st t : Int} {c : UInt8} (h : nx.all (rowOk st) = true) (hl : (nx.length : Int) = st) (h0 : 0 ≤ t ∧ t < st) (hc : lt c = true) : 0 ≤ stepA nx t c ∧ stepA nx t c < st := by
  have h1 := of_lt hc
  have hi : t.toNat < nx.length := by omega
  obtain ⟨h4, hr⟩ := row_facts h hi
  unfold stepA
  rw [List.getD_eq_getElem?_getD (l := nx), List.getElem?_eq_getElem hi, Option.getD_some, List.getD_eq_getElem?_getD, List.getElem?_eq_getElem (by omega), Option.getD_some]
  exact hr _ (by omega)
theorem rdK_in {nx : List (List Int)} {st t : Int} {l : List UInt8} (h : nx.all (rowOk st) = true) (hl : (nx.length : Int) = st) (h0 : 0 ≤ t ∧ t < st) (hc : okL l = true) : ∀ k, k ≤ l.length → 0 ≤ rdK nx t l k ∧ rdK nx t l k < st
  | 0, _ => h0
  | k + 1, hk => by
    have ih := rdK_in h hl h0 hc k (by omega)
    rw [rdK]
    refine step_in h hl ih ?_
    rw [List.getD_eq_getElem?_getD, List.getElem?_eq_getElem (by omega), Option.getD_some]
    exact okL_at hc (by omega)
end Wd
end Go.Proofs.Ytapemoehcohjgaa
namespace Go.Proofs.Ytapemoehcohjgaa
open Go.RowKit
open Wd
set_option linter.unusedVariables false
/-- the maps of all rules, as wide as there are states -/
def mapsN (nx : List (List Int)) (gs : List Rl) (N k : Nat) : List (List Int) := (mapsK nx gs k).map (·.take N)
theorem mapsN_len (nx : List (List Int)) (gs : List Rl) (N k : Nat) : (mapsN nx gs N k).length = k := by unfold mapsN; rw [List.length_map, mapsK_len]
theorem mapsN_get {nx : List (List Int)} {gs : List Rl} {N k j : Nat} (h : j < k) : (mapsN nx gs N k)[j]? = some (((mapsK nx gs k).getD j []).take N) := by
  unfold mapsN
  rw [List.getElem?_map, List.getElem?_eq_getElem (by rw [mapsK_len]; exact h)]
  rw [List.getD_eq_getElem?_getD, List.getElem?_eq_getElem (by rw [mapsK_len]; exact h)]
  rfl
/-- between two states of a rule -/
def InS (w : World) (y : Value) (U : List Value) (Z : List (List Int)) (B : Nat) (row : List Int) (s : Nat) (tv : Value) (wr : World) : Prop :=
  OwnM wr w.heap.size y U Z ∧ OwnsI wr B tv (row.take s) ∧ Below w.heap.size w wr ∧ B ≤ wr.heap.size
theorem InS.kept {w wr w1 : World} {y tv : Value} {U : List Value} {Z : List (List Int)} {B s : Nat} {row : List Int} (h : InS w y U Z B row s tv wr) (hb : Below wr.heap.size wr w1) : InS w y U Z B row s tv w1 :=
  ⟨h.1.kept hb, own_below h.2.1 hb (Nat.le_refl _), h.2.2.1.trans (hb.mono h.2.2.1.size), Nat.le_trans h.2.2.2 hb.size⟩
theorem InS.append {w wr w5 : World} {y tv tv' : Value} {U : List Value} {Z : List (List Int)} {B s : Nat} {row : List Int} {o : Obj} (h : InS w y U Z B row s tv wr) (hwB : w.heap.size ≤ B)
    (hU : ∀ u ∈ U, ∀ q, u.ownBlock = some q → q < B) (hy : ∀ q, y.ownBlock = some q → q < B) (hs : s < row.length)
    (hown : w5.ownsRow B 2 1 tv' (s + 1) (iv (row.take s) ++ [.int .i64 row[s]])) (hg : (wr.alloc o).grownBy w5 tv.ownBlock) : InS w y U Z B row (s + 1) tv' w5 := by
  obtain ⟨h1, h2, h3, h4⟩ := h
  have hrow : ∀ q, tv.ownBlock = some q → B ≤ q := fun q hq => (h2.lt q hq).1
  have hsz := hg.size
  refine ⟨(h1.kept ((Below.refl _ wr).alloc (Nat.le_refl _) o)).apart hU hy hg hrow, ?_, (h3.alloc h3.size o).grown hg (by have := h3.size; simp; omega) (fun q hq => by have := hrow q hq; omega), by simp at hsz; omega⟩
  unfold OwnsI
  rw [List.take_succ_eq_append_getElem hs, List.length_append, iv_app, List.length_take, Nat.min_eq_left (by omega)]
  exact hown
theorem grown_undrew {w w' : World} {row : Option Nat} (h : w.drew.grownBy w' row) : w.grownBy w' row := ⟨h.os, h.tape, h.output, h.size, h.block⟩
theorem one_newD (w : World) (v : Value) (t : TypeId) : ∀ j u, [v][j]? = some u → (w.alloc (.cells #[v] t)).drew.cell? ((⟨w.heap.size, 0, none⟩ : Addr).add j) = some u := one_new w v t
set_option maxRecDepth 100000 in
set_option maxHeartbeats 12800000 in
theorem l04Maps_any (nv : Value) (nx : List (List Int)) (st : Int) (pg : Nat) (gs : List Rl) (w : World) (h1 : 1 ≤ st) (h24 : st ≤ 24) (hrow : nx.all (rowOk st) = true) (hlen : (nx.length : Int) = st) (hN : IsLL w nv nx) (hfit : fits gs = true) (hn : gs.length ≤ 400) (hg : GP w pg gs) :
    Calls Try.prog 73 #[nv, .pointer (some ⟨pg, 0, none⟩)] w fun e w' => ∃ y U, e = .returned y ∧ OwnM w' w.heap.size y U (mapsN nx gs nx.length gs.length) ∧ Below w.heap.size w w' := by
  obtain ⟨i0, hi, hz0, hz1, hz2⟩ := info_parts Try.info_ints
  obtain ⟨j0, hj, hy0, hy1, hy2⟩ := info_parts Try.info_int64
  obtain ⟨gv, hgv, hR⟩ := hg
  obtain ⟨A, c, rfl, hin⟩ := hN
  have HI := Lib.hid hin
  obtain ⟨Av, cv, rfl, hrc⟩ := hR
  have HRC := Lib.hid hrc
  have HGV := Lib.hid hgv
  have HROW := Lib.hid hrow
  have HLEN := Lib.hid hlen
  have HFIT := Lib.hid hfit
  obtain ⟨N, hNe⟩ : ∃ N, N = nx.length := ⟨_, rfl⟩
  obtain ⟨n, hne⟩ : ∃ n, n = gs.length := ⟨_, rfl⟩
  have hNst : (N : Int) = st := by omega
  have hN24 : N ≤ 24 := by omega
  rw [← hNe, ← hne]
  rw [← hne] at hn hgv
  have HN := Lib.hid hNe
  have HNE := Lib.hid hne
  have HNST := Lib.hid hNst
  have HS := Lib.hid (MSt.start w _ rfl)
  clear hin hrc hrow hlen hfit hNe hne hNst
  go_enter Try.func73, Try.ntmps73
  go_wp2_with fail
  go_loopw [5, 6] (fun y i wr => ∃ k : Nat, k ≤ n ∧ i = .int .i64 k ∧ MSt w (mapsN nx gs N k) y wr) (fun _ i _ => n - (intOf i).toNat)
  case atStart => exact ⟨0, Nat.zero_le _, rfl, HS.out⟩
  case round =>
    obtain ⟨k, hk, rfl, hst⟩ := hrel
    obtain ⟨wo, rfl⟩ : ∃ wo : World, wo = wr := ⟨_, rfl⟩
    obtain ⟨U, hm, hB⟩ := hst
    have HM := Lib.hid (And.intro hm hB)
    have hlenU := hm.len
    rw [mapsN_len] at hlenU
    obtain ⟨Ay, cy, hAy⟩ := own_slice hm.outer
    rw [hlenU] at hAy
    subst hAy
    have HLU := Lib.hid hlenU
    have hgo := (hB.cell (lt_of_cell HGV.out)).trans HGV.out
    rw [← HNE.out] at hgo
    clear hgv hlenU
    by_cases hkn : k < n
    · have hkg : k < gs.length := by rw [← HNE.out]; exact hkn
      obtain ⟨row, hrw⟩ : ∃ row, row = rowM nx (mapsK nx gs k) gs[k] := ⟨_, rfl⟩
      have hnx : mapsN nx gs N (k + 1) = mapsN nx gs N k ++ [row.take N] := by
        unfold mapsN
        rw [mapsK, List.map_append, List.getD_eq_getElem?_getD, List.getElem?_eq_getElem hkg, hrw]
        rfl
      have hok := mapsK_ok HROW.out HLEN.out h1 h24 HFIT.out k (by omega)
      have hok1 := mapsK_ok HROW.out HLEN.out h1 h24 HFIT.out (k + 1) (by omega) k (by omega)
      rw [mapsK_last, List.getD_eq_getElem?_getD, List.getElem?_eq_getElem hkg, Option.getD_some, ← hrw] at hok1
      have hr24 := hok1.1
      have HNX := Lib.hid hnx
      have HSTB : Hid (InS w (.slice Ay k cy) U (mapsN nx gs N k) wo.heap.size row 0 (.slice (some ⟨wo.heap.size, 0, none⟩) 0 0) (wo.alloc (.cells #[] 2))) := Lib.hid
        ⟨hm.kept ((Below.refl _ wo).alloc (Nat.le_refl _) _), World.ownsRow_lit (base := wo.heap.size) (e := 2) (size := 1) wo #[] 0 (Nat.le_refl _) (by decide) rfl, hB.alloc hB.size _, by simp⟩
      have HUB := Lib.hid (fun u hu q (hq : u.ownBlock = some q) => (hm.rows.ge u hu q hq).2)
      have HYB := Lib.hid (fun q (hq : (Value.slice Ay k cy).ownBlock = some q) => (hm.outer.lt q hq).2)
      have HWB := Lib.hid hB.size
      obtain ⟨B, hBe⟩ : ∃ B, B = wo.heap.size := ⟨_, rfl⟩
      clear hm hB
      go_wp2_with fail
      rw [← hBe] at HSTB HUB HYB HWB ⊢
      have HBE := Lib.hid hBe
      clear hBe hgo hnx
      go_loopw [7, 8, 9] (fun tv i _ wr => ∃ s : Nat, s ≤ N ∧ i = .int .i64 s ∧ InS w (.slice Ay k cy) U (mapsN nx gs N k) B row s tv wr) (fun _ i _ _ => N - (intOf i).toNat)
      case atStart => exact ⟨0, Nat.zero_le _, rfl, HSTB.out⟩
      case round =>
        obtain ⟨s, hs, rfl, hst⟩ := hrel
        obtain ⟨wu, rfl⟩ : ∃ wu : World, wu = wr := ⟨_, rfl⟩
        by_cases hsN : s < N
        · have hsx : s < nx.length := by rw [← HN.out]; exact hsN
          have hs24 : s < row.length := by omega
          have HSR := Lib.hid hs24
          have hgu := (hst.2.2.1.cell (lt_of_cell HGV.out)).trans HGV.out
          rw [← HNE.out] at hgu
          rcases HRC.out with hn0 | ⟨g, rfl, hg, hc⟩
          · rw [hn0] at hkg; simp at hkg
          obtain ⟨a0, a1, a2⟩ := rules_cells hc hkg
          rw [← hst.2.2.1.cell (p := ⟨g, k * 3, none⟩) hg] at a0
          rw [← hst.2.2.1.cell (p := ⟨g, k * 3 + 1, none⟩) hg] at a1
          rw [← hst.2.2.1.cell (p := ⟨g, k * 3 + 2, none⟩) hg] at a2
          have hfk := fits_at HFIT.out k hkg
          have k0 : (0 : Int) ≤ (k : Int) := by omega
          have k1 : (k : Int) < (n : Int) := by omega
          have s0 : (0 : Int) ≤ (s : Int) := by omega
          have s1 : (s : Int) < (N : Int) := by omega
          have HIS := Lib.hid hst
          obtain ⟨z, hz⟩ : ∃ z, z = row[s] := ⟨_, rfl⟩
          have HZ := Lib.hid hz.symm
          obtain ⟨A3, c3, hA3⟩ := own_slice hst.2.1
          rw [List.length_take, Nat.min_eq_left (by omega)] at hA3
          subst hA3
          have hTB := Lib.hid (fun q (hq : (Value.slice A3 s c3).ownBlock = some q) => hst.2.1.lt q hq)
          have hgB : g < w.heap.size := hg
          clear hc
          by_cases h0 : gs[k].L.size = 0
          · have hp := (ok_pair h0).1 hfk
            have he := empty_arr h0
            have hrw2 : row = thenRow ((mapsK nx gs k).getD gs[k].l.toNat []) ((mapsK nx gs k).getD gs[k].r.toNat []) := by rw [hrw]; unfold rowM; rw [if_pos h0]
            rw [he] at a0
            generalize gs[k] = R at *
            obtain ⟨L, l, r⟩ := R
            simp only at hp he a1 a2 hrw2
            subst he
            obtain ⟨a, rfl⟩ : ∃ a : Nat, l = a := ⟨l.toNat, by omega⟩
            obtain ⟨b, rfl⟩ : ∃ b : Nat, r = b := ⟨r.toNat, by omega⟩
            rw [Int.toNat_natCast, Int.toNat_natCast] at hrw2
            have ha : a < k := by omega
            have hb : b < k := by omega
            have hoa := hok a ha
            have hob := hok b hb
            have hga := mapsN_get (nx := nx) (gs := gs) (N := N) ha
            have hgb := mapsN_get (nx := nx) (gs := gs) (N := N) hb
            generalize (mapsK nx gs k).getD a [] = ma at *
            generalize (mapsK nx gs k).getD b [] = mb at *
            have hqm := hoa.2 _ (List.getElem_mem (show s < ma.length by rw [hoa.1]; omega))
            obtain ⟨q, hq⟩ : ∃ q : Nat, ma[s]'(by rw [hoa.1]; omega) = q := ⟨(ma[s]'(by rw [hoa.1]; omega)).toNat, by omega⟩
            have hqN : q < N := by have := HNST.out; omega
            have hzz : z = mb.getD q 0 := by
              have hzd : z = row.getD s 0 := by rw [hz, List.getD_eq_getElem?_getD, List.getElem?_eq_getElem hs24]; rfl
              rw [hzd, hrw2]
              unfold thenRow
              rw [List.getD_eq_getElem?_getD, List.getElem?_map, List.getElem?_eq_getElem (by rw [hoa.1]; omega), hq]
              simp only [Option.map_some, Option.getD_some, Int.toNat_natCast]
            have hb7 := (Below.refl _ wu).alloc (Nat.le_refl _) (.cells #[.string ⟨#[]⟩, .int .i64 a, .int .i64 b] 128)
            have HI7 := Lib.hid (hst.kept hb7)
            have hM7 := HI7.out.1
            have hK7 := heap_alloc_new wu (.cells #[.string ⟨#[]⟩, .int .i64 a, .int .i64 b] 128)
            have kc1 := cell_of_row _ _ 1 _ _ _ hK7
            have kc2 := cell_of_row _ _ 2 _ _ _ hK7
            have hKl : wu.heap.size < (wu.alloc (.cells #[.string ⟨#[]⟩, .int .i64 a, .int .i64 b] 128)).heap.size := by simp
            have hUl := HLU.out
            obtain ⟨gy, hgy, hgy1⟩ : ∃ gy, Ay = some ⟨gy, 0, none⟩ ∧ gy < B := by
              rcases hM7.shape with ⟨_, h0⟩ | ⟨gy, c', hv, _, _⟩
              · rw [h0] at hUl; simp at hUl; omega
              · injection hv with hv
                exact ⟨gy, hv, HYB.out gy (by rw [hv]; rfl)⟩
            subst hgy
            have cA : (wu.alloc (.cells #[.string ⟨#[]⟩, .int .i64 a, .int .i64 b] 128)).cell? ⟨gy, a, none⟩ = U[a]? := by
              have := hM7.outer
              rw [hUl] at this
              exact this.cellAt a (by omega)
            have cB : (wu.alloc (.cells #[.string ⟨#[]⟩, .int .i64 a, .int .i64 b] 128)).cell? ⟨gy, b, none⟩ = U[b]? := by
              have := hM7.outer
              rw [hUl] at this
              exact this.cellAt b (by omega)
            have hoA := hM7.rows.row a _ _ (List.getElem?_eq_getElem (by omega)) hga
            have hoB := hM7.rows.row b _ _ (List.getElem?_eq_getElem (by omega)) hgb
            rw [List.getElem?_eq_getElem (by omega)] at cA cB
            have mA := HUB.out _ (List.getElem_mem (show a < U.length by omega))
            have mB := HUB.out _ (List.getElem_mem (show b < U.length by omega))
            have lA : (ma.take N).length = N := by rw [List.length_take, hoa.1]; omega
            have lB : (mb.take N).length = N := by rw [List.length_take, hob.1]; omega
            generalize U[a]'(by omega) = ua at *
            generalize U[b]'(by omega) = ub at *
            obtain ⟨ga, ca, rfl⟩ : ∃ ga ca, ua = .slice (some ⟨ga, 0, none⟩) N ca := by
              rcases hoA.shape with ⟨_, h0⟩ | ⟨ga, ca, hv, _⟩
              · rw [h0] at lA; simp at lA; omega
              · exact ⟨ga, ca, by rw [hv, lA]⟩
            obtain ⟨gb, cb, rfl⟩ : ∃ gb cb, ub = .slice (some ⟨gb, 0, none⟩) N cb := by
              rcases hoB.shape with ⟨_, h0⟩ | ⟨gb, cb, hv, _⟩
              · rw [h0] at lB; simp at lB; omega
              · exact ⟨gb, cb, by rw [hv, lB]⟩
            have dA : (wu.alloc (.cells #[.string ⟨#[]⟩, .int .i64 a, .int .i64 b] 128)).cell? ⟨ga, s, none⟩ = some (.int .i64 (q : Int)) := by
              have h' := hoA
              unfold OwnsI at h'
              rw [lA] at h'
              rw [h'.cellAt s (by omega), iv_get _ s (by rw [lA]; omega), List.getElem_take, hq]
            have dB : (wu.alloc (.cells #[.string ⟨#[]⟩, .int .i64 a, .int .i64 b] 128)).cell? ⟨gb, q, none⟩ = some (.int .i64 z) := by
              have h' := hoB
              unfold OwnsI at h'
              rw [lB] at h'
              rw [h'.cellAt q (by omega), iv_get _ q (by rw [lB]; omega), List.getElem_take, hzz, List.getD_eq_getElem?_getD, List.getElem?_eq_getElem (by rw [hob.1]; omega)]
              rfl
            have gaB := mA ga rfl
            have gbB := mB gb rfl
            have a0' : (0 : Int) ≤ (a : Int) := by omega
            have a1' : (a : Int) < (k : Int) := by omega
            have b0' : (0 : Int) ≤ (b : Int) := by omega
            have b1' : (b : Int) < (k : Int) := by omega
            have q0' : (0 : Int) ≤ (q : Int) := by omega
            have q1' : (q : Int) < (N : Int) := by omega
            have hws : w.heap.size ≤ wu.heap.size := hst.2.2.1.size
            have hBu : B ≤ wu.heap.size := hst.2.2.2
            clear h0 hfk hok hok1 hrw hrw2 hr24 hst hz hb7 hoa hob hga hgb hqm hq hzz hM7 hoA hoB mA mB lA lB hp hUl
            go_upto_region 12 with fail
            obtain ⟨Kp, hKp⟩ : ∃ Kp, Kp = wu.heap.size := ⟨_, rfl⟩
            have hTK : Hid ((Value.slice A3 s c3).ownBlock ≠ some Kp) := Lib.hid (fun e => by have := (hTB.out Kp e).2; omega)
            rw [← hKp] at hK7 kc1 kc2 hKl ⊢
            generalize wu.alloc (.cells #[.string ⟨#[]⟩, .int .i64 a, .int .i64 b] 128) = w7 at *
            have kc1 : w7.cell? ⟨Kp, 1, none⟩ = some (.int .i64 (a : Int)) := kc1
            have kc2 : w7.cell? ⟨Kp, 2, none⟩ = some (.int .i64 (b : Int)) := kc2
            have HO7 : Hid (w7.ownsRow B 2 1 (.slice A3 s c3) s (iv (row.take s))) := Lib.hid (by
              have := HI7.out.2.1
              unfold OwnsI at this
              rw [List.length_take, Nat.min_eq_left (by omega)] at this
              exact this)
            have hB7 : B ≤ w7.heap.size := HI7.out.2.2.2
            have HTY : Hid (∀ g', g' < B → (Value.slice A3 s c3).ownBlock ≠ some g') := Lib.hid (fun g' hg' e => by have h1 := (hTB.out _ e).1; omega)
            have HF := Lib.hid (And.intro kc1 (And.intro kc2 (And.intro cA (And.intro cB (And.intro dA dB)))))
            clear hKp hK7
            go_region_held3 (fun w' => w'.cell? ⟨Kp, 1, none⟩ = some (.int .i64 (a : Int)) ∧ w'.cell? ⟨Kp, 2, none⟩ = some (.int .i64 (b : Int)) ∧ w'.cell? ⟨gy, a, none⟩ = some (.slice (some ⟨ga, 0, none⟩) N ca) ∧ w'.cell? ⟨gy, b, none⟩ = some (.slice (some ⟨gb, 0, none⟩) N cb) ∧ w'.cell? ⟨ga, s, none⟩ = some (.int .i64 (q : Int)) ∧ w'.cell? ⟨gb, q, none⟩ = some (.int .i64 z))
              (first | go_keep | exact HS8.out)
              (first
                | (refine step_append_lies _ (by rfl) _ _ 45 (by rfl) B 2 j0 (.int .i64 0) 1 8 Try.underlying45 hj hy0 hy1 hy2 (by rfl) (by decide) (.slice A3 s c3) s (iv (row.take s)) (by rfl) ?_ ⟨w7.heap.size, 0, none⟩ 1 1 [.int .i64 z] (by rfl) (by rfl) ?_ (one_int _ _) (by decide) ?_ ?_ ?_ (w7.heap.size + 1) ?_ ?_
                   exact own_drewN (World.ownsRow.alloc HO7.out _) 1
                   exact one_newD w7 _ _
                   (unfold maxLen; omega)
                   omega
                   (simp; omega)
                   simp
                   intro g8 c8 w8 hown' hgrow _ _
                   have hG := grown_undrew hgrow
                   have hz9 : w8.ownsRow B 2 1 (.slice (some ⟨g8, 0, none⟩) (s + 1) c8) (s + 1) (iv (row.take s) ++ [.int .i64 (row[s]'HSR.out)]) := by have ez : row[s]'HSR.out = z := HZ.out; rw [ez]; exact hown'
                   have h1 := InS.append HI7.out HWB.out HUB.out HYB.out HSR.out hz9 hG
                   have HN8 := Lib.hid (h1)
                   have HK8 : Hid (∀ p : Addr, p.block < w7.heap.size → (Value.slice A3 s c3).ownBlock ≠ some p.block → w8.cell? p = w7.cell? p) := Lib.hid (fun p hp hne => World.cell?_of_block ((hgrow.block p.block (by simp; omega) (fun e => hne e.symm)).trans (((Below.refl _ w7).alloc (Nat.le_refl _) _).block p.block (by simpa using hp))))
                   clear hG h1 hz9 hown' hgrow
                   have HS8 : Hid (w8.cell? ⟨Kp, 1, none⟩ = some (.int .i64 (a : Int)) ∧ w8.cell? ⟨Kp, 2, none⟩ = some (.int .i64 (b : Int)) ∧ w8.cell? ⟨gy, a, none⟩ = some (.slice (some ⟨ga, 0, none⟩) N ca) ∧ w8.cell? ⟨gy, b, none⟩ = some (.slice (some ⟨gb, 0, none⟩) N cb) ∧ w8.cell? ⟨ga, s, none⟩ = some (.int .i64 (q : Int)) ∧ w8.cell? ⟨gb, q, none⟩ = some (.int .i64 z)) := Lib.hid
                     ⟨(HK8.out ⟨Kp, 1, none⟩ hKl hTK.out).trans HF.out.1, (HK8.out ⟨Kp, 2, none⟩ hKl hTK.out).trans HF.out.2.1, (HK8.out ⟨gy, a, none⟩ (by simp only; omega) (HTY.out _ hgy1)).trans HF.out.2.2.1, (HK8.out ⟨gy, b, none⟩ (by simp only; omega) (HTY.out _ hgy1)).trans HF.out.2.2.2.1, (HK8.out ⟨ga, s, none⟩ (by simp only; omega) (HTY.out _ gaB)).trans HF.out.2.2.2.2.1, (HK8.out ⟨gb, q, none⟩ (by simp only; omega) (HTY.out _ gbB)).trans HF.out.2.2.2.2.2⟩))
            all_goals
              go_wp2_with fail
              go_roundw
              all_goals first | exact ⟨s + 1, by omega, by go_num, HN8.out⟩ | ((repeat apply Exists.intro); exact ⟨⟨s + 1, by omega, by go_num, HN8.out⟩, rfl⟩) | (simp [intOf]; done) | (simp [intOf]; omega) | omega
          · obtain ⟨b, hL, hb1, hb2, hno⟩ := letter_byte h0 hfk
            have he := full_list h0
            obtain ⟨d, hd⟩ : ∃ d : Nat, d = b.toNat - 97 := ⟨_, rfl⟩
            have hd1 : b.toNat = 97 + d := by omega
            have hd4 : d < 4 := by omega
            have hzz : z = (nx.getD s []).getD d 0 := by
              have hzd : z = row.getD s 0 := by rw [hz, List.getD_eq_getElem?_getD, List.getElem?_eq_getElem hs24]; rfl
              rw [hzd, hrw]
              unfold rowM
              rw [if_neg h0, hno, ← hd]
              unfold stepsRow
              rw [List.getD_eq_getElem?_getD, List.getElem?_map, List.getElem?_range (by omega)]
              rfl
            rcases HI.out with hn0 | ⟨x, rfl, hcx⟩
            · rw [hn0] at hsx; simp at hsx
            obtain ⟨u, c0, hu⟩ := hcx s hsx
            obtain ⟨hr4, _⟩ := row_facts HROW.out hsx
            obtain ⟨A2, c2, rfl, hcy⟩ := hu
            rw [hr4] at c0
            rcases hcy with hn0 | ⟨y2, rfl, hzc⟩
            · rw [hn0] at hr4; simp at hr4
            have d0 := hzc d (by omega)
            rw [show nx[s][d] = z from by rw [hzz, List.getD_eq_getElem?_getD (l := nx), List.getElem?_eq_getElem hsx, Option.getD_some, List.getD_eq_getElem?_getD, List.getElem?_eq_getElem (by omega), Option.getD_some]] at d0
            have lx : (x.add s).block < w.heap.size := lt_of_cell c0
            have ly : (y2.add d).block < w.heap.size := lt_of_cell d0
            have e0 := (hst.2.2.1.cell lx).trans c0
            have e1 := (hst.2.2.1.cell ly).trans d0
            rw [hL] at a0 he
            have HLT : Hid (∀ W, Calls Try.prog 47 #[.int .u8 ((((⟨#[b]⟩ : ByteArray)[0]'(Nat.zero_lt_one)).toNat : Nat) : Int)] W fun e w' => e = .returned (.int .i64 (d : Int)) ∧ w' = W) := Lib.hid (fun W => by
              show Calls Try.prog 47 #[.int .u8 ((b.toNat : Nat) : Int)] W _
              rw [hd1]
              exact letterN_any d hd4 W)
            have dd0 : (0 : Int) ≤ (d : Int) := by omega
            have dd1 : (d : Int) < 4 := by omega
            have hws : w.heap.size ≤ wu.heap.size := hst.2.2.1.size
            generalize gs[k] = R at *
            obtain ⟨L, l, r⟩ := R
            simp only at hL a1 a2
            subst hL
            have hb7 := (Below.refl _ wu).alloc (Nat.le_refl _) (.cells #[.string ⟨#[b]⟩, .int .i64 l, .int .i64 r] 128)
            have HI7 := Lib.hid (hst.kept hb7)
            have hK7 := heap_alloc_new wu (.cells #[.string ⟨#[b]⟩, .int .i64 l, .int .i64 r] 128)
            have kc := cell_of_row _ _ 0 _ _ _ hK7
            have f0 := (hb7.cell (p := x.add s) (by omega)).trans e0
            have f1 := (hb7.cell (p := y2.add d) (by omega)).trans e1
            have hKl : wu.heap.size < (wu.alloc (.cells #[.string ⟨#[b]⟩, .int .i64 l, .int .i64 r] 128)).heap.size := by simp
            clear h0 hfk hno hd hd1 hd4 hzz hcx c0 hr4 hzc d0 e0 e1 hok hok1 hrw hr24 hb1 hb2 hst hz hb7
            go_upto_region 11 with fail
            obtain ⟨Kp, hKp⟩ : ∃ Kp, Kp = wu.heap.size := ⟨_, rfl⟩
            have hTK : Hid ((Value.slice A3 s c3).ownBlock ≠ some Kp) := Lib.hid (fun e => by have := (hTB.out Kp e).2; omega)
            rw [← hKp] at hK7 kc hKl ⊢
            generalize wu.alloc (.cells #[.string ⟨#[b]⟩, .int .i64 l, .int .i64 r] 128) = w7 at *
            have kc : w7.cell? ⟨Kp, 0, none⟩ = some (.string ⟨#[b]⟩) := kc
            have HO7 : Hid (w7.ownsRow B 2 1 (.slice A3 s c3) s (iv (row.take s))) := Lib.hid (by
              have := HI7.out.2.1
              unfold OwnsI at this
              rw [List.length_take, Nat.min_eq_left (by omega)] at this
              exact this)
            have HBS := Lib.hid HI7.out.2.2.2
            have hB7 : B ≤ w7.heap.size := HI7.out.2.2.2
            have HTX : Hid ((Value.slice A3 s c3).ownBlock ≠ some (x.add s).block) := Lib.hid (fun e => by have h1 := (hTB.out _ e).1; have h2 := HWB.out; omega)
            have HTY : Hid ((Value.slice A3 s c3).ownBlock ≠ some (y2.add d).block) := Lib.hid (fun e => by have h1 := (hTB.out _ e).1; have h2 := HWB.out; omega)
            have HF0 := Lib.hid f0
            have HF1 := Lib.hid f1
            have HKC := Lib.hid kc
            have hwK : w.heap.size ≤ Kp := by omega
            clear hKp hK7
            go_region_held3 (fun w' => w'.cell? (x.add s) = some (.slice (some y2) 4 c2) ∧ w'.cell? (y2.add d) = some (.int .i64 z) ∧ w'.cell? ⟨Kp, 0, none⟩ = some (.string ⟨#[b]⟩))
              (first | go_keep | exact HS8.out)
              (first
                | (go_at_call 47
                   refine (HLT.out _).mono ?_
                   rintro e w9 ⟨rfl, rfl⟩)
                | (refine step_append_lies _ (by rfl) _ _ 45 (by rfl) B 2 j0 (.int .i64 0) 1 8 Try.underlying45 hj hy0 hy1 hy2 (by rfl) (by decide) (.slice A3 s c3) s (iv (row.take s)) (by rfl) ?_ ⟨w7.heap.size, 0, none⟩ 1 1 [.int .i64 z] (by rfl) (by rfl) ?_ (one_int _ _) (by decide) ?_ ?_ ?_ (w7.heap.size + 1) ?_ ?_
                   exact own_drewN (World.ownsRow.alloc HO7.out _) 1
                   exact one_newD w7 _ _
                   (unfold maxLen; omega)
                   omega
                   (simp; omega)
                   simp
                   intro g8 c8 w8 hown' hgrow _ _
                   have hG := grown_undrew hgrow
                   have hz9 : w8.ownsRow B 2 1 (.slice (some ⟨g8, 0, none⟩) (s + 1) c8) (s + 1) (iv (row.take s) ++ [.int .i64 (row[s]'HSR.out)]) := by have ez : row[s]'HSR.out = z := HZ.out; rw [ez]; exact hown'
                   have h1 := InS.append HI7.out HWB.out HUB.out HYB.out HSR.out hz9 hG
                   have HN8 := Lib.hid (h1)
                   have HK8 : Hid (∀ p : Addr, p.block < w7.heap.size → (Value.slice A3 s c3).ownBlock ≠ some p.block → w8.cell? p = w7.cell? p) := Lib.hid (fun p hp hne => World.cell?_of_block ((hgrow.block p.block (by simp; omega) (fun e => hne e.symm)).trans (((Below.refl _ w7).alloc (Nat.le_refl _) _).block p.block (by simpa using hp))))
                   clear hG h1 hz9 hown' hgrow
                   have HS8 : Hid (w8.cell? (x.add s) = some (.slice (some y2) 4 c2) ∧ w8.cell? (y2.add d) = some (.int .i64 z) ∧ w8.cell? ⟨Kp, 0, none⟩ = some (.string ⟨#[b]⟩)) := Lib.hid ⟨(HK8.out (x.add s) (by omega) HTX.out).trans HF0.out, (HK8.out (y2.add d) (by omega) HTY.out).trans HF1.out, (HK8.out ⟨Kp, 0, none⟩ hKl hTK.out).trans HKC.out⟩))
            all_goals
              go_wp2_with fail
              go_roundw
              all_goals first | exact ⟨s + 1, by omega, by go_num, HN8.out⟩ | ((repeat apply Exists.intro); exact ⟨⟨s + 1, by omega, by go_num, HN8.out⟩, rfl⟩) | (simp [intOf]; done) | (simp [intOf]; omega) | omega
        · obtain rfl : s = N := by omega
          have HIS := Lib.hid hst
          obtain ⟨A3, c3, hA3⟩ := own_slice hst.2.1
          rw [List.length_take, Nat.min_eq_left (by omega)] at hA3
          subst hA3
          have hws : w.heap.size ≤ wu.heap.size := hst.2.2.1.size
          have hFR : ∀ q ∈ U, q.ownBlock = none ∨ q.ownBlock ≠ (Value.slice A3 s c3).ownBlock := fun q hq => by
            cases e : q.ownBlock with
            | none => exact .inl rfl
            | some g => exact .inr fun e' => by have h1 := HUB.out q hq g e; have h2 := (hst.2.1.lt g e'.symm).1; omega
          have HFR := Lib.hid hFR
          have HOU : Hid (∀ o, (wu.alloc o).ownsRow w.heap.size 45 1 (.slice Ay k cy) k U) := Lib.hid (fun o => by
            have := hst.1.outer
            rw [HLU.out] at this
            exact this.alloc o)
          clear hst hok hok1 hrw hr24 hFR
          go_wp2_with (first | (at_builtin; refine wpList_append_own _ rfl _ _ 22 rfl w.heap.size 45 i0 (.slice none 0 0) 1 24 Try.underlying22 hi hz0 hz1 hz2 rfl (by decide) _ _ _ rfl (HOU.out _) ⟨wu.heap.size, 0, none⟩ 1 1 [.slice A3 s c3] rfl rfl (one_new _ _ _) (one_slice _ _ _) (by unfold maxLen; omega) (by omega) (by simp; omega) ?_))
          intro y' w6 hown hg6 _
          have HST6 : Hid (MSt w (mapsN nx gs s (k + 1)) y' w6) := Lib.hid (by
            rw [HNX.out]
            refine ⟨U ++ [.slice A3 s c3], HIS.out.1.snoc (own_lower HIS.out.2.1 HWB.out) HFR.out (by rw [HLU.out]; exact hown) hg6, ?_⟩
            exact (HIS.out.2.2.1.alloc hws _).grown hg6 (by simp; omega) (fun q hq => (HIS.out.1.outer.lt q hq).1))
          clear hown hg6
          go_wp2_with fail
          go_roundw
          all_goals first | exact ⟨k + 1, by omega, by go_num, HST6.out⟩ | ((repeat apply Exists.intro); exact ⟨⟨k + 1, by omega, by go_num, HST6.out⟩, rfl⟩) | (simp [intOf]; done) | (simp [intOf]; omega) | omega
    · obtain rfl : k = n := by omega
      clear hm hB
      go_wp2_with fail
      go_ret
      refine ⟨_, U, rfl, ?_, HM.out.2⟩
      exact HM.out.1
end Go.Proofs.Ytapemoehcohjgaa
namespace Go.Proofs.Ytapemoehcohjgaa
open Go.RowKit
open Wd
set_option linter.unusedVariables false

theorem isOf_any (s n : Int) (w : World) :
    Calls Try.prog 93 #[.int .i64 s, .int .i64 n] w fun e w' => e = .returned (.bool (decide (0 ≤ s ∧ s < n))) ∧ w' = w := by
  by_cases h1 : 0 ≤ s
  · by_cases h2 : s < n
    · rw [decide_eq_true ⟨h1, h2⟩]
      go_enter Try.func93, Try.ntmps93
      go_wp2
      go_ret
      exact ⟨rfl, rfl⟩
    · rw [decide_eq_false (fun h => h2 h.2)]
      go_enter Try.func93, Try.ntmps93
      go_wp2
      go_ret
      exact ⟨rfl, rfl⟩
  · rw [decide_eq_false (fun h => h1 h.1)]
    go_enter Try.func93, Try.ntmps93
    go_wp2
    go_ret
    exact ⟨rfl, rfl⟩
theorem wrong_any (s n : Int) (pb : Nat) (w : World) (hp : w.cell? ⟨pb, 0, none⟩ = some (.int .i64 n)) :
    Calls Try.prog 94 #[.int .i64 s, .pointer (some ⟨pb, 0, none⟩)] w fun e w' => e = .returned (.bool (!decide (0 ≤ s ∧ s < n))) ∧ w' = w := by
  have H := Lib.hid (fun W => isOf_any s n W)
  by_cases h : 0 ≤ s ∧ s < n
  · rw [decide_eq_true h] at H ⊢
    clear h
    go_enter Try.func94, Try.ntmps94
    go_wp2_with fail
    refine (H.out _).mono ?_
    rintro e w5 ⟨rfl, rfl⟩
    go_wp2_with fail
    go_ret
    exact ⟨rfl, rfl⟩
  · rw [decide_eq_false h] at H ⊢
    clear h
    go_enter Try.func94, Try.ntmps94
    go_wp2_with fail
    refine (H.out _).mono ?_
    rintro e w5 ⟨rfl, rfl⟩
    go_wp2_with fail
    go_ret
    exact ⟨rfl, rfl⟩
/-- whether all numbers are states -/
def allIn (n : Int) (zs : List Int) : Bool := zs.all fun x => decide (0 ≤ x ∧ x < n)
set_option maxRecDepth 100000 in
set_option maxHeartbeats 1600000 in
theorem indexF_any (v : Value) (zs : List Int) (n : Int) (pb : Nat) (w : World) (hl : zs.length ≤ 1048576) (hp : w.cell? ⟨pb, 0, none⟩ = some (.int .i64 n)) (h : IsL w v zs) :
    Calls Try.prog 107 #[v, .func (.func 94) #[] #[.pointer (some ⟨pb, 0, none⟩)]] w fun e w' => ∃ y, e = .returned (.int .i64 y) ∧ w' = w ∧ ((allIn n zs = true ∧ y = -1) ∨ (allIn n zs = false ∧ 0 ≤ y)) := by
  obtain ⟨A, c, rfl, hin⟩ := h
  have HI := Lib.hid hin
  obtain ⟨N, hN⟩ : ∃ N, N = zs.length := ⟨_, rfl⟩
  rw [← hN] at hl ⊢
  have HN := Lib.hid hN
  have HC := Lib.hid (fun s => wrong_any s n pb w hp)
  clear hin hN hp
  go_enter Try.func107, Try.ntmps107
  go_wp2_with fail
  go_loopw [8] (fun i wr => ∃ k : Nat, k ≤ N ∧ i = .int .i64 k ∧ (∀ j (hj : j < zs.length), j < k → 0 ≤ zs[j] ∧ zs[j] < n) ∧ wr = w) (fun i _ => N - (intOf i).toNat)
  case atStart => exact ⟨0, Nat.zero_le _, rfl, fun j hj h => by omega, rfl⟩
  case round =>
    obtain ⟨k, hk, rfl, hall, rfl⟩ := hrel
    have HA := Lib.hid hall
    clear hall
    by_cases hlt : k < N
    · have hkg : k < zs.length := by rw [← HN.out]; exact hlt
      rcases HI.out with hn | ⟨x, rfl, hc⟩
      · rw [hn] at hkg; simp at hkg
      have c0 := hc k hkg
      have HBAD : Hid (¬ (0 ≤ zs[k] ∧ zs[k] < n) → allIn n zs = false) := Lib.hid (fun h => by
        unfold allIn
        rw [List.all_eq_false]
        exact ⟨zs[k], List.getElem_mem hkg, by rw [decide_eq_true_iff]; exact h⟩)
      have HG2 : Hid ((0 ≤ zs[k] ∧ zs[k] < n) → ∀ j (hj : j < zs.length), j < k + 1 → 0 ≤ zs[j] ∧ zs[j] < n) := Lib.hid (fun h j hj hjq => by
        by_cases e : j = k
        · subst e; exact h
        · exact HA.out j hj (by omega))
      have HW := Lib.hid (HC.out zs[k])
      generalize zs[k] = z at *
      clear hc hkg
      by_cases hb : 0 ≤ z ∧ z < n
      · rw [decide_eq_true hb] at HW
        have HNX := Lib.hid (HG2.out hb)
        clear hb HBAD HG2 HC
        go_wp2_with fail
        refine HW.out.mono ?_
        rintro e w5 ⟨rfl, rfl⟩
        go_wp2_with fail
        go_roundw
        all_goals first | exact ⟨k + 1, by omega, by go_num, HNX.out, by first | rfl | trivial⟩ | ((repeat apply Exists.intro); exact ⟨⟨k + 1, by omega, by go_num, HNX.out, by first | rfl | trivial⟩, by first | rfl | trivial⟩) | (simp [intOf]; done) | (simp [intOf]; omega) | omega
      · rw [decide_eq_false hb] at HW
        have HF := Lib.hid (HBAD.out hb)
        clear hb HBAD HG2 HC
        go_wp2_with fail
        refine HW.out.mono ?_
        rintro e w5 ⟨rfl, rfl⟩
        go_wp2_with fail
        go_ret
        exact ⟨_, rfl, rfl, .inr ⟨HF.out, by omega⟩⟩
    · obtain rfl : k = N := by omega
      have HT : Hid (allIn n zs = true) := Lib.hid (by
        unfold allIn
        rw [List.all_eq_true]
        intro r hr
        obtain ⟨j, hj, e⟩ := List.getElem_of_mem hr
        rw [← e, decide_eq_true_iff]
        exact HA.out j hj (by rw [HN.out]; exact hj))
      clear HC
      go_wp2_with fail
      go_ret
      exact ⟨_, rfl, rfl, .inl ⟨HT.out, rfl⟩⟩
theorem containsF_any (v : Value) (zs : List Int) (n : Int) (pb : Nat) (w : World) (hl : zs.length ≤ 1048576) (hp : w.cell? ⟨pb, 0, none⟩ = some (.int .i64 n)) (h : IsL w v zs) :
    Calls Try.prog 95 #[v, .func (.func 94) #[] #[.pointer (some ⟨pb, 0, none⟩)]] w fun e w' => e = .returned (.bool (!allIn n zs)) ∧ w' = w := by
  have HX := Lib.hid (indexF_any v zs n pb w hl hp h)
  obtain ⟨A, c, rfl, _⟩ := h
  clear hp
  go_enter Try.func95, Try.ntmps95
  go_wp2_with fail
  refine HX.out.mono ?_
  rintro e w5 ⟨y, rfl, rfl, ⟨ha, rfl⟩ | ⟨ha, hy⟩⟩
  · have HA := Lib.hid ha
    clear ha
    go_wp2_with fail
    go_ret
    exact ⟨by rw [HA.out] <;> rfl, rfl⟩
  · have HA := Lib.hid ha
    have hd : decide (0 ≤ y) = true := decide_eq_true hy
    clear ha
    go_wp2_with fail
    go_ret
    exact ⟨by rw [HA.out] <;> first | rfl | (simp; done) | simp [hd], rfl⟩
def stepsOk (st go : Int) (xss : List (List Int)) : Bool := decide (1 ≤ st ∧ st ≤ 24) && decide (0 ≤ go ∧ go < st) && (decide ((xss.length : Int) = st) && xss.all (rowOk st))
set_option maxRecDepth 100000 in
set_option maxHeartbeats 3200000 in
theorem steps_ok (st go : Int) (v : Value) (xss : List (List Int)) (w : World) (hl : xss.length ≤ 1048576) (hr : ∀ r ∈ xss, r.length ≤ 1048576) (h : IsLL w v xss)
    (h1 : 1 ≤ st) (h2 : st ≤ 24) (h3 : 0 ≤ go ∧ go < st) (h4 : (xss.length : Int) = st) :
    Calls Try.prog 64 #[.int .i64 st, .int .i64 go, v] w fun e w' => e = .returned (.bool (xss.all (rowOk st))) ∧ Below w.heap.size w w' := by
  have hb := (Below.refl _ w).alloc (Nat.le_refl _) (.cells #[.int .i64 st] 2)
  have hp : (w.alloc (.cells #[.int .i64 st] 2)).cell? ⟨w.heap.size, 0, none⟩ = some (.int .i64 st) := cell_new _ _ _
  obtain ⟨A, c, rfl, hin⟩ := h.kept hb
  have HB := Lib.hid hb
  have HI := Lib.hid hin
  have HR := Lib.hid hr
  have HP := Lib.hid hp
  have HS := Lib.hid (fun W => isOf_any go st W)
  rw [decide_eq_true h3] at HS
  obtain ⟨N, hN⟩ : ∃ N, N = xss.length := ⟨_, rfl⟩
  rw [← hN] at hl h4 ⊢
  have HN := Lib.hid hN
  have hbe : ((N : Int) != st) = false := by simp [h4]
  have hd1 : decide (st < 1) = false := decide_eq_false (by omega)
  have hd2 : decide (24 < st) = false := decide_eq_false (by omega)
  clear hin hr hN h3 hb h hp h4
  go_enter Try.func64, Try.ntmps64
  go_wp2_with fail
  refine (HS.out _).mono ?_
  rintro e w5 ⟨rfl, rfl⟩
  have hp := HP.out
  go_wp2_with fail
  generalize w.alloc (.cells #[.int .i64 st] 2) = w1 at *
  obtain ⟨P, hPe⟩ : ∃ P, P = w.heap.size := ⟨_, rfl⟩
  rw [← hPe] at hp HP ⊢
  have HPE := Lib.hid hPe
  clear hPe hbe hd1 hd2
  go_loopw [31] (fun i wr => ∃ k : Nat, k ≤ N ∧ i = .int .i64 k ∧ (∀ j (hj : j < xss.length), j < k → rowOk st xss[j] = true) ∧ wr = w1) (fun i _ => N - (intOf i).toNat)
  case atStart => exact ⟨0, Nat.zero_le _, rfl, fun j hj h => by omega, rfl⟩
  case round =>
    obtain ⟨k, hk, rfl, hall, rfl⟩ := hrel
    have HALL := Lib.hid hall
    clear hall
    by_cases hlt : k < N
    · have hkg : k < xss.length := by rw [← HN.out]; exact hlt
      rcases HI.out with hn | ⟨x, rfl, hc⟩
      · rw [hn] at hkg; simp at hkg
      obtain ⟨u, c0, hrow⟩ := hc k hkg
      have hm := HR.out _ (List.getElem_mem hkg)
      have HBAD : Hid (rowOk st xss[k] = false → xss.all (rowOk st) = false) := Lib.hid (fun h => by
        rw [List.all_eq_false]
        exact ⟨xss[k], List.getElem_mem hkg, by rw [h]; decide⟩)
      have HGOOD : Hid (rowOk st xss[k] = true → ∀ j (hj : j < xss.length), j < k + 1 → rowOk st xss[j] = true) := Lib.hid (fun h j hj hjk => by
        by_cases e : j = k
        · subst e; exact h
        · exact HALL.out j hj (by omega))
      have HC := Lib.hid (containsF_any u xss[k] st P _ hm HP.out hrow)
      generalize xss[k] = r at *
      obtain ⟨A2, c2, rfl⟩ := hrow.shape
      obtain ⟨m, hm'⟩ : ∃ m, m = r.length := ⟨_, rfl⟩
      rw [← hm'] at hm c0 HC
      have HM := Lib.hid hm'
      clear hrow hc hm'
      by_cases h4 : m = 4
      · subst h4
        cases ha : allIn st r
        · rw [ha] at HC
          have HF := Lib.hid (HBAD.out (by
            unfold rowOk
            rw [show (r.all fun x => decide (0 ≤ x ∧ x < st)) = false from ha, Bool.and_false]))
          clear ha HBAD HGOOD HALL
          go_wp2_with fail
          refine HC.out.mono ?_
          rintro e w5 ⟨rfl, rfl⟩
          go_wp2_with fail
          go_ret
          exact ⟨by rw [HF.out] <;> rfl, HB.out⟩
        · rw [ha] at HC
          have HNX := Lib.hid (HGOOD.out (by
            unfold rowOk
            rw [show (r.all fun x => decide (0 ≤ x ∧ x < st)) = true from ha, ← HM.out]; rfl))
          clear ha HBAD HGOOD HALL
          go_wp2_with fail
          refine HC.out.mono ?_
          rintro e w5 ⟨rfl, rfl⟩
          go_wp2_with fail
          go_roundw
          all_goals first | exact ⟨k + 1, by omega, by go_num, HNX.out, by first | rfl | trivial⟩ | ((repeat apply Exists.intro); exact ⟨⟨k + 1, by omega, by go_num, HNX.out, by first | rfl | trivial⟩, by first | rfl | trivial⟩) | (simp [intOf]; done) | (simp [intOf]; omega) | omega
      · have hne : ¬ (m : Int) = 4 := by omega
        have HF := Lib.hid (HBAD.out (by unfold rowOk; rw [← HM.out, decide_eq_false h4]; rfl))
        clear HBAD HGOOD HALL HC
        go_wp2_with fail
        go_ret
        exact ⟨by rw [HF.out] <;> rfl, HB.out⟩
    · obtain rfl : k = N := by omega
      have HT : Hid (xss.all (rowOk st) = true) := Lib.hid (by
        rw [List.all_eq_true]
        intro r hr
        obtain ⟨j, hj, e⟩ := List.getElem_of_mem hr
        rw [← e]
        exact HALL.out j hj (by rw [HN.out]; exact hj))
      clear HALL
      go_wp2_with fail
      go_ret
      exact ⟨by rw [HT.out] <;> rfl, HB.out⟩
set_option maxRecDepth 100000 in
set_option maxHeartbeats 3200000 in
theorem steps_any (st go : Int) (v : Value) (xss : List (List Int)) (w : World) (hl : xss.length ≤ 1048576) (hr : ∀ r ∈ xss, r.length ≤ 1048576) (h : IsLL w v xss) :
    Calls Try.prog 64 #[.int .i64 st, .int .i64 go, v] w fun e w' => e = .returned (.bool (stepsOk st go xss)) ∧ Below w.heap.size w w' := by
  have HB := Lib.hid ((Below.refl _ w).alloc (Nat.le_refl _) (.cells #[.int .i64 st] 2))
  have HS := Lib.hid (fun W => isOf_any go st W)
  by_cases h1 : 1 ≤ st
  · by_cases h2 : st ≤ 24
    · by_cases h3 : 0 ≤ go ∧ go < st
      · by_cases h4 : (xss.length : Int) = st
        · unfold stepsOk
          rw [decide_eq_true (show 1 ≤ st ∧ st ≤ 24 from ⟨h1, h2⟩), decide_eq_true h3, decide_eq_true h4]
          exact steps_ok st go v xss w hl hr h h1 h2 h3 h4
        · have hf : stepsOk st go xss = false := by unfold stepsOk; rw [decide_eq_false h4, Bool.false_and, Bool.and_false]
          rw [hf]
          rw [decide_eq_true h3] at HS
          have hbe : ((xss.length : Int) != st) = true := by simp [h4]
          have hd1 : decide (st < 1) = false := decide_eq_false (by omega)
          have hd2 : decide (24 < st) = false := decide_eq_false (by omega)
          clear h4
          obtain ⟨A, c, rfl, hx⟩ := h
          clear hf h3 hr hx
          generalize xss.length = N at *
          go_enter Try.func64, Try.ntmps64
          go_wp2_with fail
          refine (HS.out _).mono ?_
          rintro e w5 ⟨rfl, rfl⟩
          go_wp2_with fail
          go_ret
          exact ⟨rfl, HB.out⟩
      · have hf : stepsOk st go xss = false := by unfold stepsOk; rw [decide_eq_false h3, Bool.and_false, Bool.false_and]
        rw [hf]
        rw [decide_eq_false h3] at HS
        have hd1 : decide (st < 1) = false := decide_eq_false (by omega)
        have hd2 : decide (24 < st) = false := decide_eq_false (by omega)
        obtain ⟨A, c, rfl, hx⟩ := h
        clear hf h3 hr hx
        generalize xss.length = N at *
        go_enter Try.func64, Try.ntmps64
        go_wp2_with fail
        refine (HS.out _).mono ?_
        rintro e w5 ⟨rfl, rfl⟩
        go_wp2_with fail
        go_ret
        exact ⟨rfl, HB.out⟩
    · have hf : stepsOk st go xss = false := by unfold stepsOk; rw [decide_eq_false (fun h => h2 h.2), Bool.false_and, Bool.false_and]
      rw [hf]
      have hd1 : decide (st < 1) = false := decide_eq_false (by omega)
      have hd2 : decide (24 < st) = true := decide_eq_true (by omega)
      obtain ⟨A, c, rfl, hx⟩ := h
      clear hf hr HS hx
      generalize xss.length = N at *
      go_enter Try.func64, Try.ntmps64
      go_wp2_with fail
      go_ret
      exact ⟨rfl, HB.out⟩
  · have hf : stepsOk st go xss = false := by unfold stepsOk; rw [decide_eq_false (fun h => h1 h.1), Bool.false_and, Bool.false_and]
    rw [hf]
    have hd1 : decide (st < 1) = true := decide_eq_true (by omega)
    obtain ⟨A, c, rfl, hx⟩ := h
    clear hf hr HS hx
    generalize xss.length = N at *
    go_enter Try.func64, Try.ntmps64
    go_wp2_with fail
    go_ret
    exact ⟨rfl, HB.out⟩
end Go.Proofs.Ytapemoehcohjgaa
namespace Go.Proofs.Ytapemoehcohjgaa
open Go.RowKit
open Wd
set_option linter.unusedVariables false
theorem aOk_eq (x : Au) : aOk x = (stepsOk x.st x.go x.nx && risesL 0 (x.st - 1) x.fin) := by
  unfold aOk stepsOk
  rw [show (decide (0 ≤ x.go ∧ x.go ≤ x.st - 1)) = decide (0 ≤ x.go ∧ x.go < x.st) from by congr 1; rw [eq_iff_iff]; omega]
  simp only [Bool.and_assoc, Bool.and_comm, Bool.and_left_comm]
set_option maxRecDepth 100000 in
set_option maxHeartbeats 3200000 in
theorem implValidAuto (v : Value) (x : Au) (w : World) (hf : FewA x) (h : IsAu w v x) :
    Calls Try.prog 87 #[v] w fun e w' => e = .returned (.bool (aOk x)) ∧ Below w.heap.size w w' := by
  rw [aOk_eq]
  obtain ⟨f, n, rfl, hF, hN⟩ := h
  obtain ⟨st, go, fin, nx⟩ := x
  simp only at hF hN ⊢
  have hf1 := hf.fin
  have hf2 := hf.nx
  have hf3 := hf.row
  simp only at hf1 hf2 hf3
  have hb := (Below.refl _ w).alloc (Nat.le_refl _) (.cells #[.int .i64 st, .int .i64 go, f, n] 50)
  have hP := heap_alloc_new w (.cells #[.int .i64 st, .int .i64 go, f, n] 50)
  have HS := Lib.hid (steps_any st go n nx _ hf2 hf3 (hN.kept hb))
  obtain ⟨A, c, rfl, hin⟩ := hF
  obtain ⟨An, cn, rfl, _⟩ := hN
  have HB := Lib.hid hb
  have HP := Lib.hid hP
  have HI := Lib.hid hin
  have HW := Lib.hid (show w.heap.size < (w.alloc (.cells #[.int .i64 st, .int .i64 go, .slice A fin.length c, .slice An nx.length cn] 50)).heap.size by simp)
  clear hb hP hin hf
  cases hs : stepsOk st go nx
  · rw [hs] at HS
    rw [Bool.false_and]
    clear hs
    go_enter Try.func87, Try.ntmps87
    go_wp2_with fail
    refine HS.out.mono ?_
    rintro e w1 ⟨rfl, hB1⟩
    have HB1 := Lib.hid (HB.out.trans (hB1.mono (by simp)))
    clear hB1
    go_wp2_with fail
    go_ret
    exact ⟨rfl, HB1.out⟩
  · rw [hs] at HS
    rw [Bool.true_and]
    have hst : 1 ≤ st ∧ st ≤ 24 := by
      unfold stepsOk at hs
      rw [Bool.and_eq_true, Bool.and_eq_true, decide_eq_true_iff] at hs
      exact hs.1.1
    obtain ⟨hst1, hst2⟩ := hst
    clear hs
    obtain ⟨N, hN⟩ : ∃ N, N = fin.length := ⟨_, rfl⟩
    rw [← hN] at hf1 HB HP HS HW ⊢
    have HN := Lib.hid hN
    clear hN
    go_enter Try.func87, Try.ntmps87
    go_wp2_with fail
    refine HS.out.mono ?_
    rintro e w1 ⟨rfl, hB1⟩
    have HB1 := Lib.hid (HB.out.trans (hB1.mono (by simp)))
    have hP1 := (hB1.block w.heap.size HW.out).trans HP.out
    obtain ⟨⟨p0, p1, p2, p3⟩, _⟩ := blk4_cells hP1
    have HI1 : Hid (fin = [] ∨ ∃ a, A = some a ∧ ∀ j (hj : j < fin.length), w1.cell? (a.add j) = some (.int .i64 fin[j])) := Lib.hid (by
      rcases HI.out with h | ⟨a, h1, h2⟩
      · exact .inl h
      · exact .inr ⟨a, h1, fun j hj => (HB1.out.cell (lt_of_cell (h2 j hj))).trans (h2 j hj)⟩)
    clear hB1 hP1 HB HP HI HS HW
    go_wp2_with fail
    obtain ⟨P, hPe⟩ : ∃ P, P = w.heap.size := ⟨_, rfl⟩
    rw [← hPe] at p0 p1 p2 p3 ⊢
    clear hPe
    go_loopw [16] (fun i wr => ∃ k : Nat, k ≤ N ∧ i = .int .i64 k ∧ (∀ j, j < k → goodAt 0 (st - 1) fin j) ∧ wr = w1) (fun i _ => N - (intOf i).toNat)
    case atStart => exact ⟨0, Nat.zero_le _, rfl, fun j hj => by omega, rfl⟩
    case round =>
      obtain ⟨k, hk, rfl, hgood, rfl⟩ := hrel
      have HG := Lib.hid hgood
      clear hgood
      by_cases hlt : k < N
      · have hkg : k < fin.length := by rw [← HN.out]; exact hlt
        rcases HI1.out with hn | ⟨x, rfl, hc⟩
        · rw [hn] at hkg; simp at hkg
        have c0 := hc k hkg
        rw [show fin[k] = fin.getD k 0 from by rw [List.getD_eq_getElem?_getD, List.getElem?_eq_getElem hkg]; rfl] at c0
        have HBAD : Hid (¬ goodAt 0 (st - 1) fin k → risesL 0 (st - 1) fin = false) := Lib.hid (fun h => decide_eq_false (fun h' => h (h' k hkg)))
        have HNEXT : Hid (goodAt 0 (st - 1) fin k → ∀ j, j < k + 1 → goodAt 0 (st - 1) fin j) := Lib.hid (fun h j hj => by
          by_cases e : j = k
          · subst e; exact h
          · exact HG.out j (by omega))
        have HOF := Lib.hid (fun W => isOf_any (fin.getD k 0) st W)
        by_cases hb : 0 ≤ fin.getD k 0 ∧ fin.getD k 0 < st
        · rw [decide_eq_true hb] at HOF
          by_cases h0 : 0 < k
          · obtain ⟨m, hm⟩ : ∃ m, k = m + 1 := ⟨k - 1, by omega⟩
            have d1 := hc m (by omega)
            rw [show fin[m]'(by omega) = fin.getD m 0 from by rw [List.getD_eq_getElem?_getD, List.getElem?_eq_getElem (by omega)]; rfl] at d1
            have hm0 : (0 : Int) ≤ (m : Int) := by omega
            have hm1 : (m : Int) < (N : Int) := by omega
            have hsub : IntKind.i64.wrap ((k : Int) - 1) = (m : Int) := by rw [IntKind.wrap_i64]; omega
            have hgt : decide ((0 : Int) < (k : Int)) = true := decide_eq_true (by omega)
            have hgt2 : decide (0 < k) = true := decide_eq_true (by omega)
            have HB0 := Lib.hid hb
            have HM := Lib.hid hm
            clear hb h0 hm hc hkg
            generalize hz : fin.getD k 0 = z at *
            generalize hy : fin.getD m 0 = y at *
            have HZ := Lib.hid (And.intro hz hy)
            clear hz hy
            by_cases hle : z ≤ y
            · have hge : decide (z ≤ y) = true := decide_eq_true hle
              have HFIN : Hid (risesL 0 (st - 1) fin = false) := Lib.hid (HBAD.out (fun h => by
                have hm := HM.out
                have := h.2 (by omega)
                rw [show k - 1 = m from by omega, HZ.out.1, HZ.out.2] at this
                omega))
              clear HBAD HNEXT HG
              go_wp2_with fail
              refine (HOF.out _).mono ?_
              rintro e w5 ⟨rfl, rfl⟩
              go_wp2_with fail
              go_ret
              exact ⟨by rw [HFIN.out] <;> rfl, HB1.out⟩
            · have hge : decide (z ≤ y) = false := decide_eq_false hle
              have HOKK := Lib.hid (HNEXT.out ⟨by rw [HZ.out.1]; have := HB0.out; omega, fun _ => by rw [show k - 1 = m from by have := HM.out; omega, HZ.out.1, HZ.out.2]; omega⟩)
              clear HBAD HNEXT HG
              go_wp2_with fail
              refine (HOF.out _).mono ?_
              rintro e w5 ⟨rfl, rfl⟩
              go_wp2_with fail
              go_roundw
              all_goals first | exact ⟨k + 1, by omega, by go_num, HOKK.out, by first | rfl | trivial⟩ | ((repeat apply Exists.intro); exact ⟨⟨k + 1, by omega, by go_num, HOKK.out, by first | rfl | trivial⟩, by first | rfl | trivial⟩) | (simp [intOf]; done) | (simp [intOf]; omega) | omega
          · have HOKK := Lib.hid (HNEXT.out ⟨by omega, fun h => absurd h h0⟩)
            have hgt : decide ((0 : Int) < (k : Int)) = false := decide_eq_false (by omega)
            have hgt2 : decide (0 < k) = false := decide_eq_false (by omega)
            clear hb h0 HBAD HNEXT HG hc hkg
            generalize fin.getD k 0 = z at *
            go_wp2_with fail
            refine (HOF.out _).mono ?_
            rintro e w5 ⟨rfl, rfl⟩
            go_wp2_with fail
            go_roundw
            all_goals first | exact ⟨k + 1, by omega, by go_num, HOKK.out, by first | rfl | trivial⟩ | ((repeat apply Exists.intro); exact ⟨⟨k + 1, by omega, by go_num, HOKK.out, by first | rfl | trivial⟩, by first | rfl | trivial⟩) | (simp [intOf]; done) | (simp [intOf]; omega) | omega
        · rw [decide_eq_false hb] at HOF
          have HFIN := Lib.hid (HBAD.out (fun h => hb ⟨h.1.1, by have := h.1.2; omega⟩))
          clear hb HBAD HNEXT HG hc hkg
          generalize fin.getD k 0 = z at *
          go_wp2_with fail
          refine (HOF.out _).mono ?_
          rintro e w5 ⟨rfl, rfl⟩
          go_wp2_with fail
          go_ret
          exact ⟨by rw [HFIN.out] <;> rfl, HB1.out⟩
      · obtain rfl : k = N := by omega
        have HFIN : Hid (risesL 0 (st - 1) fin = true) := Lib.hid (decide_eq_true (fun j hj => HG.out j (by rw [HN.out]; exact hj)))
        clear HG
        go_wp2_with fail
        go_ret
        exact ⟨by rw [HFIN.out] <;> rfl, HB1.out⟩
end Go.Proofs.Ytapemoehcohjgaa
namespace Go.Proofs.Ytapemoehcohjgaa
open Go.RowKit
open Wd
set_option linter.unusedVariables false
namespace Wd
/-- where the whole word leads -/
def endS (nx : List (List Int)) (gs : List Rl) (s : Int) : Int := if gs.length = 0 then s else ((mapsK nx gs gs.length).getD (gs.length - 1) []).getD s.toNat 0
def runG (x : Au) (s : Int) (gs : List Rl) : Int × Int := if aOk x = true ∧ gOk gs = true then if 0 ≤ s ∧ s < x.st then (endS x.nx gs s, 0) else (0, 2) else (0, 1)
end Wd
set_option maxRecDepth 100000 in
set_option maxHeartbeats 3200000 in
theorem walkOfAuto_any (av : Value) (x : Au) (gv : Value) (gs : List Rl) (w : World) (hf : FewA x) (hx : IsAu w av x) (hfr : FewR gs) (hr : Rules w gv gs) :
    Calls Try.prog 57 #[av, .agg #[gv]] w fun e w' => ∃ wv, e = .returned (.tuple #[wv, .bool (aOk x && gOk gs)]) ∧ ((aOk x && gOk gs) = true → IsW w' w.heap.size wv gv gs x.nx x.go) ∧ ((aOk x && gOk gs) = false → wv = zeroW) ∧ Below w.heap.size w w' := by
  have HIS := Lib.hid (fun W (hb : Below w.heap.size w W) => hx.kept hb)
  have HRU := Lib.hid (fun W (hb : Below w.heap.size w W) => hr.kept hb)
  obtain ⟨st, go, fin, nx⟩ := x
  obtain ⟨f, n, rfl, hF, hN⟩ := hx
  simp only at hF hN
  obtain ⟨hP, hG, hR, hB3, hs3⟩ := al3 w (.cells #[.int .i64 st, .int .i64 go, f, n] 50) (.cells #[gv] 37) (.cells #[.slice none 0 0, .slice none 0 0, .slice none 0 0, .int .i64 0] 76)
  have HP : Hid (B4 _ w.heap.size (.int .i64 st) (.int .i64 go) f n 50) := Lib.hid hP
  have HR : Hid (B4 _ (w.heap.size + 2) (.slice none 0 0) (.slice none 0 0) (.slice none 0 0) (.int .i64 0) 76) := Lib.hid hR
  have hg0 := cell_of_row _ _ 0 _ _ _ hG
  have HG : Hid ((((w.alloc (.cells #[.int .i64 st, .int .i64 go, f, n] 50)).alloc (.cells #[gv] 37)).alloc (.cells #[.slice none 0 0, .slice none 0 0, .slice none 0 0, .int .i64 0] 76)).cell? ⟨w.heap.size + 1, 0, none⟩ = some gv) := Lib.hid hg0
  have HB := Lib.hid hB3
  have HV := Lib.hid (fun W (hb : Below w.heap.size w W) => implValidAuto _ ⟨st, go, fin, nx⟩ W hf (HIS.out W hb))
  have HN := Lib.hid (fun W (hb : Below w.heap.size w W) => hN.kept hb)
  obtain ⟨Af, cf, rfl⟩ := hF.shape
  obtain ⟨An, cn, rfl, hNx⟩ := hN
  obtain ⟨Ag, cg, rfl, hRx⟩ := hr
  clear hP hG hR hB3 hg0 hNx hRx hF
  show Calls Try.prog _ #[.agg #[.int .i64 st, .int .i64 go, .slice Af fin.length cf, .slice An nx.length cn], .agg #[.slice Ag gs.length cg]] w _
  cases ha : aOk ⟨st, go, fin, nx⟩
  · have HV2 : Hid (∀ W, Below w.heap.size w W → Calls Try.prog 87 #[.agg #[.int .i64 st, .int .i64 go, .slice Af fin.length cf, .slice An nx.length cn]] W fun e w' => e = .returned (.bool false) ∧ Below W.heap.size W w') := Lib.hid (fun W hb => by have := HV.out W hb; rwa [ha] at this)
    clear ha HV
    go_enter Try.func57, Try.ntmps57
    go_upto_region 1 with fail
    generalize ((w.alloc (.cells #[.int .i64 st, .int .i64 go, .slice Af fin.length cf, .slice An nx.length cn] 50)).alloc (.cells #[.slice Ag gs.length cg] 37)).alloc (.cells #[.slice none 0 0, .slice none 0 0, .slice none 0 0, .int .i64 0] 76) = w3 at *
    obtain ⟨⟨p0, p1, p2, p3⟩, _⟩ := blk4_cells HP.out
    go_wp2_with fail
    refine (HV2.out _ HB.out).mono ?_
    rintro e w4 ⟨rfl, hB4⟩
    have HB4 := Lib.hid (HB.out.trans (hB4.mono HB.out.size))
    have HR4 := Lib.hid (HR.out.kept hB4)
    obtain ⟨⟨r0, r1, r2, r3⟩, g0, g1, g2, g3⟩ := blk4_cells HR4.out
    have HE := Lib.hid (blk4_cells (blk4_all (a' := .slice none 0 0) (b' := .slice none 0 0) (c' := .slice none 0 0) (d' := .int .i64 0) HR4.out)).1
    clear hB4 p0 p1 p2 p3 hs3
    go_wp2_with fail
    obtain ⟨y0, y1, y2, y3⟩ := HE.out
    refine bodyPost_ret (v := .tuple #[zeroW, .bool false]) (by simp [results, Try.results57, go_sem, y0, y1, y2, y3, zeroW]) rfl ⟨_, rfl, fun h => (by cases h), fun _ => rfl, ?_⟩
    exact (((HB4.out.setCell (by simp; omega) _).setCell (by simp; omega) _).setCell (by simp; omega) _).setCell (by simp; omega) _
  · obtain ⟨⟨h1, h24⟩, hrow, hlen⟩ := aOk_parts ha
    simp only at h1 h24 hrow hlen
    have HV2 : Hid (∀ W, Below w.heap.size w W → Calls Try.prog 87 #[.agg #[.int .i64 st, .int .i64 go, .slice Af fin.length cf, .slice An nx.length cn]] W fun e w' => e = .returned (.bool true) ∧ Below W.heap.size W w') := Lib.hid (fun W hb => by have := HV.out W hb; rwa [ha] at this)
    have HW := Lib.hid (fun W (hb : Below w.heap.size w W) => walkOf_any go st _ nx _ gs W h1 h24 hrow hlen (HN.out W hb) hfr (HRU.out W hb))
    clear ha HV hrow hlen
    cases hok : gOk gs
    all_goals
      rw [hok] at HW
      clear hok
      go_enter Try.func57, Try.ntmps57
      go_upto_region 1 with fail
      generalize ((w.alloc (.cells #[.int .i64 st, .int .i64 go, .slice Af fin.length cf, .slice An nx.length cn] 50)).alloc (.cells #[.slice Ag gs.length cg] 37)).alloc (.cells #[.slice none 0 0, .slice none 0 0, .slice none 0 0, .int .i64 0] 76) = w3 at *
      obtain ⟨⟨p0, p1, p2, p3⟩, _⟩ := blk4_cells HP.out
      go_wp2_with fail
      refine (HV2.out _ HB.out).mono ?_
      rintro e w4 ⟨rfl, hB4⟩
      have HB4 := Lib.hid (HB.out.trans (hB4.mono HB.out.size))
      have HR4 := Lib.hid (HR.out.kept hB4)
      have HP4 := Lib.hid (HP.out.kept hB4)
      have hg4 := (hB4.cell (lt_of_cell HG.out)).trans HG.out
      clear hB4 p0 p1 p2 p3 hs3
      obtain ⟨⟨p0, p1, p2, p3⟩, _⟩ := blk4_cells HP4.out
      go_wp2_with fail
      refine (HW.out _ HB4.out).mono ?_
      rintro e w5 ⟨wv, rfl, hyes, hno, hB5⟩
      have HB5 := Lib.hid (HB4.out.trans (hB5.mono HB4.out.size))
      have HR5 := Lib.hid (HR4.out.kept hB5)
      obtain ⟨⟨r0, r1, r2, r3⟩, g0, g1, g2, g3⟩ := blk4_cells HR5.out
      clear hB5 p0 p1 p2 p3 hg4
    · have hz := hno trivial
      subst hz
      have HE := Lib.hid (blk4_cells (blk4_all (a' := .slice none 0 0) (b' := .slice none 0 0) (c' := .slice none 0 0) (d' := .int .i64 0) HR5.out)).1
      unfold zeroW
      clear hyes hno
      go_wp2_with fail
      obtain ⟨y0, y1, y2, y3⟩ := HE.out
      refine bodyPost_ret (v := .tuple #[zeroW, .bool false]) (by simp [results, Try.results57, go_sem, y0, y1, y2, y3, zeroW]) rfl ⟨_, rfl, fun h => (by cases h), fun _ => rfl, ?_⟩
      exact (((HB5.out.setCell (by simp; omega) _).setCell (by simp; omega) _).setCell (by simp; omega) _).setCell (by simp; omega) _
    · have hw5 := hyes trivial
      have HW5 := Lib.hid hw5
      obtain ⟨A2, c2, A3, c3, rfl⟩ := hw5.shape
      have HE := Lib.hid (blk4_cells (blk4_all (a' := .slice Ag gs.length cg) (b' := .slice A2 (lens gs).length c2) (c' := .slice A3 gs.length c3) (d' := .int .i64 go) HR5.out)).1
      have HRL : Hid (w.heap.size + 2 < w4.heap.size) := Lib.hid HR4.out.lt
      clear hyes hno hw5
      go_wp2_with fail
      obtain ⟨y0, y1, y2, y3⟩ := HE.out
      refine bodyPost_ret (v := .tuple #[.agg #[.slice Ag gs.length cg, .slice A2 (lens gs).length c2, .slice A3 gs.length c3, .int .i64 go], .bool true]) (by simp [results, Try.results57, go_sem, y0, y1, y2, y3]) rfl ⟨_, rfl, fun _ => ?_, fun h => (by cases h), ?_⟩
      · exact (((((HW5.out.far _ _ HRL.out).far _ _ HRL.out).far _ _ HRL.out).far _ _ HRL.out)).lower HB4.out.size
      · exact (((HB5.out.setCell (by simp; omega) _).setCell (by simp; omega) _).setCell (by simp; omega) _).setCell (by simp; omega) _
theorem lastOf_any (A : Option Addr) (n c : Nat) (hn : n ≤ 400) (w : World) :
    Calls Try.prog 102 #[.slice A n c] w fun e w' => e = .returned (.int .i64 ((n : Int) - 1)) ∧ w' = w := by
  have h1 : IntKind.i64.wrap ((n : Int) - 1) = (n : Int) - 1 := by rw [IntKind.wrap_i64]; omega
  go_enter Try.func102, Try.ntmps102
  go_wp2
  go_ret
  exact ⟨ret_int (by first | rfl | omega), rfl⟩
theorem wordLen_any (v : Value) (zs : List Int) (hn : zs.length ≤ 400) (w : World) (h : IsL w v zs) :
    Calls Try.prog 91 #[v] w fun e w' => e = .returned (.int .i64 (zs.getD (zs.length - 1) 0)) ∧ w' = w := by
  obtain ⟨A, c, rfl, hc⟩ := h
  by_cases h0 : zs.length = 0
  · have hz : zs = [] := List.eq_nil_of_length_eq_zero h0
    subst hz
    clear hc h0
    go_enter Try.func91, Try.ntmps91
    go_wp2
    go_ret
    exact ⟨rfl, rfl⟩
  · rcases hc with hz | ⟨a, rfl, hc⟩
    · rw [hz] at h0; simp at h0
    obtain ⟨m, hm⟩ : ∃ m, zs.length = m + 1 := ⟨zs.length - 1, by omega⟩
    have c0 := hc m (by omega)
    have ez : zs.getD (zs.length - 1) 0 = zs[m]'(by omega) := by
      rw [show zs.length - 1 = m from by omega, List.getD_eq_getElem?_getD, List.getElem?_eq_getElem (by omega)]
      rfl
    rw [← ez] at c0
    clear ez
    generalize zs.getD (zs.length - 1) 0 = z at *
    obtain ⟨n, hne⟩ : ∃ n, n = zs.length := ⟨_, rfl⟩
    rw [← hne]
    have hsub : IntKind.i64.wrap ((n : Int) - 1) = (m : Int) := by rw [IntKind.wrap_i64]; omega
    have m0 : (0 : Int) ≤ (m : Int) := by omega
    have m1 : (m : Int) < (n : Int) := by omega
    have hnz : (((n : Int)) == 0) = false := by simp; omega
    have hnz' : n ≠ 0 := by omega
    clear hc h0 hm hn hne
    go_enter Try.func91, Try.ntmps91
    go_wp2
    go_ret
    exact ⟨rfl, rfl⟩
end Go.Proofs.Ytapemoehcohjgaa
namespace Go.Proofs.Ytapemoehcohjgaa
open Go.RowKit
open Wd
set_option linter.unusedVariables false
/-- five cells -/
def B5 (w : World) (b : Nat) (c0 c1 c2 c3 c4 : Value) (t : TypeId) : Prop := w.heap[b]? = some (.cells #[c0, c1, c2, c3, c4] t (0, 0))
theorem B5.kept {w w' : World} {b : Nat} {c0 c1 c2 c3 c4 : Value} {t : TypeId} (h : B5 w b c0 c1 c2 c3 c4 t) (hb : Below w.heap.size w w') : B5 w' b c0 c1 c2 c3 c4 t := (hb.block b (Array.getElem?_eq_some_iff.1 h).1).trans h
theorem B5.lt {w : World} {b : Nat} {c0 c1 c2 c3 c4 : Value} {t : TypeId} (h : B5 w b c0 c1 c2 c3 c4 t) : b < w.heap.size := (Array.getElem?_eq_some_iff.1 h).1
theorem b5_cells {w : World} {R : Nat} {t : TypeId} {a b c d e : Value} (h : B5 w R a b c d e t) :
    w.cell? ⟨R, 0, none⟩ = some a ∧ w.cell? ⟨R, 1, none⟩ = some b ∧ w.cell? ⟨R, 2, none⟩ = some c ∧ w.cell? ⟨R, 3, none⟩ = some d ∧ w.cell? ⟨R, 4, none⟩ = some e := by
  have key : ∀ o, w.cell? ⟨R, o, none⟩ = (#[a, b, c, d, e] : Array Value)[o]? := fun o => by unfold B5 at h; simp [World.cell?, h]
  exact ⟨by rw [key]; rfl, by rw [key]; rfl, by rw [key]; rfl, by rw [key]; rfl, by rw [key]; rfl⟩
/-- a search's value: a walk, and the visits of all rules -/
def IsS (w : World) (lo : Nat) (sv gv : Value) (gs : List Rl) (nx vs : List (List Int)) (go : Int) : Prop :=
  ∃ lv mv vv, sv = .agg #[gv, lv, mv, .int .i64 go, vv] ∧ OwnsI w lo lv (lens gs) ∧ IsMs w lo mv (mapsK nx gs gs.length) ∧ IsMs w lo vv vs
theorem IsS.kept {w w' : World} {lo : Nat} {sv gv : Value} {gs : List Rl} {nx vs : List (List Int)} {go : Int} (h : IsS w lo sv gv gs nx vs go) (hb : Below w.heap.size w w') : IsS w' lo sv gv gs nx vs go := by
  obtain ⟨lv, mv, vv, h0, h2, h3, h4⟩ := h
  exact ⟨lv, mv, vv, h0, own_below h2 hb (Nat.le_refl _), h3.kept hb, h4.kept hb⟩
theorem win_zero (k s n : Int) (p q : Value) (h : n ≤ 0) (w : World) :
    Calls Try.prog 106 #[.int .i64 k, .int .i64 s, .int .i64 n, p, q] w fun e w' => e = .returned (.int .i64 0) ∧ w' = w := by
  have hd : decide (n ≤ 0) = true := decide_eq_true h
  clear h
  go_enter Try.func106, Try.ntmps106
  go_wp2_with fail
  go_ret
  exact ⟨rfl, rfl⟩
set_option maxRecDepth 100000 in
set_option maxHeartbeats 1600000 in
theorem win_full (k : Nat) (s n : Int) (Wb : Nat) (q : Value) (gv lv mv vv : Value) (st0 : Int) (ls : List Int) (vs : List (List Int)) (lo : Nat) (w : World) (hB : B5 w Wb gv lv mv (.int .i64 st0) vv 110) (hl : IsL w lv ls) (hm : IsMs w lo vv vs) (hk : k < ls.length) (hk2 : k < vs.length) (hn : 0 < n) (hn2 : ls.getD k 0 ≤ n) (hs : 0 ≤ s ∧ s < 24) :
    Calls Try.prog 106 #[.int .i64 k, .int .i64 s, .int .i64 n, .pointer (some ⟨Wb, 0, none⟩), q] w fun e w' => e = .returned (.int .i64 (at2 vs k s.toNat)) ∧ w' = w := by
  obtain ⟨t, rfl⟩ : ∃ t : Nat, s = t := ⟨s.toNat, by omega⟩
  rw [Int.toNat_natCast]
  obtain ⟨p0, p1, p2, p3, p4⟩ := b5_cells hB
  obtain ⟨A2, c2, rfl, h2⟩ := hl
  obtain ⟨A3, c3, rfl, h3⟩ := hm
  rcases h2 with h2 | ⟨a2, rfl, h2⟩
  · rw [h2] at hk; simp at hk
  rcases h3 with h3 | ⟨a3, rfl, _, h3⟩
  · rw [h3] at hk2; simp at hk2
  have c0 := h2 k hk
  have c1 := h3 k t hk2 (by omega)
  rw [show ls[k] = ls.getD k 0 from by rw [List.getD_eq_getElem?_getD, List.getElem?_eq_getElem hk]; rfl] at c0
  unfold at2
  clear h2 h3
  generalize ls.getD k 0 = lk at *
  generalize (vs.getD k []).getD t 0 = z at *
  generalize ls.length = N at *
  generalize vs.length = M at *
  have k0 : (0 : Int) ≤ (k : Int) := by omega
  have k1 : (k : Int) < (N : Int) := by omega
  have k2 : (k : Int) < (M : Int) := by omega
  have k3 : ((k : Int) == -1) = false := by first | (simp; done) | (simp; omega)
  have t0 : (0 : Int) ≤ (t : Int) := by omega
  have t1 : (t : Int) < 24 := by omega
  have hd : decide (n ≤ 0) = false := decide_eq_false (by omega)
  have hd2 : decide (lk ≤ n) = true := decide_eq_true hn2
  clear hB hk hk2 hn hn2 hs
  go_enter Try.func106, Try.ntmps106
  go_wp2_with fail
  go_ret
  exact ⟨rfl, rfl⟩
/-- all visits -/
def allV (vs : List (List Int)) (gs : List Rl) (s : Int) : Int := if gs.length = 0 then 0 else at2 vs (gs.length - 1) s.toNat
set_option maxRecDepth 100000 in
set_option maxHeartbeats 3200000 in
theorem within_any (sv gv : Value) (gs : List Rl) (nx vs : List (List Int)) (s : Int) (lo : Nat) (w : World) (hok : gOk gs = true) (hr : Rules w gv gs) (hv : vs.length = gs.length) (hW : IsS w lo sv gv gs nx vs s) (hs : 0 ≤ s ∧ s < 24) :
    Calls Try.prog 90 #[sv, .int .i64 (wordLen gs)] w fun e w' => e = .returned (.int .i64 (allV vs gs s)) ∧ Below w.heap.size w w' := by
  have hmf : ∀ (fn : Fn) (first cap : Array Value) (w : World), (Instr.makeFunc fn first cap).run Try.prog w = .ok (.func fn first cap) w := fun _ _ _ _ => rfl
  obtain ⟨lv, mv, vv, rfl, h2, h3, h4⟩ := hW
  have hn400 := gOk_len hok
  have hfit := (gOk_iff.1 hok).2.1
  have hb : Below w.heap.size w ((w.alloc (.cells #[gv, lv, mv, .int .i64 s, vv] 110)).alloc (.cells #[.func (.func 106) #[] #[.pointer (some ⟨w.heap.size, 0, none⟩), .pointer (some ⟨w.heap.size + 1, 0, none⟩)]] 166)) := ((Below.refl _ w).alloc (Nat.le_refl _) _).alloc (by simp) _
  have hP : B5 ((w.alloc (.cells #[gv, lv, mv, .int .i64 s, vv] 110)).alloc (.cells #[.func (.func 106) #[] #[.pointer (some ⟨w.heap.size, 0, none⟩), .pointer (some ⟨w.heap.size + 1, 0, none⟩)]] 166)) w.heap.size gv lv mv (.int .i64 s) vv 110 := B5.kept (heap_alloc_new w _) ((Below.refl _ _).alloc (Nat.le_refl _) _)
  have hQ := heap_alloc_new (w.alloc (.cells #[gv, lv, mv, .int .i64 s, vv] 110)) (.cells #[.func (.func 106) #[] #[.pointer (some ⟨w.heap.size, 0, none⟩), .pointer (some ⟨w.heap.size + 1, 0, none⟩)]] 166)
  rw [show (w.alloc (.cells #[gv, lv, mv, .int .i64 s, vv] 110)).heap.size = w.heap.size + 1 from by simp] at hQ
  have hq := cell_of_row _ _ 0 _ _ _ hQ
  have HLD : Hid (∀ W, Below ((w.alloc (.cells #[gv, lv, mv, .int .i64 s, vv] 110)).alloc (.cells #[.func (.func 106) #[] #[.pointer (some ⟨w.heap.size, 0, none⟩), .pointer (some ⟨w.heap.size + 1, 0, none⟩)]] 166)).heap.size ((w.alloc (.cells #[gv, lv, mv, .int .i64 s, vv] 110)).alloc (.cells #[.func (.func 106) #[] #[.pointer (some ⟨w.heap.size, 0, none⟩), .pointer (some ⟨w.heap.size + 1, 0, none⟩)]] 166)) W → Calls Try.prog 106 #[.int .i64 ((gs.length : Int) - 1), .int .i64 s, .int .i64 (wordLen gs), .pointer (some ⟨w.heap.size, 0, none⟩), .pointer (some ⟨w.heap.size + 1, 0, none⟩)] W fun e w' => e = .returned (.int .i64 (allV vs gs s)) ∧ w' = W) := Lib.hid (fun W hW => by
    unfold allV
    by_cases h0 : gs.length = 0
    · rw [if_pos h0, wordLen_zero h0]
      exact win_zero _ s 0 _ _ (by omega) W
    · rw [if_neg h0]
      have hk : ((gs.length : Int) - 1) = ((gs.length - 1 : Nat) : Int) := by omega
      rw [hk]
      have hpos := lens_pos (gs := gs) (k := gs.length - 1) (by omega) (fun j hj _ => fits_at hfit j hj)
      unfold wordLen
      exact win_full (gs.length - 1) s _ w.heap.size _ gv lv mv vv s (lens gs) vs lo W (hP.kept hW) (((IsL.of_own h2).kept hb).kept hW) ((h4.kept hb).kept hW) (by rw [lens_len]; omega) (by rw [hv]; omega) (by omega) (Int.le_refl _) hs)
  have HB := Lib.hid hb
  obtain ⟨p0, p1, p2, p3, p4⟩ := b5_cells hP
  obtain ⟨Ag, cg, rfl, hRx⟩ := hr
  obtain ⟨A2, c2, rfl⟩ := own_slice h2
  obtain ⟨A3, c3, rfl, h3x⟩ := h3
  obtain ⟨A4, c4, rfl, h4x⟩ := h4
  have HLO := Lib.hid (fun W => lastOf_any Ag gs.length cg hn400 W)
  generalize wordLen gs = n at *
  generalize allV vs gs s = z at *
  clear hok hs hn400 hfit hRx h3x h4x h2 hP hQ hv
  go_enter Try.func90, Try.ntmps90
  go_upto_region 3 with fail
  generalize (w.alloc (.cells #[.slice Ag gs.length cg, .slice A2 (lens gs).length c2, .slice A3 (mapsK nx gs gs.length).length c3, .int .i64 s, .slice A4 vs.length c4] 110)).alloc (.cells #[.func (.func 106) #[] #[.pointer (some ⟨w.heap.size, 0, none⟩), .pointer (some ⟨w.heap.size + 1, 0, none⟩)]] 166) = w2 at *
  have hq : w2.cell? ⟨w.heap.size + 1, 0, none⟩ = some (.func (.func 106) #[] #[.pointer (some ⟨w.heap.size, 0, none⟩), .pointer (some ⟨w.heap.size + 1, 0, none⟩)]) := hq
  have HLE := Lib.hid (fun m => HLD.out (w2.drewN m) (below_drewN (Below.refl _ w2) m))
  clear hb HLD
  go_quiet ((first
    | (go_at_call 102; exact Calls.quiet_of_same (HLO.out _))
    | (go_at_call 106; exact Calls.quiet_of_same (HLE.out _))))
  go_wp2_with fail
  go_ret
  exact ⟨rfl, below_drewN HB.out _⟩
set_option maxRecDepth 100000 in
set_option maxHeartbeats 3200000 in
theorem all_any (sv gv : Value) (gs : List Rl) (nx vs : List (List Int)) (s : Int) (lo : Nat) (w : World) (hok : gOk gs = true) (hr : Rules w gv gs) (hv : vs.length = gs.length) (hW : IsS w lo sv gv gs nx vs s) (hs : 0 ≤ s ∧ s < 24) :
    Calls Try.prog 60 #[sv] w fun e w' => e = .returned (.int .i64 (allV vs gs s)) ∧ Below w.heap.size w w' := by
  have HS := Lib.hid hW
  obtain ⟨lv, mv, vv, rfl, h2, h3, h4⟩ := hW
  have hb := (Below.refl _ w).alloc (Nat.le_refl _) (.cells #[gv, lv, mv, .int .i64 s, vv] 110)
  have hP := heap_alloc_new w (.cells #[gv, lv, mv, .int .i64 s, vv] 110)
  have hs0 : w.heap.size < (w.alloc (.cells #[gv, lv, mv, .int .i64 s, vv] 110)).heap.size := by simp
  have HW := Lib.hid (fun W (hb2 : Below w.heap.size w W) => within_any _ gv gs nx vs s lo W hok (hr.kept hb2) hv (HS.out.kept hb2) hs)
  have hwl : (lens gs).getD ((lens gs).length - 1) 0 = wordLen gs := by rw [lens_len]; rfl
  have HWL := Lib.hid (fun W (hb2 : Below w.heap.size w W) => wordLen_any lv (lens gs) (by rw [lens_len]; exact gOk_len hok) W ((IsL.of_own h2).kept hb2))
  rw [hwl] at HWL
  obtain ⟨p0, p1, p2, p3, p4⟩ := b5_cells (show B5 _ _ _ _ _ _ _ _ from hP)
  obtain ⟨Ag, cg, rfl, hRx⟩ := hr
  obtain ⟨A2, c2, rfl⟩ := own_slice h2
  obtain ⟨A3, c3, rfl, h3x⟩ := h3
  obtain ⟨A4, c4, rfl, h4x⟩ := h4
  have HB := Lib.hid hb
  generalize wordLen gs = n at *
  generalize allV vs gs s = z at *
  clear hok hs hRx h3x h4x h2 hP hwl HS hb hv
  go_enter Try.func60, Try.ntmps60
  go_upto_region 1 with fail
  generalize w.alloc (.cells #[.slice Ag gs.length cg, .slice A2 (lens gs).length c2, .slice A3 (mapsK nx gs gs.length).length c3, .int .i64 s, .slice A4 vs.length c4] 110) = w2 at *
  have HC := Lib.hid (And.intro p0 (And.intro p1 (And.intro p2 (And.intro p3 p4))))
  have HBW := Lib.hid HB.out
  go_region_held3 (fun w' => w'.cell? ⟨w.heap.size, 0, none⟩ = some (.slice Ag gs.length cg) ∧ w'.cell? ⟨w.heap.size, 1, none⟩ = some (.slice A2 (lens gs).length c2) ∧ w'.cell? ⟨w.heap.size, 2, none⟩ = some (.slice A3 (mapsK nx gs gs.length).length c3) ∧ w'.cell? ⟨w.heap.size, 3, none⟩ = some (.int .i64 s) ∧ w'.cell? ⟨w.heap.size, 4, none⟩ = some (.slice A4 vs.length c4))
    (first | (with_reducible exact HC.out) | (with_reducible exact HC9.out) | go_keep)
    (first
      | (go_at_call 91
         refine (HWL.out _ ?_).mono ?_
         (first | (with_reducible exact HBW.out) | (with_reducible exact below_drewN HBW.out 1) | exact below_drewN HBW.out _)
         rintro e w8 ⟨rfl, rfl⟩)
      | (go_at_call 90
         refine (HW.out _ ?_).mono ?_
         (first | (with_reducible exact HBW.out) | (with_reducible exact below_drewN HBW.out 1) | exact below_drewN HBW.out _)
         rintro e w9 ⟨rfl, hB9⟩
         have hB9 : Below w2.heap.size w2 w9 := by first | exact hB9 | exact below_undrew hB9
         have HC9 : Hid (w9.cell? ⟨w.heap.size, 0, none⟩ = some (.slice Ag gs.length cg) ∧ w9.cell? ⟨w.heap.size, 1, none⟩ = some (.slice A2 (lens gs).length c2) ∧ w9.cell? ⟨w.heap.size, 2, none⟩ = some (.slice A3 (mapsK nx gs gs.length).length c3) ∧ w9.cell? ⟨w.heap.size, 3, none⟩ = some (.int .i64 s) ∧ w9.cell? ⟨w.heap.size, 4, none⟩ = some (.slice A4 vs.length c4)) := Lib.hid ⟨(hB9.cell (lt_of_cell p0)).trans p0, (hB9.cell (lt_of_cell p1)).trans p1, (hB9.cell (lt_of_cell p2)).trans p2, (hB9.cell (lt_of_cell p3)).trans p3, (hB9.cell (lt_of_cell p4)).trans p4⟩
         have HB9 := Lib.hid (HB.out.trans (hB9.mono HB.out.size))
         clear hB9))
  all_goals
    go_wp2_with fail
    go_ret
    exact ⟨rfl, HB9.out⟩
end Go.Proofs.Ytapemoehcohjgaa
namespace Go.Proofs.Ytapemoehcohjgaa
open Go.RowKit
open Wd
set_option linter.unusedVariables false
namespace Wd
def rowF (f : Nat → Int) (N : Nat) : List Int := (List.range N).map f
def rowsF (u : Nat → Nat → Int) (n N : Nat) : List (List Int) := (List.range n).map fun j => rowF (u j) N
/-- how often each state is visited -/
def vcL (nx : List (List Int)) (gs : List Rl) (N go : Nat) : List Int := rowF (fun q => allV (visK (fun p => decide (p = (q : Int))) nx gs gs.length) gs (go : Int)) N
end Wd
theorem rowF_len (f : Nat → Int) (N : Nat) : (rowF f N).length = N := by simp [rowF]
theorem rowF_get {f : Nat → Int} {N k : Nat} (h : k < N) : (rowF f N)[k]? = some (f k) := by simp [rowF, h]
theorem rowF_congr {f g : Nat → Int} {N : Nat} (h : ∀ k, k < N → f k = g k) : rowF f N = rowF g N := by
  unfold rowF
  exact List.map_congr_left (fun k hk => h k (List.mem_range.1 hk))
theorem rowF_zero (N : Nat) : rowF (fun _ => 0) N = List.replicate N 0 := by
  apply List.ext_getElem?
  intro i
  by_cases h : i < N
  · rw [rowF_get h, List.getElem?_replicate, if_pos h]
  · rw [List.getElem?_eq_none (by rw [rowF_len]; omega), List.getElem?_eq_none (by simp; omega)]
theorem rowF_set {f : Nat → Int} {N k : Nat} {d : Int} (h : k < N) : (rowF f N).set k (f k + d) = rowF (upd1 f k d) N := by
  apply List.ext_getElem?
  intro i
  by_cases hi : i < N
  · rw [rowF_get hi]
    by_cases e : k = i
    · subst e
      rw [List.getElem?_set_self (by rw [rowF_len]; exact h), upd1_same]
    · rw [List.getElem?_set_ne e, rowF_get hi, upd1_ne f d (fun h => e h.symm)]
  · rw [List.getElem?_eq_none (by rw [List.length_set, rowF_len]; omega), List.getElem?_eq_none (by rw [rowF_len]; omega)]
theorem rowsF_len (u : Nat → Nat → Int) (n N : Nat) : (rowsF u n N).length = n := by simp [rowsF]
theorem rowsF_get {u : Nat → Nat → Int} {n N j : Nat} (h : j < n) : (rowsF u n N)[j]? = some (rowF (u j) N) := by simp [rowsF, h]
theorem rowsF_set {u : Nat → Nat → Int} {n N a t : Nat} {d : Int} (ha : a < n) (ht : t < N) : (rowsF u n N).set a ((rowF (u a) N).set t (u a t + d)) = rowsF (upd2 u a t d) n N := by
  apply List.ext_getElem?
  intro i
  by_cases hi : i < n
  · rw [rowsF_get hi]
    by_cases e : a = i
    · subst e
      rw [List.getElem?_set_self (by rw [rowsF_len]; exact ha), rowF_set ht]
      congr 1
      refine rowF_congr (fun k hk => ?_)
      unfold upd1 upd2
      simp
    · rw [List.getElem?_set_ne e, rowsF_get hi]
      congr 1
      refine rowF_congr (fun k hk => ?_)
      rw [upd2_ne u d (fun h => e h.1.symm)]
  · rw [List.getElem?_eq_none (by rw [List.length_set, rowsF_len]; omega), List.getElem?_eq_none (by rw [rowsF_len]; omega)]
theorem rowsF_snoc (u : Nat → Nat → Int) (k N : Nat) : rowsF u (k + 1) N = rowsF u k N ++ [rowF (u k) N] := by simp [rowsF, List.range_succ]
theorem vc_set {α : Type} (l : List α) (o : Nat) (v : α) (h : o < l.length) : l.take o ++ [v] ++ l.drop (o + 1) = l.set o v := by
  rw [List.set_eq_take_append_cons_drop, if_pos h, List.append_assoc]
  rfl
theorem vc_ivset (l : List Int) (o : Nat) (z : Int) : (iv l).set o (.int .i64 z) = iv (l.set o z) := by unfold iv; rw [List.map_set]
theorem row_store {w : World} {B e g c n : Nat} {zs : List Int} (h : w.ownsRow B e 1 (.slice (some ⟨g, 0, none⟩) n c) n (iv zs)) (k : Nat) (hk : k < zs.length) (z : Int) :
    (w.setCell ⟨g, k, none⟩ (.int .i64 z)).ownsRow B e 1 (.slice (some ⟨g, 0, none⟩) n c) n (iv (zs.set k z)) := by
  have h1 := own_setCells [.int .i64 z] k w _ h (by rw [iv_len]; simp; omega)
  simp only [List.length_cons, List.length_nil, Nat.zero_add] at h1
  rw [vc_set _ _ _ (by rw [iv_len]; exact hk), vc_ivset] at h1
  exact h1
/-- a table of counts and a row of sums, both the call's own -/
structure VM (w1 : World) (O B : Nat) (y : Value) (U : List Value) (n N : Nat) (u : Nat → Nat → Int) (o : Nat → Int) (wr : World) : Prop where
  m : OwnM wr B y U (rowsF u n N)
  out : wr.ownsRow O 2 1 (.slice (some ⟨O, 0, none⟩) N N) N (iv (rowF o N))
  lt : O < B
  below : Below O w1 wr
theorem VM.kept {w1 wr w' : World} {O B : Nat} {y : Value} {U : List Value} {n N : Nat} {u : Nat → Nat → Int} {o : Nat → Int} (h : VM w1 O B y U n N u o wr) (hO : O ≤ w1.heap.size) (hb : Below wr.heap.size wr w') : VM w1 O B y U n N u o w' :=
  ⟨h.m.kept hb, own_below h.out hb (Nat.le_refl _), h.lt, h.below.trans (hb.mono (by
    have := h.below.size
    omega))⟩
theorem VM.row {w1 wr : World} {O B : Nat} {y : Value} {U : List Value} {n N : Nat} {u : Nat → Nat → Int} {o : Nat → Int} (h : VM w1 O B y U n N u o wr) (hN : 0 < N) {a : Nat} (ha : a < n) :
    ∃ ga ca, U[a]? = some (.slice (some ⟨ga, 0, none⟩) N ca) ∧ B ≤ ga ∧ ga < wr.heap.size ∧ (∀ t, t < N → wr.cell? ⟨ga, t, none⟩ = some (.int .i64 (u a t))) ∧ (∀ t, wr.frozen? ⟨ga, t, none⟩ = false) ∧
      ∀ t d, t < N → VM w1 O B y U n N (upd2 u a t d) o (wr.setCell ⟨ga, t, none⟩ (.int .i64 (u a t + d))) := by
  have hl : U.length = n := by rw [h.m.len, rowsF_len]
  have hau : a < U.length := by omega
  have hr := h.m.rows.row a _ _ (List.getElem?_eq_getElem hau) (rowsF_get ha)
  have hr' := hr
  unfold OwnsI at hr
  rw [rowF_len] at hr
  obtain ⟨A, c, hs⟩ := own_slice hr
  rw [hs] at hr hr'
  obtain ⟨ga, hA, hg1, hg2⟩ := own_addr hr hN
  subst hA
  refine ⟨ga, c, by rw [List.getElem?_eq_getElem hau, hs], hg1, hg2, fun t ht => ?_, fun t => hr.frozenAt _, fun t d ht => ?_⟩
  · rw [hr.cellAt t (by omega)]
    unfold iv
    rw [List.getElem?_map, rowF_get ht]
    rfl
  · have hst := row_store hr t (by rw [rowF_len]; exact ht) (u a t + d)
    have hg : wr.grownBy (wr.setCell ⟨ga, t, none⟩ (.int .i64 (u a t + d))) (U[a]).ownBlock := by
      rw [hs]
      exact grownBy_set wr ⟨ga, t, none⟩ _
    have hne : y.ownBlock = none ∨ y.ownBlock ≠ (U[a]).ownBlock := by
      rcases h.m.ne _ (List.getElem_mem hau) with h1 | h1
      · rw [hs] at h1; simp [Value.ownBlock] at h1
      · exact .inr (fun e => h1 e.symm)
    refine ⟨⟨World.ownsRow.kept h.m.outer hg hne, ?_⟩, ?_, h.lt, h.below.setCell (by have := h.lt; show O ≤ ga; omega) _⟩
    · have := h.m.rows.mark (List.getElem?_eq_getElem hau) hg (zs := (rowF (u a) N).set t (u a t + d)) (by
        unfold OwnsI
        rw [List.length_set, rowF_len, hs]
        exact hst)
      rw [rowsF_set ha ht] at this
      exact this
    · exact World.ownsRow.kept h.out hg (.inr (by rw [hs]; simp [Value.ownBlock]; have := h.lt; omega))
theorem VM.sum {w1 wr : World} {O B : Nat} {y : Value} {U : List Value} {n N : Nat} {u : Nat → Nat → Int} {o : Nat → Int} (h : VM w1 O B y U n N u o wr) :
    (∀ t, t < N → wr.cell? ⟨O, t, none⟩ = some (.int .i64 (o t))) ∧ (∀ t, wr.frozen? ⟨O, t, none⟩ = false) ∧
      ∀ t d, t < N → VM w1 O B y U n N u (upd1 o t d) (wr.setCell ⟨O, t, none⟩ (.int .i64 (o t + d))) := by
  refine ⟨fun t ht => ?_, fun t => h.out.frozenAt _, fun t d ht => ?_⟩
  · rw [h.out.cellAt t (by omega)]
    unfold iv
    rw [List.getElem?_map, rowF_get ht]
    rfl
  · have hst := row_store h.out t (by rw [rowF_len]; exact ht) (o t + d)
    rw [rowF_set ht] at hst
    exact ⟨⟨own_setLow h.m.outer _ _ h.lt, h.m.rows.len, fun j u zs a b => own_setLow (h.m.rows.row j u zs a b) _ _ h.lt, h.m.rows.ne⟩, hst, h.lt, h.below.setCell (Nat.le_refl _) _⟩
theorem VM.outer {w1 wr : World} {O B : Nat} {y : Value} {U : List Value} {n N : Nat} {u : Nat → Nat → Int} {o : Nat → Int} (h : VM w1 O B y U n N u o wr) (hn : 0 < n) :
    ∃ gy cy, y = .slice (some ⟨gy, 0, none⟩) n cy ∧ B ≤ gy ∧ gy < wr.heap.size ∧ ∀ j v, U[j]? = some v → wr.cell? ⟨gy, j, none⟩ = some v := by
  have hl : U.length = n := by rw [h.m.len, rowsF_len]
  rcases h.m.shape with ⟨_, h0⟩ | ⟨g, c, hv, hg1, hg2⟩
  · rw [h0] at hl; simp at hl; omega
  · refine ⟨g, c, by rw [hv, hl], hg1, hg2, fun j v hj => ?_⟩
    have ho := h.m.outer
    rw [hv] at ho
    have := ho.cellAt j (by have := (List.getElem?_eq_some_iff.1 hj).1; omega)
    rw [this, hj]
theorem vcL_zero {nx : List (List Int)} {gs : List Rl} {N go : Nat} (h : gs.length = 0) : rowF (fun _ => 0) N = vcL nx gs N go := by
  unfold vcL
  refine rowF_congr (fun k hk => ?_)
  unfold allV
  rw [if_pos h]
theorem vcL_done {nx : List (List Int)} {gs : List Rl} {N go : Nat} {u : Nat → Nat → Int} {o : Nat → Int} (h : VcI nx gs N go 0 N u o) (h0 : 0 < gs.length) (hfit : fits gs = true) (hN : N ≤ 24) (hm : ∀ k t, k < gs.length → t < N → 0 ≤ at2 (mapsK nx gs gs.length) k t) : rowF o N = vcL nx gs N go := by
  unfold vcL
  refine rowF_congr (fun k hk => ?_)
  unfold allV
  rw [if_neg (by omega), Int.toNat_natCast]
  exact VcI.count h hfit hN hm hk
end Go.Proofs.Ytapemoehcohjgaa
namespace Go.Proofs.Ytapemoehcohjgaa
open Go.RowKit
open Wd
set_option linter.unusedVariables false
theorem Try.info_tallyM : (Try.prog.info? 138).map (fun i => (i.zero, i.size, i.bytes)) = some (some (.agg (iv (List.replicate 24 0)).toArray), 24, 192) := by kernel_rfl
theorem size_tally : (Try.prog.info? 138).map (·.size) = some 24 := by kernel_rfl
theorem und_tally : Try.prog.underlying 138 = some (.array 24 2) := by kernel_rfl
theorem index_tally (m : List Int) (hm : m.length = 24) (k : Nat) (hk : k < 24) (w : World) : (Instr.index 138 (.agg (iv m).toArray) (.int .i64 (k : Int))).run Try.prog w = .ok (.int .i64 (m.getD k 0)) w := by
  have h1 : (Try.prog.info? 2).map (·.size) = some 1 := by kernel_rfl
  have hu : Try.prog.underlying 2 = some (.int .i64) := by kernel_rfl
  have hk' : k < m.length := by omega
  obtain ⟨i1, hi1, hs1⟩ : ∃ i, Try.prog.info? 2 = some i ∧ i.size = 1 := by
    cases hq : Try.prog.info? 2 with
    | none => simp [hq] at h1
    | some i => exact ⟨i, rfl, by simpa [hq] using h1⟩
  have hb : (0 : Int) ≤ (k : Int) ∧ (k : Int) < 24 := by omega
  have hc : (iv m)[k]? = some (.int .i64 (m[k]?.getD 0)) := by
    rw [iv_get m k hk', List.getElem?_eq_getElem hk']
    rfl
  simp [Instr.index, asIntOf, run_underlying und_tally, sizeOf, typeInfo, part, isAgg, run_underlying hu, hi1, hs1, hk, hc]
theorem tm_lpM (v : Value) (w : World) : (Instr.typeAssert (.iface 132 v) 135 148 true).run Try.prog w = .ok (.tuple #[.agg #[.string ⟨#[]⟩, .int .i64 0, .int .i64 0], .bool false]) w := by kernel_rfl
theorem rule3_cellsM {w : World} {R : Nat} {t : TypeId} {a b c : Value} (h : w.heap[R]? = some (.cells #[a, b, c] t (0, 0))) :
    w.cell? ⟨R, 0, none⟩ = some a ∧ w.cell? ⟨R, 1, none⟩ = some b ∧ w.cell? ⟨R, 2, none⟩ = some c := by
  have key : ∀ o, w.cell? ⟨R, o, none⟩ = (#[a, b, c] : Array Value)[o]? := fun o => by simp [World.cell?, h]
  exact ⟨by rw [key]; rfl, by rw [key]; rfl, by rw [key]; rfl⟩
/-- the table, the call's own -/
def IsMt (w : World) (lo : Nat) (v : Value) (n : Nat) (u : Nat → Nat → Int) : Prop := ∃ g, v = .slice (some ⟨g, 0, none⟩) n n ∧ w.ownsRow lo 138 24 v n (iv (metL u n))
theorem IsMt.kept {w w' : World} {lo : Nat} {v : Value} {n : Nat} {u : Nat → Nat → Int} (h : IsMt w lo v n u) (hb : Below w.heap.size w w') : IsMt w' lo v n u := by
  obtain ⟨g, hv, h⟩ := h
  exact ⟨g, hv, own_below h hb (Nat.le_refl _)⟩
theorem IsMt.lower {w : World} {lo B : Nat} {v : Value} {n : Nat} {u : Nat → Nat → Int} (h : IsMt w lo v n u) (hB : B ≤ lo) : IsMt w B v n u := by
  obtain ⟨g, hv, h⟩ := h
  exact ⟨g, hv, own_lower h hB⟩
theorem met_cell {w : World} {M lo n e : Nat} {u : Nat → Nat → Int} (h : w.ownsRow lo e 24 (.slice (some ⟨M, 0, none⟩) n n) n (iv (metL u n))) {j s : Nat} (hj : j < n) (hs : s < 24) : w.cell? ⟨M, j * 24 + s, none⟩ = some (.int .i64 (u j s)) := by
  rw [h.cellAt (j * 24 + s) (by omega)]
  unfold iv
  rw [List.getElem?_map, metL_get hj hs]
  rfl
theorem met_range {w : World} {M lo n e : Nat} {u : Nat → Nat → Int} (h : w.ownsRow lo e 24 (.slice (some ⟨M, 0, none⟩) n n) n (iv (metL u n))) {j : Nat} (hj : j < n) : w.rangeAt M (j * 24) (iv (metR u j)) := by
  intro i v hv
  have hi : i < 24 := by have := (List.getElem?_eq_some_iff.1 hv).1; rw [iv_len, metR_len] at this; exact this
  unfold iv at hv
  rw [List.getElem?_map, metR_get hi] at hv
  injection hv with hv
  subst hv
  exact met_cell h hj hi
theorem met_store {w : World} {M lo n e : Nat} {u : Nat → Nat → Int} (h : w.ownsRow lo e 24 (.slice (some ⟨M, 0, none⟩) n n) n (iv (metL u n))) {a t : Nat} (ha : a < n) (ht : t < 24) (d : Int) :
    (w.setCell ⟨M, a * 24 + t, none⟩ (.int .i64 (u a t + d))).ownsRow lo e 24 (.slice (some ⟨M, 0, none⟩) n n) n (iv (metL (upd2 u a t d) n)) := by
  have hl := metL_len u n
  have h1 := own_setCells [.int .i64 (u a t + d)] (a * 24 + t) w _ h (by rw [iv_len, hl]; simp; omega)
  simp only [List.length_cons, List.length_nil, Nat.zero_add] at h1
  rw [vc_set _ _ _ (by rw [iv_len, hl]; omega), vc_ivset, metL_set ha ht] at h1
  exact h1
/-- between two rules -/
def MtJ (nx : List (List Int)) (gs : List Rl) (st go m : Nat) (u : Nat → Nat → Int) : Prop := (m = gs.length ∧ u = fun _ _ => 0) ∨ (m < gs.length ∧ MtI nx gs st go m 0 u)
def MtRel (nx : List (List Int)) (gs : List Rl) (st go : Nat) (w : World) (M : Nat) (v : Value) (wr : World) : Prop :=
  ∃ m : Nat, m ≤ gs.length ∧ v = .int .i64 ((m : Int) - 1) ∧ ∃ u, wr.ownsRow M 138 24 (.slice (some ⟨M, 0, none⟩) gs.length gs.length) gs.length (iv (metL u gs.length)) ∧ MtJ nx gs st go m u ∧ Below M w wr
set_option maxRecDepth 100000 in
set_option maxHeartbeats 12800000 in
theorem meetings_any (wv gv : Value) (gs : List Rl) (nx : List (List Int)) (st : Int) (go lo : Nat) (w : World) (h1 : 1 ≤ st) (h24 : st ≤ 24) (hrow : nx.all (rowOk st) = true) (hlen : (nx.length : Int) = st) (hgo : (go : Int) < st) (hok : gOk gs = true) (hr : Rules w gv gs) (hW : IsW w lo wv gv gs nx (go : Int)) :
    Calls Try.prog 77 #[wv] w fun e w' => ∃ v u, e = .returned v ∧ IsMt w' w.heap.size v gs.length u ∧ (0 < gs.length → MtI nx gs nx.length go 0 0 u) ∧ Below w.heap.size w w' := by
  obtain ⟨i0, hi, hz0, hz1, hz2⟩ := info_parts Try.info_tallyM
  obtain ⟨lv, mv, rfl, h2, h3⟩ := hW
  have hn400 := gOk_len hok
  have hfit := (gOk_iff.1 hok).2.1
  have H3 := Lib.hid h3
  have HR := Lib.hid hr
  have HROW := Lib.hid hrow
  have HLEN := Lib.hid hlen
  have HFIT := Lib.hid hfit
  have HSM := Lib.hid (fun j (hj : j < gs.length) => small_at (gOk_iff.1 hok).2.2 j hj)
  obtain ⟨Ag, cg, rfl, hrx⟩ := hr
  obtain ⟨A2, c2, rfl⟩ := own_slice h2
  obtain ⟨A3, c3, rfl, h3x⟩ := h3
  have HLO := Lib.hid (fun W => lastOf_any Ag gs.length cg hn400 W)
  have HB := Lib.hid ((Below.refl _ w).alloc (Nat.le_refl _) (.cells #[.slice Ag gs.length cg, .slice A2 (lens gs).length c2, .slice A3 (mapsK nx gs gs.length).length c3, .int .i64 (go : Int)] 76))
  have HWB := Lib.hid (B4.new w (.slice Ag gs.length cg) (.slice A2 (lens gs).length c2) (.slice A3 (mapsK nx gs gs.length).length c3) (.int .i64 (go : Int)) 76)
  have HMAP := Lib.hid (fun k t (hk : k < gs.length) (ht : t < 24) => (show 0 ≤ at2 (mapsK nx gs gs.length) k t ∧ at2 (mapsK nx gs gs.length) k t < st from by
    have hma := mapsK_ok hrow hlen h1 h24 hfit gs.length (Nat.le_refl _) k hk
    unfold at2
    rw [List.getD_eq_getElem?_getD (i := t), List.getElem?_eq_getElem (by rw [hma.1]; omega), Option.getD_some]
    exact hma.2 _ (List.getElem_mem (show t < ((mapsK nx gs gs.length).getD k []).length by rw [hma.1]; omega))))
  clear hrx h3x h2 hrow hlen hfit hok
  go_enter Try.func77, Try.ntmps77
  go_upto_region 1 with fail
  obtain ⟨⟨p0, p1, p2, p3⟩, _⟩ := blk4_cells HWB.out
  obtain ⟨w5, hw5⟩ : ∃ w5, w5 = (w.alloc (.cells #[.slice Ag gs.length cg, .slice A2 (lens gs).length c2, .slice A3 (mapsK nx gs gs.length).length c3, .int .i64 (go : Int)] 76)) := ⟨_, rfl⟩
  rw [← hw5] at HB HWB p0 p1 p2 p3 ⊢
  clear hw5
  obtain ⟨n, hne⟩ : ∃ n, n = gs.length := ⟨_, rfl⟩
  rw [← hne] at p0 hn400 HLO
  rw [← hne]
  have HN := Lib.hid hne
  clear hne
  have HN0 : Hid (n ≤ 400) := Lib.hid hn400
  go_upto_region 2 with (refine wpList_make_full _ rfl _ _ 77 rfl w5.heap.size 138 i0 (.agg (iv (List.replicate 24 0)).toArray) 24 Try.underlying77 hi hz0 hz1 .i64 .i64 _ _ n rfl rfl rfl rfl (by rw [hz2]; omega) (by unfold maxLen; omega) (Nat.le_refl _) ?_)
  intro w6 hown hgr
  have hown : w6.ownsRow w5.heap.size 138 24 (.slice (some ⟨w5.heap.size, 0, none⟩) n n) n (iv (metL (fun _ _ => 0) n)) := by
    rw [metL_zero, show List.replicate (n * 24) 0 = flK [] n from by simp [flK], ← made_map]
    exact hown
  have hB6 := below_of_grown hgr
  obtain ⟨M, hM⟩ : ∃ M, M = w5.heap.size := ⟨_, rfl⟩
  rw [← hM] at hown hB6 ⊢
  have HST : Hid (MtRel nx gs nx.length go w5 M (.int .i64 ((n : Int) - 1)) w6) := Lib.hid ⟨n, by rw [HN.out]; exact Nat.le_refl _, rfl, _, by rw [← HN.out]; exact hown, .inl ⟨HN.out, rfl⟩, hB6⟩
  have HME := Lib.hid hM
  have HWB5 := Lib.hid (fun W (hb : Below w5.heap.size w5 W) => HWB.out.kept hb)
  obtain ⟨⟨y0, y1, y2, y3⟩, _⟩ := blk4_cells (HWB5.out w6 (by rw [← hM]; exact hB6))
  rw [← HN.out] at y0
  clear hown hgr hB6 hM p0 p1 p2 p3
  go_wp2_with fail
  refine (HLO.out _).mono ?_
  rintro e w7 ⟨rfl, rfl⟩
  go_wp2_with fail
  clear y0 y1 y2 y3
  go_loopw [4] (fun v wr => MtRel nx gs nx.length go w5 M v wr) (fun v _ => (intOf v + 1).toNat)
  case atStart => exact HST.out
  case round =>
    obtain ⟨m, hm, rfl, u, hown, hmj, hB⟩ := hrel
    rw [← HN.out] at hm hown
    obtain ⟨wo, rfl⟩ : ∃ wo : World, wo = wr := ⟨_, rfl⟩
    have hB' : Below w5.heap.size w5 wo := by rw [← HME.out]; exact hB
    obtain ⟨⟨p0, p1, p2, p3⟩, _⟩ := blk4_cells (HWB5.out wo hB')
    rw [← HN.out] at p0
    by_cases hm0 : 0 < m
    · obtain ⟨r, rfl⟩ : ∃ r, m = r + 1 := ⟨m - 1, by omega⟩
      have hrr : ((r + 1 : Nat) : Int) - 1 = (r : Int) := by omega
      rw [hrr]
      have hrn : r < n := by omega
      have hrg : r < gs.length := by rw [← HN.out]; exact hrn
      have r0' : (0 : Int) ≤ (r : Int) := by omega
      have r1' : (r : Int) < (n : Int) := by omega
      have hwr : IntKind.i64.wrap ((r : Int) - 1) = (r : Int) - 1 := by rw [IntKind.wrap_i64]; omega
      have HOW := Lib.hid hown
      have HBO := Lib.hid hB
      have HB5 := Lib.hid hB'
      clear hown hB hB'
      go_upto_if 24 with (first | (go_at_call 102
                                   refine (HLO.out _).mono ?_
                                   rintro e w7 ⟨rfl, rfl⟩))
      go_cut [4] (fun s4 wx => s4 = .int .i64 (r : Int) ∧ ∃ u5, wx.ownsRow M 138 24 (.slice (some ⟨M, 0, none⟩) n n) n (iv (metL u5 n)) ∧ MtI nx gs nx.length go (r + 1) 0 u5 ∧ Below M w5 wx)
      case first =>
        by_cases hlast : r + 1 = n
        · have hl1 : ((r : Int) == (n : Int) - 1) = true := by simp; omega
          have hu0 : u = fun _ _ => 0 := by
            rcases hmj with h | h
            · exact h.2
            · have := HN.out; omega
          subst hu0
          have hgn : go < nx.length := by have := HLEN.out; omega
          have HVC : Hid (MtI nx gs nx.length go (r + 1) 0 (upd2 (fun _ _ => 0) r go 1)) := Lib.hid (by
            have := MtI.start (nx := nx) (gs := gs) (st := nx.length) (go := go) hgn (by have := HLEN.out; omega) (by omega)
            rw [show gs.length = r + 1 from by rw [← HN.out]; omega] at this
            exact this)
          have hgo24 : go < 24 := by have := HLEN.out; omega
          have e1 := met_cell HOW.out hrn hgo24
          have e2 : w7.frozen? ⟨M, r * 24 + go, none⟩ = false := HOW.out.frozenAt _
          have HO9 : Hid ((w7.setCell ⟨M, r * 24 + go, none⟩ (.int .i64 1)).ownsRow M 138 24 (.slice (some ⟨M, 0, none⟩) n n) n (iv (metL (upd2 (fun _ _ => 0) r go 1) n))) := Lib.hid (met_store HOW.out hrn hgo24 1)
          have HB9 : Hid (Below M w5 (w7.setCell ⟨M, r * 24 + go, none⟩ (.int .i64 1))) := Lib.hid (HBO.out.setCell (Nat.le_refl _) _)
          have g0' : (0 : Int) ≤ (go : Int) := by omega
          have g1' : (go : Int) < 24 := by omega
          have e3 : w7.drew.frozen? ⟨M, r * 24 + go, none⟩ = false := e2
          clear hmj
          go_upto_region 6 with fail
          go_still_tail 6, (by kernel_rfl)
          change wpList _ _ _ _ _ w7.drew
          go_wp2_with fail
          go_meet
          first | exact ⟨rfl, _, own_drewN HO9.out 1, HVC.out, below_drewN HB9.out 1⟩ | exact ⟨_, own_drewN HO9.out 1, HVC.out, below_drewN HB9.out 1⟩
        · have hl1 : ((r : Int) == (n : Int) - 1) = false := by simp; omega
          have HVC : Hid (MtI nx gs nx.length go (r + 1) 0 u) := Lib.hid (by
            rcases hmj with h | h
            · have := HN.out; omega
            · exact h.2)
          clear hmj
          go_wp2_with fail
          go_meet
          first | exact ⟨rfl, _, HOW.out, HVC.out, HBO.out⟩ | exact ⟨_, HOW.out, HVC.out, HBO.out⟩
      case rest =>
        obtain ⟨rfl, u5, hown5, hvc5, hB5⟩ := hcut
        obtain ⟨wo, rfl⟩ : ∃ wo : World, wo = wc := ⟨_, rfl⟩
        have HO5 := Lib.hid hown5
        have HV5 := Lib.hid hvc5
        have HBD := Lib.hid hB5
        have hB' : Below w5.heap.size w5 wo := by rw [← HME.out]; exact hB5
        have HBW := Lib.hid (HB.out.trans (hB'.mono HB.out.size))
        obtain ⟨⟨p0, p1, p2, p3⟩, _⟩ := blk4_cells (HWB5.out wo hB')
        rw [← HN.out] at p0
        obtain ⟨Ay, cy, hvy, hcy⟩ := HR.out.kept HBW.out
        injection hvy with hvA _ hvc
        subst hvA hvc
        rcases hcy with hn0 | ⟨g, rfl, hg, hc⟩
        · rw [hn0] at hrg; simp at hrg
        obtain ⟨a0, a1, a2⟩ := rules_cells hc hrg
        clear hown5 hvc5 hB5 hB' hc hg hmj HOW HBO HB5
        obtain ⟨A3', c3', hv3, h3z⟩ := H3.out
        injection hv3 with hv3 hv4 hv5
        subst hv3 hv5
        have HM3 : Hid (∃ g3, A3 = some ⟨g3, 0, none⟩ ∧ g3 < w.heap.size ∧ ∀ j i, j < gs.length → i < 24 → w.cell? ⟨g3, j * 24 + i, none⟩ = some (.int .i64 (at2 (mapsK nx gs gs.length) j i))) := Lib.hid (by
          rcases h3z with h3z | ⟨g3, hA3, hg3, h3c⟩
          · have := mapsK_len nx gs gs.length; rw [h3z] at this; simp at this; omega
          · exact ⟨g3, hA3, hg3.2, fun j i hj hi => h3c j i (by rw [mapsK_len]; exact hj) hi⟩)
        clear h3z hv4
        have hfk := fits_at HFIT.out r hrg
        have hxe := rlAt_eq hrg
        by_cases h0 : gs[r].L.size = 0
        · have hp := (ok_pair h0).1 hfk
          have HK := Lib.hid (fun W => kind_pair gs[r] h0 W)
          have HT := tm_pp
          have hlz : (rlAt gs r).L.size = 0 := by rw [hxe]; exact h0
          obtain ⟨a, ha⟩ : ∃ a : Nat, gs[r].l = a := ⟨gs[r].l.toNat, by omega⟩
          obtain ⟨b, hb⟩ : ∃ b : Nat, gs[r].r = b := ⟨gs[r].r.toNat, by omega⟩
          have hla : (rlAt gs r).l = (a : Int) := by rw [hxe]; exact ha
          have hlb : (rlAt gs r).r = (b : Int) := by rw [hxe]; exact hb
          have haj : a < r := by omega
          have hbj : b < r := by omega
          have HL := Lib.hid (And.intro hlz (And.intro hla hlb))
          clear hxe hfk hp hlz hla hlb
          generalize gs[r] = R at *
          obtain ⟨L, l, r'⟩ := R
          simp only at ha hb h0
          subst ha hb
          obtain rfl := empty_arr h0
          unfold agg3 at HK
          simp only at HK a0 a1 a2
          clear h0
          have HRNG : Hid (∀ W, Below M wo W → Below wo.heap.size wo W → W.rangeAt M (r * 24) (iv (metR u5 r))) := Lib.hid (fun W _ hb => met_range (own_below HO5.out hb (Nat.le_refl _)) hrn)
          have HSZ : Hid ((Try.prog.info? 138).map (·.size) = some (iv (metR u5 r)).length) := Lib.hid (by rw [size_tally, iv_len, metR_len])
          have HIX : Hid (∀ t : Nat, t < 24 → ∀ W, (Instr.index 138 (.agg (iv (metR u5 r)).toArray) (.int .i64 (t : Int))).run Try.prog W = .ok (.int .i64 (u5 r t)) W) := Lib.hid (fun (t : Nat) (ht : t < 24) W => by rw [index_tally _ (metR_len _ _) t ht W, metR_getD ht])
          go_upto_region 8 with (first | (refine (HK.out _).mono ?_
                                          rintro e w8 ⟨rfl, hB8⟩))
          have hMw : M < wo.heap.size := (HO5.out.lt M rfl).2
          have hb8 := hB8.alloc hB8.size (.cells #[.string ⟨#[]⟩, .int .i64 (a : Int), .int .i64 (b : Int)] 148)
          have HKP := Lib.hid (heap_alloc_new w8 (.cells #[.string ⟨#[]⟩, .int .i64 (a : Int), .int .i64 (b : Int)] 148))
          have HO8 := Lib.hid (own_below HO5.out hb8 (Nat.le_refl _))
          have HB8 := Lib.hid (HBD.out.trans (hb8.mono (Nat.le_of_lt hMw)))
          have HKM : Hid (M < w8.heap.size) := Lib.hid (Nat.lt_of_lt_of_le hMw hB8.size)
          obtain ⟨Kp, hKp⟩ : ∃ Kp, Kp = w8.heap.size := ⟨_, rfl⟩
          rw [← hKp] at HKP HKM ⊢
          clear hb8 hB8 hKp a0 a1 a2 p0 p1 p2 p3 HK HRNG
          generalize w8.alloc (.cells #[.string ⟨#[]⟩, .int .i64 (a : Int), .int .i64 (b : Int)] 148) = w9 at *
          have HRM := Lib.hid (met_range HO8.out hrn)
          go_wp2_with (first | (with_reducible refine wpList_load_mid rfl 138 _ rfl M (r * 24) rfl (iv (metR u5 r)) _ HRM.out und_tally rfl HSZ.out ?_))
          go_loopw [46] (fun i wr => ∃ t : Nat, t ≤ 24 ∧ i = .int .i64 t ∧ ∃ u', wr.ownsRow M 138 24 (.slice (some ⟨M, 0, none⟩) n n) n (iv (metL u' n)) ∧ MtI nx gs nx.length go (r + 1) t u' ∧ (∀ s, u' r s = u5 r s) ∧ wr.heap[Kp]? = some (.cells #[.string ⟨#[]⟩, .int .i64 (a : Int), .int .i64 (b : Int)] 148 (0, 0)) ∧ Below M w5 wr) (fun i _ => 24 - (intOf i).toNat)
          case atStart => exact ⟨0, by omega, rfl, u5, HO8.out, HV5.out, fun _ => rfl, HKP.out, HB8.out⟩
          case round =>
            obtain ⟨t, ht, rfl, u', hos, hmt, hrow, hkp, hBs⟩ := hrel
            obtain ⟨wu, rfl⟩ : ∃ wu : World, wu = wr := ⟨_, rfl⟩
            by_cases ht24 : t < 24
            · have hBs5 : Below w5.heap.size w5 wu := by rw [← HME.out]; exact hBs
              obtain ⟨⟨p0, p1, p2, p3⟩, _⟩ := blk4_cells (HWB5.out wu hBs5)
              have hBwu := HB.out.trans (hBs5.mono HB.out.size)
              obtain ⟨g3, hA3, hg3w, h3c⟩ := HM3.out
              subst hA3
              have cq0 := h3c a t (by omega) ht24
              have cq := (hBwu.cell (lt_of_cell cq0)).trans cq0
              have hqm := HMAP.out a t (by omega) ht24
              obtain ⟨q, hq⟩ : ∃ q : Nat, at2 (mapsK nx gs gs.length) a t = q := ⟨(at2 (mapsK nx gs gs.length) a t).toNat, by omega⟩
              rw [hq] at cq hqm
              have hqa : qAt nx gs a t = q := by unfold qAt; rw [hq]; rfl
              have hqN : q < nx.length := by have := HLEN.out; omega
              have hnext := MtI.pair (a := a) (b := b) hmt hrg ht24 (by have := HLEN.out; omega) (by rw [hqa]; exact hqN) HL.out.1 HL.out.2.1 HL.out.2.2 haj hbj
              rw [hqa] at hnext
              have hq24 : q < 24 := by have := HLEN.out; omega
              have hur := hrow t
              have bd1 := MtI.bound hnext HFIT.out (j := a) (s := t) (by omega) ht24 (gone_low (by omega))
              have bd2 := MtI.bound hnext HFIT.out (j := b) (s := q) (by omega) hq24 (gone_low (by omega))
              have hsm := HSM.out (gs.length - 1) (by omega)
              have hn1 := hmt.pos a t
              have hn2 := hmt.pos r t
              have hn3 := hmt.pos b q
              have hROW : Hid (∀ s, upd2 (upd2 u' a t (u' r t)) b q (u' r t) r s = u5 r s) := Lib.hid (fun s => by rw [upd2_ne _ _ (fun h => by omega), upd2_ne _ _ (fun h => by omega)]; exact hrow s)
              have le1 : u' a t + u' r t ≤ upd2 (upd2 u' a t (u' r t)) b q (u' r t) a t := by
                unfold upd2
                split <;> (try split) <;> (try simp) <;> omega
              have le2 : upd2 (upd2 u' a t (u' r t)) b q (u' r t) b q = upd2 u' a t (u' r t) b q + u' r t := upd2_same _ _ _ _
              have hub : 0 ≤ upd2 u' a t (u' r t) b q := by
                unfold upd2
                split <;> omega
              have hw1 : IntKind.i64.wrap (u' a t + u' r t) = u' a t + u' r t := by rw [IntKind.wrap_i64]; omega
              have hw2 : IntKind.i64.wrap (upd2 u' a t (u' r t) b q + u' r t) = upd2 u' a t (u' r t) b q + u' r t := by rw [IntKind.wrap_i64]; omega
              have hix := HIX.out t ht24
              rw [← hur] at hix
              have ca := met_cell hos (show a < n by omega) ht24
              have HNEXT := Lib.hid hnext
              have HO1 : Hid ((wu.setCell ⟨M, a * 24 + t, none⟩ (.int .i64 (u' a t + u' r t))).drew.ownsRow M 138 24 (.slice (some ⟨M, 0, none⟩) n n) n (iv (metL (upd2 u' a t (u' r t)) n))) := Lib.hid (own_drewN (met_store hos (show a < n by omega) ht24 (u' r t)) 1)
              have HB1 : Hid (Below M w5 (wu.setCell ⟨M, a * 24 + t, none⟩ (.int .i64 (u' a t + u' r t))).drew) := Lib.hid (below_drewN (hBs.setCell (p := ⟨M, a * 24 + t, none⟩) (Nat.le_refl _) (.int .i64 (u' a t + u' r t))) 1)
              have hf1 : wu.drew.frozen? ⟨M, a * 24 + t, none⟩ = false := hos.frozenAt _
              have hf0 : wu.frozen? ⟨M, a * 24 + t, none⟩ = false := hos.frozenAt _
              obtain ⟨_, k1, k2⟩ := rule3_cellsM hkp
              have hgM : g3 < M := by rw [HME.out]; exact Nat.lt_of_lt_of_le hg3w HB.out.size
              have hwM : w.heap.size < M := by rw [HME.out]; exact HWB.out.lt
              have hkM := HKM.out
              have HC1 : Hid (∀ v, (wu.setCell ⟨M, a * 24 + t, none⟩ v).drew.heap[Kp]? = some (.cells #[.string ⟨#[]⟩, .int .i64 (a : Int), .int .i64 (b : Int)] 148 (0, 0)) ∧ (wu.setCell ⟨M, a * 24 + t, none⟩ v).drew.cell? ⟨w.heap.size, 2, none⟩ = some (.slice (some ⟨g3, 0, none⟩) (mapsK nx gs gs.length).length c3) ∧ (wu.setCell ⟨M, a * 24 + t, none⟩ v).drew.cell? ⟨g3, a * 24 + t, none⟩ = some (.int .i64 (q : Int))) := Lib.hid (fun v => ⟨(Below.heap_setCell wu ⟨M, a * 24 + t, none⟩ v Kp (by simp only; omega)).trans hkp, (World.cell?_of_block (a := ⟨w.heap.size, 2, none⟩) (Below.heap_setCell wu ⟨M, a * 24 + t, none⟩ v w.heap.size (by simp only; omega))).trans p2, (World.cell?_of_block (a := ⟨g3, a * 24 + t, none⟩) (Below.heap_setCell wu ⟨M, a * 24 + t, none⟩ v g3 (by simp only; omega))).trans cq⟩)
              have a0' : (0 : Int) ≤ (a : Int) := by omega
              have a1' : (a : Int) < (n : Int) := by omega
              have a2' : (a : Int) < ((mapsK nx gs gs.length).length : Int) := by rw [mapsK_len]; omega
              have b0' : (0 : Int) ≤ (b : Int) := by omega
              have b1' : (b : Int) < (n : Int) := by omega
              have q0' : (0 : Int) ≤ (q : Int) := by omega
              have q1' : (q : Int) < 24 := by omega
              have t0' : (0 : Int) ≤ (t : Int) := by omega
              have t1' : (t : Int) < 24 := by omega
              obtain ⟨ud, hud⟩ : ∃ ud, ud = u' r t := ⟨_, rfl⟩
              rw [← hud] at hix hw1 hw2 HO1 HB1 HNEXT hROW
              clear hos hBs hBs5 hBwu hmt hrow hkp hnext hur bd1 bd2 hsm hn1 hn2 hn3 le1 le2 hub h3c cq0 hq hqa hqm hud
              go_upto_region 12 with fail
              go_still_tail 11, (by kernel_rfl)
              change wpList _ _ _ _ _ wu.drew
              go_upto_region 13 with fail
              obtain ⟨hk2, P2, CQ⟩ := HC1.out (.int .i64 (u' a t + ud))
              obtain ⟨_, K1, K2⟩ := rule3_cellsM hk2
              have CB := met_cell HO1.out (show b < n by omega) hq24
              have hosd2 : ((wu.setCell ⟨M, a * 24 + t, none⟩ (.int .i64 (u' a t + ud))).drew).drew.ownsRow M 138 24 (.slice (some ⟨M, 0, none⟩) n n) n (iv (metL (upd2 u' a t ud) n)) := own_drewN HO1.out 1
              have hbd2 : Below M w5 ((wu.setCell ⟨M, a * 24 + t, none⟩ (.int .i64 (u' a t + ud))).drew).drew := below_drewN HB1.out 1
              have HO2 := Lib.hid (met_store hosd2 (show b < n by omega) hq24 ud)
              have HB2 := Lib.hid (hbd2.setCell (p := ⟨M, b * 24 + q, none⟩) (Nat.le_refl _) (.int .i64 (upd2 u' a t ud b q + ud)))
              have hf2 := HO1.out.frozenAt (b * 24 + q)
              have HKP2 := Lib.hid (fun v => (Below.heap_setCell ((wu.setCell ⟨M, a * 24 + t, none⟩ (.int .i64 (u' a t + ud))).drew).drew ⟨M, b * 24 + q, none⟩ v Kp (by simp only; omega)).trans hk2)
              clear hosd2 hbd2 hk2 HC1 ca hf1 hf0 k1 k2 p0 p1 p2 p3 hw1
              generalize (wu.setCell ⟨M, a * 24 + t, none⟩ (.int .i64 (u' a t + ud))).drew = wv at *
              have hf3 : wv.drew.frozen? ⟨M, b * 24 + q, none⟩ = false := hf2
              go_still_tail 18, (by kernel_rfl)
              change wpList _ _ _ _ _ wv.drew
              go_wp2_with fail
              go_roundw
              all_goals first | exact ⟨t + 1, by omega, by go_num, _, HO2.out, HNEXT.out, hROW.out, HKP2.out _, HB2.out⟩ | ((repeat apply Exists.intro); exact ⟨⟨t + 1, by omega, by go_num, _, HO2.out, HNEXT.out, hROW.out, HKP2.out _, HB2.out⟩, rfl⟩) | (simp [intOf]; done) | (simp [intOf]; omega) | omega
            · obtain rfl : t = 24 := by omega
              have HNX : Hid (MtRel nx gs nx.length go w5 M (.int .i64 ((r : Int) - 1)) wu) := Lib.hid ⟨r, by rw [← HN.out]; omega, rfl, u', by rw [← HN.out]; exact hos, .inr ⟨hrg, MtI.down hmt⟩, hBs⟩
              clear hos hmt hrow hkp hBs
              go_wp2_with fail
              go_roundw
              all_goals first | exact HNX.out | ((repeat apply Exists.intro); exact ⟨HNX.out, rfl⟩) | (simp [intOf]; done) | (simp [intOf]; omega) | omega
        · have HK := Lib.hid (fun W => kind_letter gs[r] h0 W)
          have HT := tm_lpM
          have HV6 := Lib.hid (MtI.skip HV5.out (by rw [hxe]; exact h0))
          clear hxe hfk
          generalize gs[r] = R at *
          obtain ⟨L, l, r'⟩ := R
          unfold agg3 at HK
          simp only at HK a0 a1 a2
          clear h0
          have hMw : M < wo.heap.size := (HO5.out.lt M rfl).2
          go_upto_region 8 with (first | (refine (HK.out _).mono ?_
                                          rintro e w8 ⟨rfl, hB8⟩))
          have hb8 := hB8.alloc hB8.size (.cells #[.string ⟨#[]⟩, .int .i64 0, .int .i64 0] 148)
          have HO8 := Lib.hid (own_below HO5.out hb8 (Nat.le_refl _))
          have HB8 := Lib.hid (HBD.out.trans (hb8.mono (Nat.le_of_lt hMw)))
          clear hb8 hB8 a0 a1 a2 p0 p1 p2 p3 HK
          generalize w8.alloc (.cells #[.string ⟨#[]⟩, .int .i64 0, .int .i64 0] 148) = w9 at *
          have HNX : Hid (MtRel nx gs nx.length go w5 M (.int .i64 ((r : Int) - 1)) w9) := Lib.hid ⟨r, by rw [← HN.out]; omega, rfl, u5, by rw [← HN.out]; exact HO8.out, .inr ⟨hrg, HV6.out⟩, HB8.out⟩
          go_wp2_with fail
          go_roundw
          all_goals first | exact HNX.out | ((repeat apply Exists.intro); exact ⟨HNX.out, rfl⟩) | (simp [intOf]; done) | (simp [intOf]; omega) | omega
    · obtain rfl : m = 0 := by omega
      have HANS : Hid (∃ v u, (.slice (some ⟨M, 0, none⟩) n n : Value) = v ∧ IsMt wo w.heap.size v gs.length u ∧ (0 < gs.length → MtI nx gs nx.length go 0 0 u) ∧ Below w.heap.size w wo) := Lib.hid (by
        refine ⟨_, u, rfl, ?_, ?_, HB.out.trans (hB'.mono HB.out.size)⟩
        · rw [← HN.out]
          exact ⟨M, rfl, own_lower hown (by rw [HME.out]; exact HB.out.size)⟩
        · intro h0
          rcases hmj with h | h
          · omega
          · exact h.2)
      clear hown hmj hB hB'
      go_wp2_with fail
      go_ret
      obtain ⟨v, u9, e9, h1', h2', h3'⟩ := HANS.out
      exact ⟨v, u9, by rw [← e9]; rfl, h1', h2', h3'⟩
end Go.Proofs.Ytapemoehcohjgaa
