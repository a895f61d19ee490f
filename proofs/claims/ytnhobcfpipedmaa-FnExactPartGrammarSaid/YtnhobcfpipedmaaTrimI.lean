/-
  Walk: impl.trimmed, rules without those that do not matter.
-/
import Derived.Test.YtnhobcfpipedmaaTrimE
namespace Go.Proofs.Ytnhobcfpipedmaa
open Go.RowKit Go.Maps
open Wd
set_option linter.unusedVariables false
/-- what is needed, so far -/
structure G1 (gs : List Rl) (w : World) (FB cF Vf U : Nat) (nd : List Bool) (wr : World) : Prop where
  frow : wr.ownsRow w.heap.size 2 1 (.slice (some ⟨FB, 0, none⟩) gs.length cF) gs.length (iv (ints (fT gs gs.length)))
  vf : Var wr Vf (.slice (some ⟨FB, 0, none⟩) gs.length cF) 26
  urow : wr.ownsRow w.heap.size 4 1 (.slice (some ⟨U, 0, none⟩) gs.length gs.length) gs.length (tv nd)
  below : Below w.heap.size w wr
theorem G1.kept {gs : List Rl} {w wr w1 : World} {FB cF Vf U : Nat} {nd : List Bool} (h : G1 gs w FB cF Vf U nd wr) (hb : Below wr.heap.size wr w1) : G1 gs w FB cF Vf U nd w1 :=
  ⟨own_below h.frow hb (Nat.le_refl _), h.vf.kept hb, own_below h.urow hb (Nat.le_refl _), h.below.trans (hb.mono h.below.size)⟩
theorem G1.drew {gs : List Rl} {w wr : World} {FB cF Vf U : Nat} {nd : List Bool} (h : G1 gs w FB cF Vf U nd wr) : G1 gs w FB cF Vf U nd wr.drew :=
  h.kept (((Drawn.refl wr).drewN 1).below _)
theorem G1.fu {gs : List Rl} {w wr : World} {FB cF Vf U : Nat} {nd : List Bool} (h : G1 gs w FB cF Vf U nd wr) : FB ≠ U := by
  rcases own_kinds_ne h.frow h.urow (by decide) with e | e
  · simp [Value.ownBlock] at e
  · intro hh; exact e (by simp [Value.ownBlock, hh])
theorem G1.store {gs : List Rl} {w wr : World} {FB cF Vf U : Nat} {nd : List Bool} (h : G1 gs w FB cF Vf U nd wr) (k : Nat) (b : Bool) : G1 gs w FB cF Vf U (nd.set k b) (wr.setCell ⟨U, k, none⟩ (.bool b)) := by
  have h1 := h.fu
  have h2 := own_var_ne h.urow h.vf (by decide)
  refine ⟨World.ownsRow.kept h.frow (only_setCell (World.grownBy.refl wr (some U)) (p := ⟨U, k, none⟩) (.inl rfl) _) (.inr (by simpa [Value.ownBlock] using h1)), h.vf.far _ _ (fun e => h2 (by rw [e]; rfl)), b_store h.urow k b, h.below.setCell (p := ⟨U, k, none⟩) (h.urow.lt U rfl).1 _⟩
theorem G1.fcell {gs : List Rl} {w wr : World} {FB cF Vf U : Nat} {nd : List Bool} (h : G1 gs w FB cF Vf U nd wr) {k : Nat} (hk : k < gs.length) : wr.cell? ⟨FB, k, none⟩ = some (.int .i64 ((F1 gs (k : Int) : Nat) : Int)) := by
  have h1 := (World.ownsRow.cellAt h.frow k (by omega)).trans (ints_at (fT gs gs.length) k (by rw [fT_len]; exact hk))
  unfold F1
  rw [Int.toNat_natCast]
  exact h1
theorem G1.ucell {gs : List Rl} {w wr : World} {FB cF Vf U : Nat} {nd : List Bool} (h : G1 gs w FB cF Vf U nd wr) (hl : nd.length = gs.length) {k : Nat} (hk : k < gs.length) :
    wr.cell? ⟨U, k, none⟩ = some (.bool (nd.getD k false)) ∧ wr.frozen? ⟨U, k, none⟩ = false :=
  ⟨(World.ownsRow.cellAt h.urow k (by omega)).trans (tv_at nd k (by omega)), World.ownsRow.frozenAt h.urow k⟩
namespace Wd
/-- the needed ones when m rules have not been looked at yet -/
def ndPre (gs : List Rl) (m : Nat) : List Bool := ndT (kT gs gs.length) ((List.replicate gs.length false).set ((fT gs gs.length).getD (gs.length - 1) 0) true) gs.length (gs.length - m)
theorem ndPre_len (gs : List Rl) (m : Nat) : (ndPre gs m).length = gs.length := by unfold ndPre; rw [ndT_len]; simp
theorem ndPre_zero (gs : List Rl) : ndPre gs 0 = ndAll gs := rfl
theorem ndPre_top (gs : List Rl) : ndPre gs gs.length = (List.replicate gs.length false).set ((fT gs gs.length).getD (gs.length - 1) 0) true := by
  unfold ndPre; rw [Nat.sub_self]; rfl
theorem ndPre_next (gs : List Rl) {k : Nat} (hk : k < gs.length) : ndPre gs k = ndStep (kT gs gs.length) (ndPre gs (k + 1)) k := by
  unfold ndPre
  obtain ⟨t, ht⟩ : ∃ t, gs.length - (k + 1) = t := ⟨_, rfl⟩
  rw [show gs.length - k = t + 1 from by omega, ht, ndT, show gs.length - 1 - t = k from by omega]
end Wd
/-- what is left, so far -/
structure G3 (gs : List Rl) (w : World) (FB cF Vf U Q Vp : Nat) (nu : List Nat) (ou : List Rl) (yv : Value) (wr : World) : Prop where
  g1 : G1 gs w FB cF Vf U (ndAll gs) wr
  prow : wr.ownsRow w.heap.size 2 1 (.slice (some ⟨Q, 0, none⟩) gs.length gs.length) gs.length (iv (ints nu))
  vp : Var wr Vp (.slice (some ⟨Q, 0, none⟩) gs.length gs.length) 26
  lrow : wr.ownsRow w.heap.size 94 3 yv ou.length (rv ou)
  fq : FB ≠ Q
theorem G3.kept {gs : List Rl} {w wr w1 : World} {FB cF Vf U Q Vp : Nat} {nu : List Nat} {ou : List Rl} {yv : Value} (h : G3 gs w FB cF Vf U Q Vp nu ou yv wr) (hb : Below wr.heap.size wr w1) : G3 gs w FB cF Vf U Q Vp nu ou yv w1 :=
  ⟨h.g1.kept hb, own_below h.prow hb (Nat.le_refl _), h.vp.kept hb, own_below h.lrow hb (Nat.le_refl _), h.fq⟩
theorem G3.drew {gs : List Rl} {w wr : World} {FB cF Vf U Q Vp : Nat} {nu : List Nat} {ou : List Rl} {yv : Value} (h : G3 gs w FB cF Vf U Q Vp nu ou yv wr) : G3 gs w FB cF Vf U Q Vp nu ou yv wr.drew :=
  h.kept (((Drawn.refl wr).drewN 1).below _)
theorem var_grown {w w5 : World} {o : Obj} {b : Nat} {v : Value} {t : TypeId} {row : Option Nat} (h : Var w b v t) (hg : (w.alloc o).grownBy w5 row) (hne : some b ≠ row) : Var w5 b v t :=
  (hg.block b (by have := h.lt; simp; omega) hne).trans (h.kept ((Below.refl _ w).alloc (Nat.le_refl _) o))
theorem G3.app {gs : List Rl} {w wr w5 : World} {FB cF Vf U Q Vp : Nat} {nu : List Nat} {ou : List Rl} {yv y' : Value} {x : Rl} {o : Obj} (h : G3 gs w FB cF Vf U Q Vp nu ou yv wr)
    (hown : w5.ownsRow w.heap.size 94 3 y' (ou.length + 1) (rv ou ++ rc x)) (hg : (wr.alloc o).grownBy w5 yv.ownBlock) : G3 gs w FB cF Vf U Q Vp nu (ou ++ [x]) y' w5 := by
  have hbs := h.g1.below.size
  refine ⟨⟨own_other h.g1.frow h.lrow (by decide) hg, var_grown h.g1.vf hg (fun e => own_var_ne h.lrow h.g1.vf (by decide) e.symm), own_other h.g1.urow h.lrow (by decide) hg, (h.g1.below.alloc hbs o).grown hg (by simp; omega) (fun q hq => (h.lrow.lt q hq).1)⟩,
    own_other h.prow h.lrow (by decide) hg, var_grown h.vp hg (fun e => own_var_ne h.lrow h.vp (by decide) e.symm), ?_, h.fq⟩
  rw [List.length_append, rv_app, rv_one]
  exact hown
theorem G3.store {gs : List Rl} {w wr : World} {FB cF Vf U Q Vp : Nat} {nu : List Nat} {ou : List Rl} {yv : Value} (h : G3 gs w FB cF Vf U Q Vp nu ou yv wr) (k z : Nat) :
    G3 gs w FB cF Vf U Q Vp (nu.set k z) ou yv (wr.setCell ⟨Q, k, none⟩ (.int .i64 (z : Int))) := by
  have hg : wr.grownBy (wr.setCell ⟨Q, k, none⟩ (.int .i64 (z : Int))) (some Q) := only_setCell (World.grownBy.refl wr (some Q)) (p := ⟨Q, k, none⟩) (.inl rfl) _
  have k1 := own_kinds_ne h.g1.urow h.prow (by decide)
  have k2 := own_kinds_ne h.lrow h.prow (by decide)
  have v1 := own_var_ne h.prow h.g1.vf (by decide)
  have v2 := own_var_ne h.prow h.vp (by decide)
  refine ⟨⟨World.ownsRow.kept h.g1.frow hg (.inr (by have := h.fq; simpa [Value.ownBlock] using this)), h.g1.vf.far _ _ (fun e => v1 (by rw [e]; rfl)), World.ownsRow.kept h.g1.urow hg (k1.imp id fun e => e), h.g1.below.setCell (p := ⟨Q, k, none⟩) (h.prow.lt Q rfl).1 _⟩,
    ?_, h.vp.far _ _ (fun e => v2 (by rw [e]; rfl)), World.ownsRow.kept h.lrow hg (k2.imp id fun e => e), h.fq⟩
  have := (h.prow.stored k (.int .i64 (z : Int))).1
  rwa [show (iv (ints nu)).set k (.int .i64 (z : Int)) = iv (ints (nu.set k z)) from by simp [ints, iv, List.map_set]] at this
theorem G3.pcell {gs : List Rl} {w wr : World} {FB cF Vf U Q Vp : Nat} {nu : List Nat} {ou : List Rl} {yv : Value} (h : G3 gs w FB cF Vf U Q Vp nu ou yv wr) (hl : nu.length = gs.length) {k : Nat} (hk : k < gs.length) :
    wr.cell? ⟨Q, k, none⟩ = some (.int .i64 ((nu.getD k 0 : Nat) : Int)) ∧ wr.frozen? ⟨Q, k, none⟩ = false :=
  ⟨(World.ownsRow.cellAt h.prow k (by omega)).trans (ints_at nu k (by omega)), World.ownsRow.frozenAt h.prow k⟩
theorem G3.fun {gs : List Rl} {w wr : World} {FB cF Vf U Q Vp : Nat} {nu : List Nat} {ou : List Rl} {yv : Value} (h : G3 gs w FB cF Vf U Q Vp nu ou yv wr) (hl : gs.length ≤ 1000000) (hn : nu.length = gs.length) {n : Int} (h0 : 0 ≤ n) (hlt : n < gs.length) :
    ∀ W : World, (∀ q, q < wr.heap.size → W.heap[q]? = wr.heap[q]?) → Calls Try.prog 123 #[.int .i64 n, .pointer (some ⟨Vp, 0, none⟩), .pointer (some ⟨Vf, 0, none⟩)] W fun e w' => e = .returned (.int .i64 ((nu.getD (F1 gs n) 0 : Nat) : Int)) ∧ Drawn W w' := by
  intro W hW
  obtain ⟨j, rfl⟩ : ∃ j : Nat, n = j := ⟨n.toNat, by omega⟩
  have hjl : j < gs.length := by omega
  have hf : F1 gs (j : Int) < gs.length := by have := F1_le gs (i := (j : Int)) (by simpa using hjl); simp at this; omega
  have c1 := h.g1.vf.cell.1
  have c2 := h.g1.fcell hjl
  have c3 := h.vp.cell.1
  have c4 := (h.pcell hn hf).1
  refine trimE_any j Vp Vf FB Q gs.length cF gs.length gs.length (F1 gs (j : Int)) _ W (by omega) hl hf hl ?_ ?_ ?_ ?_
  · rw [World.cell?_of_block (a := ⟨Vf, 0, none⟩) (hW _ (lt_of_cell c1))]; exact c1
  · rw [World.cell?_of_block (a := ⟨FB, j, none⟩) (hW _ (lt_of_cell c2))]; exact c2
  · rw [World.cell?_of_block (a := ⟨Vp, 0, none⟩) (hW _ (lt_of_cell c3))]; exact c3
  · rw [World.cell?_of_block (a := ⟨Q, F1 gs (j : Int), none⟩) (hW _ (lt_of_cell c4))]; exact c4
theorem G3.ren {gs : List Rl} {w wr : World} {FB cF Vf U Q Vp : Nat} {nu : List Nat} {ou : List Rl} {yv : Value} (h : G3 gs w FB cF Vf U Q Vp nu ou yv wr) (hok : fits gs = true) (hl : gs.length ≤ 1000000) (hn : nu.length = gs.length) {k : Nat} (hk : k < gs.length) :
    Calls Try.prog 122 #[.agg #[.string gs[k].L, .int .i64 gs[k].l, .int .i64 gs[k].r], .func (.func 123) #[] #[.pointer (some ⟨Vp, 0, none⟩), .pointer (some ⟨Vf, 0, none⟩)]] wr fun e w' =>
      e = .returned (.agg #[.string (leftR gs nu gs[k]).L, .int .i64 (leftR gs nu gs[k]).l, .int .i64 (leftR gs nu gs[k]).r]) ∧ Below wr.heap.size wr w' := by
  by_cases hz : gs[k].L.size = 0
  · have hb := (ok_pair hz).1 (fits_at hok k hk)
    have := renum_trim gs[k] Vp Vf _ _ wr hz (h.fun hl hn hb.1.1 (by omega)) (h.fun hl hn hb.2.1 (by omega))
    unfold leftR
    rw [if_pos hz]
    exact this
  · have := renum_keep gs[k] (.func (.func 123) #[] #[.pointer (some ⟨Vp, 0, none⟩), .pointer (some ⟨Vf, 0, none⟩)]) wr hz
    unfold leftR
    rw [if_neg hz]
    exact this
/-- between two rules -/
def G2Rel (gs : List Rl) (w : World) (FB cF Vf U Q Vp : Nat) (yv i : Value) (wr : World) : Prop :=
  ∃ k : Nat, k ≤ gs.length ∧ i = .int .i64 k ∧ G3 gs w FB cF Vf U Q Vp (outT (kT gs gs.length) (ndAll gs) k).1 (outT (kT gs gs.length) (ndAll gs) k).2 yv wr
/-- from above down -/
def GRel (gs : List Rl) (w : World) (FB cF Vf U : Nat) (i : Value) (wr : World) : Prop :=
  ∃ (m : Nat) (v : Int), i = .int .i64 v ∧ v + 1 = m ∧ m ≤ gs.length ∧ G1 gs w FB cF Vf U (ndPre gs m) wr

set_option maxRecDepth 100000 in
set_option maxHeartbeats 1600000 in
theorem trimmed_any (v : Value) (gs : List Rl) (w : World) (hl : gs.length ≤ 1000000) (hok : fits gs = true) (hr : Rules w v gs) :
    Calls Try.prog 69 #[v] w fun e w' => ∃ y, e = .returned y ∧ OwnsR w' w.heap.size y (trimG gs) ∧ Below w.heap.size w w' := by
  obtain ⟨i0, hi, hz0, hz1, hz2⟩ := info_parts Try.info_i64
  obtain ⟨b0, bi, bz0, bz1, bz2⟩ := info_parts Try.info_bool
  obtain ⟨r0, ri, rz0, rz1, rz2⟩ := info_parts Try.info_rule
  have HFE := Lib.hid (firstEquals_any v gs w hl hok hr)
  obtain ⟨A, c, rfl, hr⟩ := hr
  have HRH := Lib.hid hr
  have HOK := Lib.hid hok
  clear hr hok
  by_cases hz : gs.length = 0
  · obtain rfl := List.eq_nil_of_length_eq_zero hz
    clear hz HFE
    go_enter Try.func69, Try.ntmps69
    go_wp2_with fail
    go_ret
    exact ⟨_, rfl, World.ownsRow_nil _ _ _ _, Below.refl _ _⟩
  · obtain ⟨N, hN⟩ : ∃ N, N = gs.length := ⟨_, rfl⟩
    have hN0 : ¬ N = 0 := by omega
    have hN1 : 0 < N := by omega
    have hNl : N ≤ 1000000 := by omega
    rw [← hN] at HFE ⊢
    have HN := Lib.hid hN
    obtain ⟨M, hM⟩ : ∃ M, N = M + 1 := ⟨N - 1, by omega⟩
    have HLA : Hid (∀ W, Calls Try.prog 107 #[.slice A N c] W fun e w' => e = .returned (.int .i64 (M : Int)) ∧ w' = W) := Lib.hid (fun W => (lastA A N c (by omega) W).mono fun e w' h => ⟨h.1.trans (ret_int (by omega)), h.2⟩)
    have HM := Lib.hid hM
    clear hz hN hl hM
    go_enter Try.func69, Try.ntmps69
    go_wp2_with fail
    refine HFE.out.mono ?_
    rintro e w1 ⟨y, rfl, hy, hB1⟩
    rcases hy.shape with ⟨_, h0⟩ | ⟨FB, cF, rfl, _⟩
    · exact absurd (by have := congrArg List.length h0; rw [ints_len, fT_len] at this; exact this) hN0
    have hy2 : w1.ownsRow w.heap.size 2 1 (.slice (some ⟨FB, 0, none⟩) N cF) N (iv (ints (fT gs N))) := by
      have h := hy
      unfold OwnsI at h
      rwa [ints_len, fT_len] at h
    rw [ints_len, fT_len]
    clear hy
    have hy := hy2
    clear hy2
    have HB1 := Lib.hid hB1
    have hs1 := hB1.size
    have hba := (Below.refl _ w1).alloc (Nat.le_refl _) (.cells #[.slice (some ⟨FB, 0, none⟩) N cF] 26)
    have hF2 := own_below hy hba (Nat.le_refl _)
    have hV2 := Var.new w1 (.slice (some ⟨FB, 0, none⟩) N cF) 26
    have hB2 := HB1.out.trans (hba.mono hs1)
    have HB2 := Lib.hid hB2
    have HF2 := Lib.hid hF2
    have HV2 := Lib.hid hV2
    clear hy hB1 hba hF2 hV2 hB2
    obtain ⟨Vf, hVf⟩ : ∃ Vf, Vf = w1.heap.size := ⟨_, rfl⟩
    go_upto_region 5 with (at_make; refine wpList_make_full _ rfl _ _ 161 rfl w.heap.size 4 b0 (.bool false) 1 Try.underlying161 bi bz0 bz1 .i64 .i64 _ _ N rfl rfl rfl rfl (by rw [bz2]; omega) (by unfold maxLen; omega) (by simp; omega) ?_; intro w3 hown3 hg3)
    rw [show (Value.bool false).cells = #[.bool false] from rfl, Nat.mul_one, made_bool] at hown3
    rw [show (w1.alloc (.cells #[.slice (some ⟨FB, 0, none⟩) N cF] 26)).heap.size = w1.heap.size + 1 from by simp] at hown3
    have hB3 := below_of_grown hg3
    have hg1 : G1 gs w FB cF w1.heap.size (w1.heap.size + 1) (List.replicate gs.length false) w3 := by
      refine ⟨?_, ?_, ?_, HB2.out.trans (hB3.mono HB2.out.size)⟩ <;> rw [← HN.out]
      · exact own_below HF2.out hB3 (Nat.le_refl _)
      · exact HV2.out.kept hB3
      · exact hown3
    rw [← hVf] at hg1 ⊢
    obtain ⟨U, hU⟩ : ∃ U, U = Vf + 1 := ⟨_, rfl⟩
    rw [← hU] at hg1 ⊢
    clear hU
    clear hown3 hg3 hB3 HV2 HF2 HB2 HB1 hVf hs1 HFE
    have hMg : M < gs.length := by have := HM.out; rw [← HN.out]; omega
    have f0 := hg1.fcell hMg
    have hF1 : F1 gs (M : Int) < N := by have := HM.out; have := F1_le gs (i := (M : Int)) (by simpa using hMg); simp at this; omega
    obtain ⟨u0, u1⟩ := hg1.ucell (by simp) (k := F1 gs (M : Int)) (by rw [← HN.out]; exact hF1)
    obtain ⟨v0, v1⟩ := hg1.vf.cell
    rw [← HN.out] at v0
    have HG3 : Hid (G1 gs w FB cF Vf U (ndPre gs N) ((w3.setCell ⟨U, F1 gs (M : Int), none⟩ (.bool true)).drew)) := Lib.hid (by
      have := (hg1.store (F1 gs (M : Int)) true).drew
      rw [HN.out, ndPre_top]
      rw [show gs.length - 1 = M from by have := HM.out; rw [← HN.out]; omega]
      unfold F1 at this
      rwa [Int.toNat_natCast] at this)
    have HC3 : Hid (w3.drew.cell? ⟨Vf, 0, none⟩ = some (.slice (some ⟨FB, 0, none⟩) N cF) ∧ w3.drew.cell? ⟨FB, M, none⟩ = some (.int .i64 ((F1 gs (M : Int) : Nat) : Int))) := Lib.hid ⟨v0, f0⟩
    have HC4 : Hid ((w3.drew.setCell ⟨U, F1 gs (M : Int), none⟩ (.bool true)).cell? ⟨Vf, 0, none⟩ = some (.slice (some ⟨FB, 0, none⟩) N cF) ∧ (w3.drew.setCell ⟨U, F1 gs (M : Int), none⟩ (.bool true)).cell? ⟨FB, M, none⟩ = some (.int .i64 ((F1 gs (M : Int) : Nat) : Int))) := Lib.hid (by
      have h1 := HG3.out.vf.cell.1
      rw [← HN.out] at h1
      exact ⟨h1, HG3.out.fcell hMg⟩)
    clear hg1
    generalize F1 gs (M : Int) = f1 at *
    generalize (List.replicate gs.length false).getD f1 false = ub at *
    have u0d : w3.drew.cell? ⟨U, f1, none⟩ = some (.bool ub) := u0
    have u1d : w3.drew.frozen? ⟨U, f1, none⟩ = false := u1
    have v0d : w3.drew.cell? ⟨Vf, 0, none⟩ = some (.slice (some ⟨FB, 0, none⟩) N cF) := v0
    have f0d : w3.drew.cell? ⟨FB, M, none⟩ = some (.int .i64 (f1 : Int)) := f0
    have hM0 : (0 : Int) ≤ (M : Int) := by omega
    have hM1 : (M : Int) < (N : Int) := by have := HM.out; omega
    have hf0 : (0 : Int) ≤ (f1 : Int) := by omega
    have hf1 : (f1 : Int) < (N : Int) := by omega
    go_region_held3 (fun w' => w'.cell? ⟨Vf, 0, none⟩ = some (.slice (some ⟨FB, 0, none⟩) N cF) ∧ w'.cell? ⟨FB, M, none⟩ = some (.int .i64 (f1 : Int))) (first | exact HC3.out | exact HC4.out | go_keep) (first | (go_at_call 107; refine (HLA.out _).mono ?_; rintro e w9 ⟨rfl, rfl⟩))
    all_goals
      go_wp2_with fail
      refine (HLA.out _).mono ?_
      rintro e w9 ⟨rfl, rfl⟩
      go_wp2_with fail
      clear u0d u1d v0d f0d u0 u1 v0 v1 f0 HC3 HC4 hf0 hf1 hM0 hM1 hMg hF1
      generalize (w3.setCell ⟨U, f1, none⟩ (.bool true)).drew = w4 at *
      have HTP := ta_pp
      have HTL := ta_lp
      go_loopw [5] (fun i wr => GRel gs w FB cF Vf U i wr) (fun i _ => ((intOf i) + 1).toNat)
      case atStart => exact ⟨N, (M : Int), rfl, by have := HM.out; omega, by rw [← HN.out]; exact Nat.le_refl _, HG3.out⟩
      case round =>
        clear HG3
        obtain ⟨m, v, rfl, hvm, hm, hg⟩ := hrel
        obtain ⟨wo, rfl⟩ : ∃ wo : World, wo = wr := ⟨_, rfl⟩
        by_cases hm0 : m = 0
        · subst hm0
          obtain rfl : v = -1 := by omega
          have HG5 := Lib.hid hg
          clear hg hm hvm HTP HTL
          rw [ndPre_zero] at HG5
          have hbs := HG5.out.below.size
          go_wp2_with (at_make; refine wpList_make_full _ rfl _ _ 26 rfl w.heap.size 2 i0 (.int .i64 0) 1 Try.underlying26 hi hz0 hz1 .i64 .i64 _ _ N rfl rfl rfl rfl (by rw [hz2]; omega) (by unfold maxLen; omega) (by simp; omega) ?_)
          intro w5 hown5 hg5
          rw [made_i64] at hown5
          have hB5 := below_of_grown hg5
          have HST : Hid (G2Rel gs w FB cF Vf U (wo.heap.size + 1) w5.heap.size (.slice (some ⟨wo.heap.size, 0, none⟩) 0 0) (.int .i64 0) (w5.alloc (.cells #[.slice (some ⟨wo.heap.size + 1, 0, none⟩) N N] 26))) := Lib.hid (by
            have hba := (Below.refl _ wo).alloc (Nat.le_refl _) (.cells #[] 94)
            have hbb := (Below.refl _ w5).alloc (Nat.le_refl _) (.cells #[.slice (some ⟨wo.heap.size + 1, 0, none⟩) N N] 26)
            have hl : (wo.alloc (.cells #[] 94)).ownsRow w.heap.size 94 3 (.slice (some ⟨wo.heap.size, 0, none⟩) 0 0) 0 (rv []) := World.ownsRow_lit wo #[] 0 hbs (by decide) rfl
            refine ⟨0, Nat.zero_le _, rfl, ⟨((HG5.out.kept hba).kept hB5).kept hbb, ?_, ?_, own_below (own_below hl hB5 (Nat.le_refl _)) hbb (Nat.le_refl _), ?_⟩⟩
            · rw [HN.out] at hown5 ⊢
              have e : ints (outT (kT gs gs.length) (ndAll gs) 0).1 = List.replicate gs.length 0 := by simp [outT, ints, ndAll_len]
              rw [e]
              exact own_below hown5 ((Below.refl _ w5).alloc (Nat.le_refl _) _) (Nat.le_refl _)
            · rw [HN.out]; exact Var.new w5 _ _
            · have := (HG5.out.frow.lt FB rfl).2; omega)
          clear hown5 hg5 hB5
          obtain ⟨Vp, hVp⟩ : ∃ Vp, Vp = w5.heap.size := ⟨_, rfl⟩
          obtain ⟨Q, hQ⟩ : ∃ Q, Q = wo.heap.size + 1 := ⟨_, rfl⟩
          obtain ⟨LB, hLB⟩ : ∃ LB, LB = wo.heap.size := ⟨_, rfl⟩
          go_wp2_with fail
          rw [← hQ, ← hVp, ← hLB] at HST
          rw [← hVp, ← hQ]
          rw [← hLB]
          generalize w5.alloc (.cells #[.slice (some ⟨Q, 0, none⟩) N N] 26) = w6 at *
          clear hVp hQ hLB hbs HG5
          go_loopw [8, 69] (fun yv i wr => G2Rel gs w FB cF Vf U Q Vp yv i wr) (fun _ i _ => N - (intOf i).toNat)
          case atStart => exact HST.out
          case round =>
            clear HST
            obtain ⟨k, hk, rfl, hg⟩ := hrel
            obtain ⟨wu, rfl⟩ : ∃ wu : World, wu = wr := ⟨_, rfl⟩
            rw [← HN.out] at hk
            by_cases hlt : k < N
            · have hkg : k < gs.length := by rw [← HN.out]; exact hlt
              rcases HRH.out with hn | ⟨g, rfl, hgb, hc⟩
              · rw [hn] at hkg; simp at hkg
              obtain ⟨a0, a1, a2⟩ := rules_cells hc hkg
              have d0 := (hg.g1.below.cell (p := ⟨g, k * 3, none⟩) hgb).trans a0
              have d1 := (hg.g1.below.cell (p := ⟨g, k * 3 + 1, none⟩) hgb).trans a1
              have d2 := (hg.g1.below.cell (p := ⟨g, k * 3 + 2, none⟩) hgb).trans a2
              have hoL : (outT (kT gs gs.length) (ndAll gs) k).2.length ≤ k := outT_le _ _ _
              have hnL : (outT (kT gs gs.length) (ndAll gs) k).1.length = gs.length := by rw [outT_len, ndAll_len]
              have HYES := Lib.hid (fun h => out_yes HOK.out hkg (ndAll gs) h)
              have HNO : Hid ((ndAll gs).getD k false = false → outT (kT gs gs.length) (ndAll gs) (k + 1) = ((outT (kT gs gs.length) (ndAll gs) k).1, (outT (kT gs gs.length) (ndAll gs) k).2)) := Lib.hid (fun h => out_no (gs := gs) (k := k) (ndAll gs) h)
              have hc8 := (hg.kept ((Below.refl _ wu).alloc (Nat.le_refl _) (.cells #[.string gs[k].L, .int .i64 gs[k].l, .int .i64 gs[k].r] 94)))
              have HREN := Lib.hid (fun hl => hc8.ren HOK.out hl hnL hkg)
              have HG8 := Lib.hid hc8
              obtain ⟨⟨p0, p1, p2⟩, _⟩ := blk3_cells (heap_alloc_new wu (.cells #[.string gs[k].L, .int .i64 gs[k].l, .int .i64 gs[k].r] 94))
              obtain ⟨c0, c1⟩ := hc8.g1.ucell (ndAll_len gs) hkg
              obtain ⟨A2, c2, rfl⟩ := own_slice hg.lrow
              generalize (outT (kT gs gs.length) (ndAll gs) k).1 = no at *
              generalize (outT (kT gs gs.length) (ndAll gs) k).2 = oo at *
              generalize leftR gs no gs[k] = Z at *
              generalize gs[k] = R at *
              clear a0 a1 a2 hc hc8 hg
              obtain ⟨X, hX⟩ : ∃ X, X = wu.heap.size := ⟨_, rfl⟩
              go_upto_region 18 with fail
              rw [← hX] at p0 p1 p2 ⊢
              generalize wu.alloc (.cells #[.string R.L, .int .i64 R.l, .int .i64 R.r] 94) = w8 at *
              clear hX d0 d1 d2
              cases hu : (ndAll gs).getD k false
              · rw [hu] at c0
                have HO := Lib.hid (HNO.out hu)
                clear hu HYES HNO
                go_wp2_with fail
                go_roundw
                all_goals first | exact ⟨k + 1, by omega, by go_num, by rw [HO.out]; exact HG8.out⟩ | ((repeat apply Exists.intro); exact ⟨⟨k + 1, by omega, by go_num, by rw [HO.out]; exact HG8.out⟩, rfl⟩) | (simp [intOf]; done) | (simp [intOf]; omega) | omega
              · rw [hu] at c0
                have HO := Lib.hid (HYES.out hu)
                have HR := Lib.hid (HREN.out (by rw [← HN.out]; exact hNl))
                clear hu HYES HNO HREN
                go_wp2_with fail
                refine HR.out.mono ?_
                rintro e w9 ⟨rfl, hB9⟩
                have HG9 := Lib.hid (HG8.out.kept hB9)
                have HNW := Lib.hid (news3 w9 Z 94)
                have hbs9 : w.heap.size ≤ w9.heap.size := HG9.out.g1.below.size
                have HO9 := Lib.hid HG9.out.lrow
                obtain ⟨L, hL⟩ : ∃ L, L = oo.length := ⟨_, rfl⟩
                rw [← hL] at hoL HO9 ⊢
                have HL := Lib.hid hL
                clear hB9 HR HG8 p0 p1 p2 c0 c1 hL
                go_upto_region 20 with (first | (at_builtin; refine wpList_append_own _ rfl _ _ 29 rfl w.heap.size 94 r0 (.agg #[.string ⟨#[]⟩, .int .i64 0, .int .i64 0]) 3 32 Try.underlying29 ri rz0 rz1 rz2 rfl (by decide) _ _ _ rfl (World.ownsRow.alloc HO9.out _) ⟨w9.heap.size, 0, none⟩ 1 1 (rc Z) rfl rfl HNW.out (rc_cell _) (by unfold maxLen; omega) (by omega) (by simp; omega) ?_; intro y' w10 hown' hgrow hwhat))
                obtain ⟨A8, c8, rfl⟩ := own_slice hown'
                have hg10 : G3 gs w FB cF Vf U Q Vp no (oo ++ [Z]) (.slice A8 (L + 1) c8) w10 := HG9.out.app (x := Z) (by rw [HL.out] at hown' ⊢; exact hown') (by rw [HL.out] at hgrow; exact hgrow)
                have HLB : Hid (∀ W, Calls Try.prog 107 #[.slice A8 (L + 1) c8] W fun e w' => e = .returned (.int .i64 (L : Int)) ∧ w' = W) := Lib.hid (fun W => (lastA A8 (L + 1) c8 (by omega) W).mono fun e w' h => ⟨h.1.trans (ret_int (by omega)), h.2⟩)
                obtain ⟨v0, v1⟩ := hg10.vp.cell
                rw [← HN.out] at v0
                obtain ⟨z0, z1⟩ := hg10.pcell hnL hkg
                have HG11 : Hid (G3 gs w FB cF Vf U Q Vp (no.set k L) (oo ++ [Z]) (.slice A8 (L + 1) c8) ((w10.setCell ⟨Q, k, none⟩ (.int .i64 (L : Int))).drew)) := Lib.hid (hg10.store k L).drew
                have HC10 : Hid (w10.drew.cell? ⟨Vp, 0, none⟩ = some (.slice (some ⟨Q, 0, none⟩) N N)) := Lib.hid v0
                have HC11 : Hid ((w10.drew.setCell ⟨Q, k, none⟩ (.int .i64 (L : Int))).cell? ⟨Vp, 0, none⟩ = some (.slice (some ⟨Q, 0, none⟩) N N)) := Lib.hid (by
                  have h1 := HG11.out.vp.cell.1
                  rw [← HN.out] at h1
                  exact h1)
                generalize no.getD k 0 = zk at *
                have z0d : w10.drew.cell? ⟨Q, k, none⟩ = some (.int .i64 (zk : Int)) := z0
                have z1d : w10.drew.frozen? ⟨Q, k, none⟩ = false := z1
                have v0d : w10.drew.cell? ⟨Vp, 0, none⟩ = some (.slice (some ⟨Q, 0, none⟩) N N) := v0
                have hk0 : (0 : Int) ≤ (k : Int) := by omega
                have hk1 : (k : Int) < (N : Int) := by omega
                clear hown' hgrow hwhat hg10 HG9 HNW HO9
                go_region_held3 (fun w' => w'.cell? ⟨Vp, 0, none⟩ = some (.slice (some ⟨Q, 0, none⟩) N N)) (first | exact HC10.out | exact HC11.out | go_keep) (first | (go_at_call 107; refine (HLB.out _).mono ?_; rintro e w11 ⟨rfl, rfl⟩))
                all_goals
                  go_wp2_with fail
                  go_roundw
                  all_goals first | exact ⟨k + 1, by omega, by go_num, by rw [HO.out, ← HL.out]; exact HG11.out⟩ | ((repeat apply Exists.intro); exact ⟨⟨k + 1, by omega, by go_num, by rw [HO.out, ← HL.out]; exact HG11.out⟩, rfl⟩) | (simp [intOf]; done) | (simp [intOf]; omega) | omega
            · obtain rfl : k = N := by omega
              have HG6 := Lib.hid hg
              clear hg
              go_wp2_with fail
              go_ret
              refine ⟨_, rfl, ?_, HG6.out.g1.below⟩
              have := HG6.out.lrow
              rw [HN.out] at this
              exact this
        · obtain ⟨k, rfl⟩ : ∃ k, m = k + 1 := ⟨m - 1, by omega⟩
          obtain rfl : v = (k : Int) := by omega
          have hkg : k < gs.length := by omega
          have hkN : k < N := by rw [HN.out]; exact hkg
          rcases HRH.out with hn | ⟨g, rfl, hgb, hc⟩
          · rw [hn] at hkg; simp at hkg
          obtain ⟨a0, a1, a2⟩ := rules_cells hc hkg
          have d0 := (hg.below.cell (p := ⟨g, k * 3, none⟩) hgb).trans a0
          have d1 := (hg.below.cell (p := ⟨g, k * 3 + 1, none⟩) hgb).trans a1
          have d2 := (hg.below.cell (p := ⟨g, k * 3 + 2, none⟩) hgb).trans a2
          have HNX := Lib.hid (ndPre_next gs hkg)
          have hlen := ndPre_len gs (k + 1)
          clear a0 a1 a2 hc hvm hm hm0
          by_cases h0 : gs[k].L.size = 0
          · obtain ⟨⟨q1, q2⟩, q3, q4⟩ := (ok_pair h0).1 (fits_at HOK.out k hkg)
            obtain ⟨a, ha⟩ : ∃ a : Nat, gs[k].l = a := ⟨gs[k].l.toNat, by omega⟩
            obtain ⟨b, hb⟩ : ∃ b : Nat, gs[k].r = b := ⟨gs[k].r.toNat, by omega⟩
            have HS := Lib.hid (nd_pair HOK.out hkg h0 (ndPre gs (k + 1)))
            rw [← HNX.out, ha, hb] at HS
            have HK := Lib.hid (fun W => kind_pair ⟨⟨#[]⟩, (a : Int), (b : Int)⟩ rfl W)
            rw [empty_arr h0] at d0
            rw [ha] at d1
            rw [hb] at d2
            have hag : a < gs.length := by omega
            have hbg : b < gs.length := by omega
            have hfa : F1 gs (a : Int) < gs.length := by have := F1_le gs (i := (a : Int)) (by simpa using hag); simp at this; omega
            have hfb : F1 gs (b : Int) < gs.length := by have := F1_le gs (i := (b : Int)) (by simpa using hbg); simp at this; omega
            clear q1 q2 q3 q4 ha hb h0 HNX
            generalize ndPre gs (k + 1) = nd at *
            have HGK := Lib.hid hg
            clear hg
            go_wp2_with fail
            refine (HK.out _).mono ?_
            rintro e w7 ⟨rfl, hB7⟩
            have HG7 := Lib.hid (HGK.out.kept hB7)
            clear hB7 d0 d1 d2
            go_upto_region 10 with fail
            obtain ⟨⟨p0, p1, p2⟩, _⟩ := blk3_cells (heap_alloc_new w7 (.cells #[.string ⟨#[]⟩, .int .i64 (a : Int), .int .i64 (b : Int)] 171))
            have HG8 := Lib.hid (HG7.out.kept ((Below.refl _ w7).alloc (Nat.le_refl _) (.cells #[.string ⟨#[]⟩, .int .i64 (a : Int), .int .i64 (b : Int)] 171)))
            have hPU : w7.heap.size ≠ U := by have := (HG7.out.urow.lt U rfl).2; omega
            obtain ⟨P, hP⟩ : ∃ P, P = w7.heap.size := ⟨_, rfl⟩
            rw [← hP] at p0 p1 p2 hPU ⊢
            clear hP HG7 HGK
            generalize w7.alloc (.cells #[.string ⟨#[]⟩, .int .i64 (a : Int), .int .i64 (b : Int)] 171) = w8 at *
            obtain ⟨c0, c1⟩ := HG8.out.ucell hlen hkg
            cases hu : nd.getD k false
            · rw [hu] at c0
              rw [hu, if_neg (by decide)] at HS
              clear hu
              go_wp2_with fail
              go_roundw
              all_goals first | exact ⟨k, (k : Int) - 1, by go_num, by omega, by omega, by rw [HS.out]; exact HG8.out⟩ | ((repeat apply Exists.intro); exact ⟨⟨k, (k : Int) - 1, by go_num, by omega, by omega, by rw [HS.out]; exact HG8.out⟩, rfl⟩) | (simp [intOf]; done) | (simp [intOf]; omega) | omega
            · rw [hu] at c0
              rw [hu, if_pos rfl] at HS
              clear hu
              obtain ⟨e0, e1⟩ := HG8.out.vf.cell
              rw [← HN.out] at e0
              have fa := HG8.out.fcell hag
              have fb := HG8.out.fcell hbg
              obtain ⟨s0, s1⟩ := HG8.out.ucell hlen hfa
              have hl2 : (nd.set (F1 gs (a : Int)) true).length = gs.length := by rw [List.length_set]; exact hlen
              have HG9 := Lib.hid (HG8.out.store (F1 gs (a : Int)) true)
              rw [← HN.out] at hag hbg hfa
              have hfbN : F1 gs (b : Int) < N := by rw [HN.out]; exact hfb
              have HS := Lib.hid HS.out
              generalize F1 gs (a : Int) = fa' at *
              generalize hfb' : F1 gs (b : Int) = fb' at *
              have HFB := Lib.hid hfb'
              clear hfb'
              go_upto_region 12 with fail
              have P1 := cell_far1 (p := ⟨U, fa', none⟩) (u := .bool true) p1 hPU
              have P2 := cell_far1 (p := ⟨U, fa', none⟩) (u := .bool true) p2 hPU
              generalize w8.setCell ⟨U, fa', none⟩ (.bool true) = w9 at *
              clear p0 p1 p2 e0 e1 fa fb s0 s1 c0 c1 HG8
              obtain ⟨e0, e1⟩ := HG9.out.vf.cell
              rw [← HN.out] at e0
              have fb := HG9.out.fcell (k := b) (by rw [← HN.out]; exact hbg)
              rw [HFB.out] at fb
              obtain ⟨s0, s1⟩ := HG9.out.ucell hl2 hfb
              have HG10 := Lib.hid (HG9.out.store fb' true)
              go_wp2_with fail
              go_roundw
              all_goals first | exact ⟨k, (k : Int) - 1, by go_num, by omega, by omega, by rw [HS.out]; exact HG10.out⟩ | ((repeat apply Exists.intro); exact ⟨⟨k, (k : Int) - 1, by go_num, by omega, by omega, by rw [HS.out]; exact HG10.out⟩, rfl⟩) | (simp [intOf]; done) | (simp [intOf]; omega) | omega
          · have HS := Lib.hid (nd_letter hkg h0 (ndPre gs (k + 1)))
            rw [← HNX.out] at HS
            have HK := Lib.hid (fun W => kind_letter gs[k] h0 W)
            clear h0 HNX
            generalize ndPre gs (k + 1) = nd at *
            generalize gs[k] = R at *
            obtain ⟨RL, Rl', Rr⟩ := R
            have HGK := Lib.hid hg
            clear hg
            go_wp2_with fail
            refine (HK.out _).mono ?_
            rintro e w7 ⟨rfl, hB7⟩
            have HG8 := Lib.hid (HGK.out.kept (hB7.trans (((Below.refl _ w7).alloc (Nat.le_refl _) (.cells #[.string ⟨#[]⟩, .int .i64 0, .int .i64 0] 171)).mono hB7.size)))
            clear hB7 d0 d1 d2
            go_wp2_with fail
            go_roundw
            all_goals first | exact ⟨k, (k : Int) - 1, by go_num, by omega, by omega, by rw [HS.out]; exact HG8.out⟩ | ((repeat apply Exists.intro); exact ⟨⟨k, (k : Int) - 1, by go_num, by omega, by omega, by rw [HS.out]; exact HG8.out⟩, rfl⟩) | (simp [intOf]; done) | (simp [intOf]; omega) | omega
end Go.Proofs.Ytnhobcfpipedmaa
