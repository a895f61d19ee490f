/-
  Walk: impl.firstEquals, the numbers of the first ones.
-/
import Derived.Test.YtnhobcfpipedmaaTrimR
import Derived.Test.YtnhobcfpipedmaaTrimS
import Derived.Deep.Cut
import Derived.Deep.RegionLaw
namespace Go.Proofs.Ytnhobcfpipedmaa
open Go.RowKit Go.Maps
open Wd
set_option linter.unusedVariables false
namespace Wd
/-- the numbers so far, and zeros behind them -/
def fZ (gs : List Rl) (k : Nat) : List Int := ints (fT gs k) ++ List.replicate (gs.length - k) 0
theorem fZ_len (gs : List Rl) (k : Nat) (h : k ≤ gs.length) : (fZ gs k).length = gs.length := by
  rw [fZ, List.length_append, ints_len, fT_len, List.length_replicate]; omega
theorem fZ_get (gs : List Rl) {j k : Nat} (h : j < k) : (iv (fZ gs k))[j]? = some (.int .i64 (((fT gs k).getD j 0 : Nat) : Int)) := by
  have := ints_at (fT gs k) j (by rw [fT_len]; exact h)
  rw [fZ, iv_app, List.getElem?_append_left (by simp [iv, ints_len, fT_len]; exact h)]
  exact this
theorem fZ_set (gs : List Rl) {k : Nat} (h : k < gs.length) : (fZ gs k).set k (((kT gs k).idxOf (nxT gs k) : Nat) : Int) = fZ gs (k + 1) := by
  have hl : (ints (fT gs k)).length = k := by rw [ints_len, fT_len]
  unfold fZ
  rw [List.set_append_right _ _ (by omega), hl, Nat.sub_self, show gs.length - k = (gs.length - (k + 1)) + 1 from by omega, List.replicate_succ, List.set_cons_zero, fT_succ]
  simp [ints]
theorem fZ_all (gs : List Rl) : fZ gs gs.length = ints (fT gs gs.length) := by simp [fZ]
end Wd
/-- between two rules -/
structure E1 (gs : List Rl) (w : World) (V k : Nat) (wr : World) : Prop where
  row : wr.ownsRow w.heap.size 2 1 (.slice (some ⟨w.heap.size, 0, none⟩) gs.length gs.length) gs.length (iv (fZ gs k))
  vf : Var wr (V) (.slice (some ⟨w.heap.size, 0, none⟩) gs.length gs.length) 26
  map : MapF (kT gs k) (V + 1) k wr
  below : Below w.heap.size w wr
  hv : w.heap.size < V
/-- .. and a rule in a block of its own -/
structure E2 (gs : List Rl) (w : World) (V k X : Nat) (K : List Rl) (m : Nat) (r : Rl) (wr : World) : Prop where
  row : wr.ownsRow w.heap.size 2 1 (.slice (some ⟨w.heap.size, 0, none⟩) gs.length gs.length) gs.length (iv (fZ gs k))
  vf : Var wr (V) (.slice (some ⟨w.heap.size, 0, none⟩) gs.length gs.length) 26
  map : MapF K (V + 1) m wr
  below : Below w.heap.size w wr
  hv : w.heap.size < V
  hx : wr.heap[X]? = some (.cells #[.string r.L, .int .i64 r.l, .int .i64 r.r] 94 (0, 0))
  xw : V + 1 < X
theorem E1.new {gs : List Rl} {w wr : World} {V k : Nat} (h : E1 gs w V k wr) (r : Rl) : E2 gs w V k wr.heap.size (kT gs k) k r (wr.alloc (.cells #[.string r.L, .int .i64 r.l, .int .i64 r.r] 94)) :=
  ⟨h.row.alloc _, h.vf.kept ((Below.refl _ _).alloc (Nat.le_refl _) _), h.map.kept (World.grownBy_alloc _ _ none) (by simp), h.below.alloc h.below.size _, h.hv, heap_alloc_new wr _, h.map.lt⟩
theorem E2.kept {gs : List Rl} {w wr w1 : World} {V k X m : Nat} {K : List Rl} {r : Rl} (h : E2 gs w V k X K m r wr) (hb : Below wr.heap.size wr w1) : E2 gs w V k X K m r w1 :=
  ⟨own_below h.row hb (Nat.le_refl _), h.vf.kept hb, h.map.kept (gbOf hb none) (by simp), h.below.trans (hb.mono h.below.size), h.hv, (hb.block X (Array.getElem?_eq_some_iff.1 h.hx).1).trans h.hx, h.xw⟩
theorem E2.far {gs : List Rl} {w wr : World} {V k X m : Nat} {K : List Rl} {r : Rl} (h : E2 gs w V k X K m r wr) (q : Nat) (v : Value) :
    (wr.setCell ⟨X, q, none⟩ v).ownsRow w.heap.size 2 1 (.slice (some ⟨w.heap.size, 0, none⟩) gs.length gs.length) gs.length (iv (fZ gs k)) := by
  have := h.xw
  have := h.hv
  exact World.ownsRow.kept h.row (only_setCell (World.grownBy.refl wr (some X)) (p := ⟨X, q, none⟩) (.inl rfl) v) (.inr (by simp [Value.ownBlock]; omega))
theorem E2.set {gs : List Rl} {w wr : World} {V k X m : Nat} {K : List Rl} {r : Rl} (h : E2 gs w V k X K m r wr) (r' : Rl) :
    E2 gs w V k X K m r' (((wr.setCell ⟨X, 0, none⟩ (.string r'.L)).setCell ⟨X, 1, none⟩ (.int .i64 r'.l)).setCell ⟨X, 2, none⟩ (.int .i64 r'.r)) := by
  have hx := h.xw
  have hv := h.hv
  have hb := h.below.size
  refine ⟨set3_kept h.row (by simp [Value.ownBlock]; omega), ((h.vf.far _ _ ?_).far _ _ ?_).far _ _ ?_, h.map.kept (only_setCell (only_setCell (only_setCell (World.grownBy.refl wr (some X)) (p := ⟨X, 0, none⟩) (.inl rfl) _) (p := ⟨X, 1, none⟩) (.inl rfl) _) (p := ⟨X, 2, none⟩) (.inl rfl) _) (by intro e; injection e with e; omega),
    ((h.below.setCell (by simp only []; omega) _).setCell (by simp only []; omega) _).setCell (by simp only []; omega) _, hv, blk3 h.hx, hx⟩ <;> (simp only []; omega)
theorem E2.upd {gs : List Rl} {w wr w5 : World} {V k X m : Nat} {K K' : List Rl} {r : Rl} {D : DataW Unit} (h : E2 gs w V k X K m r wr)
    (hm : w5.ownsMap Try.prog 94 (plainElem Try.prog 2) (V + 1) (m + 1) D) (hK : KnowsD K' D) (hg : wr.grownBy w5 (some (V + 1))) : E2 gs w V k X K' (m + 1) r w5 := by
  have hx := h.xw
  have hv := h.hv
  have hl := (Array.getElem?_eq_some_iff.1 h.hx).1
  refine ⟨h.row.kept hg (.inr (by simp [Value.ownBlock]; omega)), (hg.block _ h.vf.lt (by intro e; injection e with e; omega)).trans h.vf, ⟨D, hm, hK⟩, h.below.grown hg h.below.size (fun q hq => by injection hq with hq; omega), hv, (hg.block X hl (by intro e; injection e with e; omega)).trans h.hx, hx⟩
theorem E2.more {gs : List Rl} {w wr : World} {V k X m m' : Nat} {K : List Rl} {r : Rl} (h : E2 gs w V k X K m r wr) (hm : m ≤ m') : E2 gs w V k X K m' r wr := by
  obtain ⟨D, h1, h2⟩ := h.map
  exact { h with map := ⟨D, h1.mono hm, h2⟩ }
theorem E2.met {gs : List Rl} {w wr : World} {V k X m : Nat} {K : List Rl} {r x : Rl} (h : E2 gs w V k X K m r wr) (hx : x ∈ K) : E2 gs w V k X (K ++ [x]) m r wr := by
  obtain ⟨D, h1, h2⟩ := h.map
  exact { h with map := ⟨D, h1, h2.met hx⟩ }
theorem E2.drew {gs : List Rl} {w wr : World} {V k X m : Nat} {K : List Rl} {r : Rl} (h : E2 gs w V k X K m r wr) : E2 gs w V k X K m r wr.drew :=
  h.kept (((Drawn.refl wr).drewN 1).below _)
theorem E2.store {gs : List Rl} {w wr : World} {V k X : Nat} {r : Rl} (h : E2 gs w V k X (kT gs (k + 1)) (k + 1) r wr) (hk : k < gs.length) :
    E1 gs w V (k + 1) (wr.setCell ⟨w.heap.size, k, none⟩ (.int .i64 (((kT gs k).idxOf (nxT gs k) : Nat) : Int))) := by
  have hb := h.below.size
  have hl := h.map.lt
  have hv := h.hv
  refine ⟨?_, h.vf.far _ _ (by simp only []; omega), h.map.kept (only_setCell (World.grownBy.refl wr (some w.heap.size)) (p := ⟨w.heap.size, k, none⟩) (.inl rfl) _) (by intro e; injection e with e; omega), h.below.setCell (by simp) _, hv⟩
  have := (h.row.stored k (.int .i64 (((kT gs k).idxOf (nxT gs k) : Nat) : Int))).1
  have e : (iv (fZ gs k)).set k (.int .i64 (((kT gs k).idxOf (nxT gs k) : Nat) : Int)) = iv (fZ gs (k + 1)) := by rw [← fZ_set gs hk]; simp [iv, List.map_set]
  rwa [e] at this
/-- what the closure answers in such a world -/
theorem E2.fun {gs : List Rl} {w wr : World} {V k X m : Nat} {K : List Rl} {r : Rl} (h : E2 gs w V k X K m r wr) (hl : gs.length ≤ 1000000) (hk : k ≤ gs.length) {n : Int} (h0 : 0 ≤ n) (hn : n < k) :
    ∀ W : World, (∀ q, q < wr.heap.size → W.heap[q]? = wr.heap[q]?) → Calls Try.prog 155 #[.int .i64 n, .pointer (some ⟨V, 0, none⟩)] W fun e w' => e = .returned (.int .i64 (((fT gs k).getD n.toNat 0 : Nat) : Int)) ∧ Drawn W w' := by
  intro W hW
  obtain ⟨j, rfl⟩ : ∃ j : Nat, n = j := ⟨n.toNat, by omega⟩
  have hjk : j < k := by omega
  have c1 := h.vf.cell.1
  have c2 := (World.ownsRow.cellAt h.row j (by omega)).trans (fZ_get gs hjk)
  refine firstE_any j (V) w.heap.size gs.length gs.length _ W (by omega) hl ?_ ?_
  · rw [World.cell?_of_block (a := ⟨V, 0, none⟩) (hW _ (lt_of_cell c1))]; exact c1
  · rw [World.cell?_of_block (a := ⟨w.heap.size, j, none⟩) (hW _ (lt_of_cell c2))]; exact c2
theorem E2.ren {gs : List Rl} {w wr : World} {V k X m : Nat} {K : List Rl} {r : Rl} (h : E2 gs w V k X K m r wr) (hok : fits gs = true) (hl : gs.length ≤ 1000000) (hk : k < gs.length) :
    Calls Try.prog 122 #[.agg #[.string gs[k].L, .int .i64 gs[k].l, .int .i64 gs[k].r], .func (.func 155) #[] #[.pointer (some ⟨V, 0, none⟩)]] wr fun e w' => e = .returned (.agg #[.string (nxT gs k).L, .int .i64 (nxT gs k).l, .int .i64 (nxT gs k).r]) ∧ Below wr.heap.size wr w' := by
  by_cases hz : gs[k].L.size = 0
  · have hb := (ok_pair hz).1 (fits_at hok k hk)
    have := renum_first gs[k] V _ _ wr hz (h.fun hl (by omega) hb.1.1 hb.1.2) (h.fun hl (by omega) hb.2.1 hb.2.2)
    have e : nxT gs k = ⟨⟨#[]⟩, ((fT gs k).getD gs[k].l.toNat 0 : Nat), ((fT gs k).getD gs[k].r.toNat 0 : Nat)⟩ := by rw [nx_at hk]; unfold redR; rw [if_pos hz]
    rw [e]
    exact this
  · have := renum_keep gs[k] (.func (.func 155) #[] #[.pointer (some ⟨V, 0, none⟩)]) wr hz
    rw [nx_letter hk hz]
    exact this
set_option maxRecDepth 100000 in
theorem E2.look {gs : List Rl} {w wr : World} {V k X : Nat} (h : E2 gs w V k X (kT gs (k + 1)) (k + 1) (nxT gs k) wr) (hk : KeyOk (nxT gs k)) :
    (Instr.lookup 184 (.map (some (V + 1))) (.agg #[.string (nxT gs k).L, .int .i64 (nxT gs k).l, .int .i64 (nxT gs k).r]) false).run Try.prog wr = .ok (.int .i64 (((kT gs k).idxOf (nxT gs k) : Nat) : Int)) wr := by
  obtain ⟨D, hD, hK⟩ := h.map
  obtain ⟨c, hrun, hat, _⟩ := hD.lookup_int keyedRule Try.underlying184 Try.underlying2 (zeroI64 _) (keyOf_rule _ hk)
  have h1 := hK.at' _ hk (by rw [kT_succ]; simp) (.lit (.int .i64 0))
  rw [hat] at h1
  injection h1 with h1
  injection h1 with _ h1
  have h2 : (kT gs (k + 1)).idxOf (nxT gs k) = (kT gs k).idxOf (nxT gs k) := by
    rw [kT_succ, List.idxOf_append]
    by_cases hm : nxT gs k ∈ kT gs k
    · rw [if_pos hm]
    · rw [if_neg hm, List.idxOf_eq_length hm]; simp
  rw [hrun, h1, h2]
theorem E2.look2 {gs : List Rl} {w wr : World} {V k X : Nat} {N : Rl} (h : E2 gs w V k X (kT gs (k + 1)) (k + 1) N wr) (hN : N = nxT gs k) (hk : KeyOk N) :
    (Instr.lookup 184 (.map (some (V + 1))) (.agg #[.string N.L, .int .i64 N.l, .int .i64 N.r]) false).run Try.prog wr = .ok (.int .i64 (((kT gs k).idxOf N : Nat) : Int)) wr := by
  subst hN
  exact h.look hk
theorem E2.store2 {gs : List Rl} {w wr : World} {V k X : Nat} {N r : Rl} (h : E2 gs w V k X (kT gs (k + 1)) (k + 1) r wr) (hN : N = nxT gs k) (hk : k < gs.length) :
    E1 gs w V (k + 1) (wr.setCell ⟨w.heap.size, k, none⟩ (.int .i64 (((kT gs k).idxOf N : Nat) : Int))) := by
  subst hN
  exact h.store hk
theorem E2.cellK {gs : List Rl} {w wr : World} {V k X m : Nat} {K : List Rl} {r : Rl} (h : E2 gs w V k X K m r wr) (hk : k < gs.length) : ∃ u, wr.cell? ⟨w.heap.size, k, none⟩ = some u ∧ wr.frozen? ⟨w.heap.size, k, none⟩ = false := by
  obtain ⟨u, h1⟩ : ∃ u, (iv (fZ gs k))[k]? = some u := ⟨_, List.getElem?_eq_getElem (by simp [iv, fZ_len gs k (by omega)]; exact hk)⟩
  have h2 := (World.ownsRow.cellAt h.row k (by omega)).trans h1
  exact ⟨u, h2, World.ownsRow.frozenAt h.row k⟩
/-- what holds between two rules -/
def ERel (gs : List Rl) (w : World) (V : Nat) (i : Value) (wr : World) : Prop := ∃ k : Nat, k ≤ gs.length ∧ i = .int .i64 k ∧ E1 gs w V k wr

set_option maxRecDepth 100000 in
set_option maxHeartbeats 6400000 in
theorem firstEquals_any (v : Value) (gs : List Rl) (w : World) (hl : gs.length ≤ 1000000) (hok : fits gs = true) (hr : Rules w v gs) :
    Calls Try.prog 121 #[v] w fun e w' => ∃ y, e = .returned y ∧ OwnsI w' w.heap.size y (ints (fT gs gs.length)) ∧ Below w.heap.size w w' := by
  obtain ⟨i0, hi, hz0, hz1, hz2⟩ := info_parts Try.info_i64
  have hmm := @run_makeMap Try.prog
  obtain ⟨A, c, rfl, hr⟩ := hr
  have HRH := Lib.hid hr
  have HOK := Lib.hid hok
  clear hr hok
  go_enter Try.func121, Try.ntmps121
  go_wp2_with (refine wpList_make_full _ rfl _ _ 26 rfl w.heap.size 2 i0 (.int .i64 0) 1 Try.underlying26 hi hz0 hz1 .i64 .i64 _ _ gs.length rfl rfl rfl rfl (by rw [hz2]; omega) (by unfold maxLen; omega) (Nat.le_refl _) ?_)
  intro w1 hown hg
  rw [made_i64] at hown
  have hB1 := below_of_grown hg
  have hs1 : w.heap.size < w1.heap.size := (hown.lt _ rfl).2
  have HST : Hid (ERel gs w w1.heap.size (.int .i64 0) ((w1.alloc (.cells #[.slice (some ⟨w.heap.size, 0, none⟩) gs.length gs.length] 26)).alloc (.map #[] 0))) := Lib.hid
    ⟨0, Nat.zero_le _, rfl, (World.ownsRow.alloc (by simpa [fZ, ints, fT, fkT] using hown) _).alloc _, (Var.new w1 _ _).kept ((Below.refl _ _).alloc (Nat.le_refl _) _), ⟨.map [], by
      have := World.ownsMap_made (w1.alloc (.cells #[.slice (some ⟨w.heap.size, 0, none⟩) gs.length gs.length] 26)) Try.prog 94 (plainElem (H := Unit) Try.prog 2)
      rwa [show (w1.alloc (.cells #[.slice (some ⟨w.heap.size, 0, none⟩) gs.length gs.length] 26)).heap.size = w1.heap.size + 1 from by simp] at this, knows_nil⟩, (hB1.alloc hB1.size _).alloc (by simp; omega) _, hs1⟩
  clear hown hg
  obtain ⟨V, hV⟩ : ∃ V, V = w1.heap.size := ⟨_, rfl⟩
  go_wp2_with fail
  rw [← hV] at HST ⊢
  generalize (w1.alloc (.cells #[.slice (some ⟨w.heap.size, 0, none⟩) gs.length gs.length] 26)).alloc (.map #[] 0) = w2 at *
  clear hV hB1 hs1
  go_loopw [15] (fun i wr => ERel gs w V i wr) (fun i _ => gs.length - (intOf i).toNat)
  case atStart => exact HST.out
  case round =>
    obtain ⟨k, hk, rfl, he⟩ := hrel
    obtain ⟨wo, rfl⟩ : ∃ wo : World, wo = wr := ⟨_, rfl⟩
    by_cases hlt : k < gs.length
    · rcases HRH.out with hn | ⟨g, rfl, hg, hc⟩
      · rw [hn] at hlt; simp at hlt
      obtain ⟨a0, a1, a2⟩ := rules_cells hc hlt
      have d0 := (he.below.cell (p := ⟨g, k * 3, none⟩) hg).trans a0
      have d1 := (he.below.cell (p := ⟨g, k * 3 + 1, none⟩) hg).trans a1
      have d2 := (he.below.cell (p := ⟨g, k * 3 + 2, none⟩) hg).trans a2
      have HKO := Lib.hid (nxT_keyOk HOK.out hlt hl)
      have HE2 := Lib.hid (he.new gs[k])
      have HREN := Lib.hid ((he.new gs[k]).ren HOK.out hl hlt)
      obtain ⟨b1, b2, b3⟩ := (blk3_cells (he.new gs[k]).hx).1
      have hX0 := he.map.lt
      obtain ⟨N, hN⟩ : ∃ N, N = nxT gs k := ⟨_, rfl⟩
      rw [← hN] at HKO HREN
      generalize gs[k] = R at *
      have HN := Lib.hid hN
      clear he a0 a1 a2 hc hN
      obtain ⟨X, hX⟩ : ∃ X, X = wo.heap.size := ⟨_, rfl⟩
      rw [← hX] at HE2 b1 b2 b3 hX0
      go_wp2_with fail
      rw [← hX]
      generalize wo.alloc (.cells #[.string R.L, .int .i64 R.l, .int .i64 R.r] 94) = w4 at *
      clear hX d0 d1 d2
      refine HREN.out.mono ?_
      rintro e w5 ⟨rfl, hB5⟩
      have HE5 := Lib.hid (HE2.out.kept hB5)
      have HE6 := Lib.hid ((HE2.out.kept hB5).set N)
      obtain ⟨⟨x0, x1, x2⟩, f0, f1, f2⟩ := blk3_cells HE5.out.hx
      clear hB5 b1 b2 b3
      obtain ⟨⟨y0, y1, y2⟩, _⟩ := blk3_cells HE6.out.hx
      go_upto_region 7 with fail
      generalize ((w5.setCell ⟨X, 0, none⟩ (.string N.L)).setCell ⟨X, 1, none⟩ (.int .i64 N.l)).setCell ⟨X, 2, none⟩ (.int .i64 N.r) = w6 at *
      clear x0 x1 x2 f0 f1 f2 HE5 HE2 HREN
      obtain ⟨D, hD, hK⟩ := HE6.out.map
      have hhas := hK.has N HKO.out
      have HD := Lib.hid hD
      have HK := Lib.hid hK
      clear hD hK
      by_cases hm : N ∈ kT gs k
      · rw [decide_eq_true hm] at hhas
        have HE7 : Hid (E2 gs w V k X (kT gs (k + 1)) (k + 1) N w6) := Lib.hid (by
          have := (HE6.out.met hm).more (Nat.le_succ k)
          rw [kT_succ, ← HN.out]; exact this)
        go_upto_region 10 with (at_lookup; go_loud (refine wpList_lookup_own_ok_int _ rfl _ _ 184 rfl 94 2 .i64 keyedRule Try.underlying184 Try.underlying2 (zeroI64 _) (V + 1) k D rfl HD.out _ _ rfl (keyOf_rule N HKO.out) ?_; intro c hat hwc))
        have hL := HE7.out.drew.look2 HN.out HKO.out
        have HE9 := Lib.hid (HE7.out.drew.store2 HN.out hlt)
        obtain ⟨z0, z1⟩ := HE7.out.vf.cell
        obtain ⟨u0, z2, z3⟩ := HE7.out.cellK hlt
        go_region
        all_goals go_wp2_with fail
        all_goals go_roundw
        all_goals first | exact ⟨k + 1, by omega, by go_num, HE9.out⟩ | ((repeat apply Exists.intro); exact ⟨⟨k + 1, by omega, by go_num, HE9.out⟩, rfl⟩) | (simp [intOf]; done) | (simp [intOf]; omega) | omega
      · rw [decide_eq_false hm] at hhas
        have hwf : (Lit.int .i64 (k : Int)).wf = true := by simp [Lit.wf, IntKind.min, IntKind.max, IntKind.signed, IntKind.bits]; omega
        go_upto_region 10 with (first | (at_lookup; refine wpList_lookup_own_ok_int _ rfl _ _ 184 rfl 94 2 .i64 keyedRule Try.underlying184 Try.underlying2 (zeroI64 _) (V + 1) k D rfl HD.out _ _ rfl (keyOf_rule N HKO.out) ?_; intro c hat hwc) | (at_mapUpdate; refine wpList_mapUpdate_own _ rfl _ _ _ 184 rfl 94 2 keyedRule Try.underlying184 _ (V + 1) k _ rfl HD.out (by unfold maxLen; omega) _ _ _ rfl rfl (keyOf_rule N HKO.out) _ [] (plainElem_int Try.underlying2 hwf) ?_; intro w7 hown7 hgr7))
        have HE7 : Hid (E2 gs w V k X (kT gs (k + 1)) (k + 1) N w7) := Lib.hid (by
          have := HE6.out.upd hown7 (by have := HK.out.new HKO.out hm; rwa [kT_len] at this) hgr7
          rw [kT_succ, ← HN.out]; exact this)
        have hL := HE7.out.drew.look2 HN.out HKO.out
        have HE9 := Lib.hid (HE7.out.drew.store2 HN.out hlt)
        obtain ⟨z0, z1⟩ := HE7.out.vf.cell
        obtain ⟨u0, z2, z3⟩ := HE7.out.cellK hlt
        obtain ⟨⟨q0, q1, q2⟩, _⟩ := blk3_cells HE7.out.hx
        clear y0 y1 y2 hown7 hgr7
        go_region
        all_goals go_wp2_with fail
        all_goals go_roundw
        all_goals first | exact ⟨k + 1, by omega, by go_num, HE9.out⟩ | ((repeat apply Exists.intro); exact ⟨⟨k + 1, by omega, by go_num, HE9.out⟩, rfl⟩) | (simp [intOf]; done) | (simp [intOf]; omega) | omega
    · obtain rfl : k = gs.length := by omega
      have HE := Lib.hid he
      obtain ⟨v0, v1⟩ := he.vf.cell
      clear he
      go_wp2_with fail
      go_ret
      refine ⟨_, rfl, ?_, HE.out.below⟩
      have := HE.out.row
      rw [fZ_all] at this
      unfold OwnsI
      rw [ints_len, fT_len]
      exact this
end Go.Proofs.Ytnhobcfpipedmaa
