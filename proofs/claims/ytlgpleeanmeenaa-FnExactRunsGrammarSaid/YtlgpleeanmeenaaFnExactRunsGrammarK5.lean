/-
  TrimE, TrimI, JpF, in one text.
-/
import Derived.Test.YtlgpleeanmeenaaFnExactRunsGrammarK4
import Derived.Deep.Cut
import Derived.Deep.RegionLaw
import Derived.Test.YtlgpleeanmeenaaFnExactRunsGrammarK2
import Derived.Test.YtlgpleeanmeenaaFnExactRunsGrammarK3
namespace Go.Proofs.Ytlgpleeanmeenaa
open Go.RowKit Go.Maps
open Wd
set_option linter.unusedVariables false
namespace Wd
/-- the numbers so far, and zeros behind them -/
def fZ (gs : List Rl) (k : Nat) : List Int := ints (fT gs k) ++ List.replicate (gs.length - k) 0
theorem fZ_len (gs : List Rl) (k : Nat) (h : k ≤ gs.length) : (fZ gs k).length = gs.length := by
  rw [fZ, List.length_append, ints_len, fT_len, List.length_replicate]; omega
theorem fZ_get (gs : List Rl) {j k : Nat} (h : j < k) : (iv (fZ gs k))[j]? = some (.int .i64 (((fT gs k).getD j 0 : Nat) : Int)) := by
  have := ints_at (fT gs k) j (by rw [fT_len]; exact h)
  rw [fZ, iv_app, List.getElem?_append_left (by simp [iv, ints_len, fT_len]; exact h)]
  exact this
theorem fZ_set (gs : List Rl) {k : Nat} (h : k < gs.length) : (fZ gs k).set k (((kT gs k).idxOf (nxT gs k) : Nat) : Int) = fZ gs (k + 1) := by
  have hl : (ints (fT gs k)).length = k := by rw [ints_len, fT_len]
  unfold fZ
  rw [List.set_append_right _ _ (by omega), hl, Nat.sub_self, show gs.length - k = (gs.length - (k + 1)) + 1 from by omega, List.replicate_succ, List.set_cons_zero, fT_succ]
  simp [ints]
theorem fZ_all (gs : List Rl) : fZ gs gs.length = ints (fT gs gs.length) := by simp [fZ]
end Wd
/-- between two rules -/
structure E1 (gs : List Rl) (w : World) (V k : Nat) (wr : World) : Prop where
  row : wr.ownsRow w.heap.size 2 1 (.slice (some ⟨w.heap.size, 0, none⟩) gs.length gs.length) gs.length (iv (fZ gs k))
  vf : Var wr (V) (.slice (some ⟨w.heap.size, 0, none⟩) gs.length gs.length) 82
  map : MapF (kT gs k) (V + 1) k wr
  below : Below w.heap.size w wr
  hv : w.heap.size < V
/-- .. and a rule in a block of its own -/
structure E2 (gs : List Rl) (w : World) (V k X : Nat) (K : List Rl) (m : Nat) (r : Rl) (wr : World) : Prop where
  row : wr.ownsRow w.heap.size 2 1 (.slice (some ⟨w.heap.size, 0, none⟩) gs.length gs.length) gs.length (iv (fZ gs k))
  vf : Var wr (V) (.slice (some ⟨w.heap.size, 0, none⟩) gs.length gs.length) 82
  map : MapF K (V + 1) m wr
  below : Below w.heap.size w wr
  hv : w.heap.size < V
  hx : wr.heap[X]? = some (.cells #[.string r.L, .int .i64 r.l, .int .i64 r.r] 146 (0, 0))
  xw : V + 1 < X
theorem E1.new {gs : List Rl} {w wr : World} {V k : Nat} (h : E1 gs w V k wr) (r : Rl) : E2 gs w V k wr.heap.size (kT gs k) k r (wr.alloc (.cells #[.string r.L, .int .i64 r.l, .int .i64 r.r] 146)) :=
  ⟨h.row.alloc _, h.vf.kept ((Below.refl _ _).alloc (Nat.le_refl _) _), h.map.kept (World.grownBy_alloc _ _ none) (by simp), h.below.alloc h.below.size _, h.hv, heap_alloc_new wr _, h.map.lt⟩
theorem E2.kept {gs : List Rl} {w wr w1 : World} {V k X m : Nat} {K : List Rl} {r : Rl} (h : E2 gs w V k X K m r wr) (hb : Below wr.heap.size wr w1) : E2 gs w V k X K m r w1 :=
  ⟨own_below h.row hb (Nat.le_refl _), h.vf.kept hb, h.map.kept (gbOf hb none) (by simp), h.below.trans (hb.mono h.below.size), h.hv, (hb.block X (Array.getElem?_eq_some_iff.1 h.hx).1).trans h.hx, h.xw⟩
theorem E2.far {gs : List Rl} {w wr : World} {V k X m : Nat} {K : List Rl} {r : Rl} (h : E2 gs w V k X K m r wr) (q : Nat) (v : Value) :
    (wr.setCell ⟨X, q, none⟩ v).ownsRow w.heap.size 2 1 (.slice (some ⟨w.heap.size, 0, none⟩) gs.length gs.length) gs.length (iv (fZ gs k)) := by
  have := h.xw
  have := h.hv
  exact World.ownsRow.kept h.row (only_setCell (World.grownBy.refl wr (some X)) (p := ⟨X, q, none⟩) (.inl rfl) v) (.inr (by simp [Value.ownBlock]; omega))
theorem E2.set {gs : List Rl} {w wr : World} {V k X m : Nat} {K : List Rl} {r : Rl} (h : E2 gs w V k X K m r wr) (r' : Rl) :
    E2 gs w V k X K m r' (((wr.setCell ⟨X, 0, none⟩ (.string r'.L)).setCell ⟨X, 1, none⟩ (.int .i64 r'.l)).setCell ⟨X, 2, none⟩ (.int .i64 r'.r)) := by
  have hx := h.xw
  have hv := h.hv
  have hb := h.below.size
  refine ⟨set3_kept h.row (by simp [Value.ownBlock]; omega), ((h.vf.far _ _ ?_).far _ _ ?_).far _ _ ?_, h.map.kept (only_setCell (only_setCell (only_setCell (World.grownBy.refl wr (some X)) (p := ⟨X, 0, none⟩) (.inl rfl) _) (p := ⟨X, 1, none⟩) (.inl rfl) _) (p := ⟨X, 2, none⟩) (.inl rfl) _) (by intro e; injection e with e; omega),
    ((h.below.setCell (by simp only []; omega) _).setCell (by simp only []; omega) _).setCell (by simp only []; omega) _, hv, blk3 h.hx, hx⟩ <;> (simp only []; omega)
theorem E2.upd {gs : List Rl} {w wr w5 : World} {V k X m : Nat} {K K' : List Rl} {r : Rl} {D : DataW Unit} (h : E2 gs w V k X K m r wr)
    (hm : w5.ownsMap Try.prog 146 (plainElem Try.prog 2) (V + 1) (m + 1) D) (hK : KnowsD K' D) (hg : wr.grownBy w5 (some (V + 1))) : E2 gs w V k X K' (m + 1) r w5 := by
  have hx := h.xw
  have hv := h.hv
  have hl := (Array.getElem?_eq_some_iff.1 h.hx).1
  refine ⟨h.row.kept hg (.inr (by simp [Value.ownBlock]; omega)), (hg.block _ h.vf.lt (by intro e; injection e with e; omega)).trans h.vf, ⟨D, hm, hK⟩, h.below.grown hg h.below.size (fun q hq => by injection hq with hq; omega), hv, (hg.block X hl (by intro e; injection e with e; omega)).trans h.hx, hx⟩
theorem E2.more {gs : List Rl} {w wr : World} {V k X m m' : Nat} {K : List Rl} {r : Rl} (h : E2 gs w V k X K m r wr) (hm : m ≤ m') : E2 gs w V k X K m' r wr := by
  obtain ⟨D, h1, h2⟩ := h.map
  exact { h with map := ⟨D, h1.mono hm, h2⟩ }
theorem E2.met {gs : List Rl} {w wr : World} {V k X m : Nat} {K : List Rl} {r x : Rl} (h : E2 gs w V k X K m r wr) (hx : x ∈ K) : E2 gs w V k X (K ++ [x]) m r wr := by
  obtain ⟨D, h1, h2⟩ := h.map
  exact { h with map := ⟨D, h1, h2.met hx⟩ }
theorem E2.drew {gs : List Rl} {w wr : World} {V k X m : Nat} {K : List Rl} {r : Rl} (h : E2 gs w V k X K m r wr) : E2 gs w V k X K m r wr.drew :=
  h.kept (((Drawn.refl wr).drewN 1).below _)
theorem E2.store {gs : List Rl} {w wr : World} {V k X : Nat} {r : Rl} (h : E2 gs w V k X (kT gs (k + 1)) (k + 1) r wr) (hk : k < gs.length) :
    E1 gs w V (k + 1) (wr.setCell ⟨w.heap.size, k, none⟩ (.int .i64 (((kT gs k).idxOf (nxT gs k) : Nat) : Int))) := by
  have hb := h.below.size
  have hl := h.map.lt
  have hv := h.hv
  refine ⟨?_, h.vf.far _ _ (by simp only []; omega), h.map.kept (only_setCell (World.grownBy.refl wr (some w.heap.size)) (p := ⟨w.heap.size, k, none⟩) (.inl rfl) _) (by intro e; injection e with e; omega), h.below.setCell (by simp) _, hv⟩
  have := (h.row.stored k (.int .i64 (((kT gs k).idxOf (nxT gs k) : Nat) : Int))).1
  have e : (iv (fZ gs k)).set k (.int .i64 (((kT gs k).idxOf (nxT gs k) : Nat) : Int)) = iv (fZ gs (k + 1)) := by rw [← fZ_set gs hk]; simp [iv, List.map_set]
  rwa [e] at this
/-- what the closure answers in such a world -/
theorem E2.fun {gs : List Rl} {w wr : World} {V k X m : Nat} {K : List Rl} {r : Rl} (h : E2 gs w V k X K m r wr) (hl : gs.length ≤ 1000000) (hk : k ≤ gs.length) {n : Int} (h0 : 0 ≤ n) (hn : n < k) :
    ∀ W : World, (∀ q, q < wr.heap.size → W.heap[q]? = wr.heap[q]?) → Calls Try.prog 197 #[.int .i64 n, .pointer (some ⟨V, 0, none⟩)] W fun e w' => e = .returned (.int .i64 (((fT gs k).getD n.toNat 0 : Nat) : Int)) ∧ Drawn W w' := by
  intro W hW
  obtain ⟨j, rfl⟩ : ∃ j : Nat, n = j := ⟨n.toNat, by omega⟩
  have hjk : j < k := by omega
  have c1 := h.vf.cell.1
  have c2 := (World.ownsRow.cellAt h.row j (by omega)).trans (fZ_get gs hjk)
  refine firstE_any j (V) w.heap.size gs.length gs.length _ W (by omega) hl ?_ ?_
  · rw [World.cell?_of_block (a := ⟨V, 0, none⟩) (hW _ (lt_of_cell c1))]; exact c1
  · rw [World.cell?_of_block (a := ⟨w.heap.size, j, none⟩) (hW _ (lt_of_cell c2))]; exact c2
theorem E2.ren {gs : List Rl} {w wr : World} {V k X m : Nat} {K : List Rl} {r : Rl} (h : E2 gs w V k X K m r wr) (hok : fits gs = true) (hl : gs.length ≤ 1000000) (hk : k < gs.length) :
    Calls Try.prog 174 #[.agg #[.string gs[k].L, .int .i64 gs[k].l, .int .i64 gs[k].r], .func (.func 197) #[] #[.pointer (some ⟨V, 0, none⟩)]] wr fun e w' => e = .returned (.agg #[.string (nxT gs k).L, .int .i64 (nxT gs k).l, .int .i64 (nxT gs k).r]) ∧ Below wr.heap.size wr w' := by
  by_cases hz : gs[k].L.size = 0
  · have hb := (ok_pair hz).1 (fits_at hok k hk)
    have := renum_first gs[k] V _ _ wr hz (h.fun hl (by omega) hb.1.1 hb.1.2) (h.fun hl (by omega) hb.2.1 hb.2.2)
    have e : nxT gs k = ⟨⟨#[]⟩, ((fT gs k).getD gs[k].l.toNat 0 : Nat), ((fT gs k).getD gs[k].r.toNat 0 : Nat)⟩ := by rw [nx_at hk]; unfold redR; rw [if_pos hz]
    rw [e]
    exact this
  · have := renum_keep gs[k] (.func (.func 197) #[] #[.pointer (some ⟨V, 0, none⟩)]) wr hz
    rw [nx_letter hk hz]
    exact this
set_option maxRecDepth 100000 in
theorem E2.look {gs : List Rl} {w wr : World} {V k X : Nat} (h : E2 gs w V k X (kT gs (k + 1)) (k + 1) (nxT gs k) wr) (hk : KeyOk (nxT gs k)) :
    (Instr.lookup 249 (.map (some (V + 1))) (.agg #[.string (nxT gs k).L, .int .i64 (nxT gs k).l, .int .i64 (nxT gs k).r]) false).run Try.prog wr = .ok (.int .i64 (((kT gs k).idxOf (nxT gs k) : Nat) : Int)) wr := by
  obtain ⟨D, hD, hK⟩ := h.map
  obtain ⟨c, hrun, hat, _⟩ := hD.lookup_int keyedRule Try.underlying249 Try.underlying2 (zeroI64 _) (keyOf_rule _ hk)
  have h1 := hK.at' _ hk (by rw [kT_succ]; simp) (.lit (.int .i64 0))
  rw [hat] at h1
  injection h1 with h1
  injection h1 with _ h1
  have h2 : (kT gs (k + 1)).idxOf (nxT gs k) = (kT gs k).idxOf (nxT gs k) := by
    rw [kT_succ, List.idxOf_append]
    by_cases hm : nxT gs k ∈ kT gs k
    · rw [if_pos hm]
    · rw [if_neg hm, List.idxOf_eq_length hm]; simp
  rw [hrun, h1, h2]
theorem E2.look2 {gs : List Rl} {w wr : World} {V k X : Nat} {N : Rl} (h : E2 gs w V k X (kT gs (k + 1)) (k + 1) N wr) (hN : N = nxT gs k) (hk : KeyOk N) :
    (Instr.lookup 249 (.map (some (V + 1))) (.agg #[.string N.L, .int .i64 N.l, .int .i64 N.r]) false).run Try.prog wr = .ok (.int .i64 (((kT gs k).idxOf N : Nat) : Int)) wr := by
  subst hN
  exact h.look hk
theorem E2.store2 {gs : List Rl} {w wr : World} {V k X : Nat} {N r : Rl} (h : E2 gs w V k X (kT gs (k + 1)) (k + 1) r wr) (hN : N = nxT gs k) (hk : k < gs.length) :
    E1 gs w V (k + 1) (wr.setCell ⟨w.heap.size, k, none⟩ (.int .i64 (((kT gs k).idxOf N : Nat) : Int))) := by
  subst hN
  exact h.store hk
theorem E2.cellK {gs : List Rl} {w wr : World} {V k X m : Nat} {K : List Rl} {r : Rl} (h : E2 gs w V k X K m r wr) (hk : k < gs.length) : ∃ u, wr.cell? ⟨w.heap.size, k, none⟩ = some u ∧ wr.frozen? ⟨w.heap.size, k, none⟩ = false := by
  obtain ⟨u, h1⟩ : ∃ u, (iv (fZ gs k))[k]? = some u := ⟨_, List.getElem?_eq_getElem (by simp [iv, fZ_len gs k (by omega)]; exact hk)⟩
  have h2 := (World.ownsRow.cellAt h.row k (by omega)).trans h1
  exact ⟨u, h2, World.ownsRow.frozenAt h.row k⟩
/-- what holds between two rules -/
def ERel (gs : List Rl) (w : World) (V : Nat) (i : Value) (wr : World) : Prop := ∃ k : Nat, k ≤ gs.length ∧ i = .int .i64 k ∧ E1 gs w V k wr

set_option maxRecDepth 100000 in
set_option maxHeartbeats 6400000 in
theorem firstEquals_any (v : Value) (gs : List Rl) (w : World) (hl : gs.length ≤ 1000000) (hok : fits gs = true) (hr : Rules w v gs) :
    Calls Try.prog 173 #[v] w fun e w' => ∃ y, e = .returned y ∧ OwnsI w' w.heap.size y (ints (fT gs gs.length)) ∧ Below w.heap.size w w' := by
  obtain ⟨i0, hi, hz0, hz1, hz2⟩ := info_parts Try.info_i64
  have hmm := @run_makeMap Try.prog
  obtain ⟨A, c, rfl, hr⟩ := hr
  have HRH := Lib.hid hr
  have HOK := Lib.hid hok
  clear hr hok
  go_enter Try.func173, Try.ntmps173
  go_wp2_with (refine wpList_make_full _ rfl _ _ 82 rfl w.heap.size 2 i0 (.int .i64 0) 1 Try.underlying82 hi hz0 hz1 .i64 .i64 _ _ gs.length rfl rfl rfl rfl (by rw [hz2]; omega) (by unfold maxLen; omega) (Nat.le_refl _) ?_)
  intro w1 hown hg
  rw [made_i64] at hown
  have hB1 := below_of_grown hg
  have hs1 : w.heap.size < w1.heap.size := (hown.lt _ rfl).2
  have HST : Hid (ERel gs w w1.heap.size (.int .i64 0) ((w1.alloc (.cells #[.slice (some ⟨w.heap.size, 0, none⟩) gs.length gs.length] 82)).alloc (.map #[] 0))) := Lib.hid
    ⟨0, Nat.zero_le _, rfl, (World.ownsRow.alloc (by simpa [fZ, ints, fT, fkT] using hown) _).alloc _, (Var.new w1 _ _).kept ((Below.refl _ _).alloc (Nat.le_refl _) _), ⟨.map [], by
      have := World.ownsMap_made (w1.alloc (.cells #[.slice (some ⟨w.heap.size, 0, none⟩) gs.length gs.length] 82)) Try.prog 146 (plainElem (H := Unit) Try.prog 2)
      rwa [show (w1.alloc (.cells #[.slice (some ⟨w.heap.size, 0, none⟩) gs.length gs.length] 82)).heap.size = w1.heap.size + 1 from by simp] at this, knows_nil⟩, (hB1.alloc hB1.size _).alloc (by simp; omega) _, hs1⟩
  clear hown hg
  obtain ⟨V, hV⟩ : ∃ V, V = w1.heap.size := ⟨_, rfl⟩
  go_wp2_with fail
  rw [← hV] at HST ⊢
  generalize (w1.alloc (.cells #[.slice (some ⟨w.heap.size, 0, none⟩) gs.length gs.length] 82)).alloc (.map #[] 0) = w2 at *
  clear hV hB1 hs1
  go_loopw [15] (fun i wr => ERel gs w V i wr) (fun i _ => gs.length - (intOf i).toNat)
  case atStart => exact HST.out
  case round =>
    obtain ⟨k, hk, rfl, he⟩ := hrel
    obtain ⟨wo, rfl⟩ : ∃ wo : World, wo = wr := ⟨_, rfl⟩
    by_cases hlt : k < gs.length
    · rcases HRH.out with hn | ⟨g, rfl, hg, hc⟩
      · rw [hn] at hlt; simp at hlt
      obtain ⟨a0, a1, a2⟩ := rules_cells hc hlt
      have d0 := (he.below.cell (p := ⟨g, k * 3, none⟩) hg).trans a0
      have d1 := (he.below.cell (p := ⟨g, k * 3 + 1, none⟩) hg).trans a1
      have d2 := (he.below.cell (p := ⟨g, k * 3 + 2, none⟩) hg).trans a2
      have HKO := Lib.hid (nxT_keyOk HOK.out hlt hl)
      have HE2 := Lib.hid (he.new gs[k])
      have HREN := Lib.hid ((he.new gs[k]).ren HOK.out hl hlt)
      obtain ⟨b1, b2, b3⟩ := (blk3_cells (he.new gs[k]).hx).1
      have hX0 := he.map.lt
      obtain ⟨N, hN⟩ : ∃ N, N = nxT gs k := ⟨_, rfl⟩
      rw [← hN] at HKO HREN
      generalize gs[k] = R at *
      have HN := Lib.hid hN
      clear he a0 a1 a2 hc hN
      obtain ⟨X, hX⟩ : ∃ X, X = wo.heap.size := ⟨_, rfl⟩
      rw [← hX] at HE2 b1 b2 b3 hX0
      go_wp2_with fail
      rw [← hX]
      generalize wo.alloc (.cells #[.string R.L, .int .i64 R.l, .int .i64 R.r] 146) = w4 at *
      clear hX d0 d1 d2
      refine HREN.out.mono ?_
      rintro e w5 ⟨rfl, hB5⟩
      have HE5 := Lib.hid (HE2.out.kept hB5)
      have HE6 := Lib.hid ((HE2.out.kept hB5).set N)
      obtain ⟨⟨x0, x1, x2⟩, f0, f1, f2⟩ := blk3_cells HE5.out.hx
      clear hB5 b1 b2 b3
      obtain ⟨⟨y0, y1, y2⟩, _⟩ := blk3_cells HE6.out.hx
      go_upto_region 7 with fail
      generalize ((w5.setCell ⟨X, 0, none⟩ (.string N.L)).setCell ⟨X, 1, none⟩ (.int .i64 N.l)).setCell ⟨X, 2, none⟩ (.int .i64 N.r) = w6 at *
      clear x0 x1 x2 f0 f1 f2 HE5 HE2 HREN
      obtain ⟨D, hD, hK⟩ := HE6.out.map
      have hhas := hK.has N HKO.out
      have HD := Lib.hid hD
      have HK := Lib.hid hK
      clear hD hK
      by_cases hm : N ∈ kT gs k
      · rw [decide_eq_true hm] at hhas
        have HE7 : Hid (E2 gs w V k X (kT gs (k + 1)) (k + 1) N w6) := Lib.hid (by
          have := (HE6.out.met hm).more (Nat.le_succ k)
          rw [kT_succ, ← HN.out]; exact this)
        go_upto_region 10 with (at_lookup; go_loud (refine wpList_lookup_own_ok_int _ rfl _ _ 249 rfl 146 2 .i64 keyedRule Try.underlying249 Try.underlying2 (zeroI64 _) (V + 1) k D rfl HD.out _ _ rfl (keyOf_rule N HKO.out) ?_; intro c hat hwc))
        have hL := HE7.out.drew.look2 HN.out HKO.out
        have HE9 := Lib.hid (HE7.out.drew.store2 HN.out hlt)
        obtain ⟨z0, z1⟩ := HE7.out.vf.cell
        obtain ⟨u0, z2, z3⟩ := HE7.out.cellK hlt
        go_region
        all_goals go_wp2_with fail
        all_goals go_roundw
        all_goals first | exact ⟨k + 1, by omega, by go_num, HE9.out⟩ | ((repeat apply Exists.intro); exact ⟨⟨k + 1, by omega, by go_num, HE9.out⟩, rfl⟩) | (simp [intOf]; done) | (simp [intOf]; omega) | omega
      · rw [decide_eq_false hm] at hhas
        have hwf : (Lit.int .i64 (k : Int)).wf = true := by simp [Lit.wf, IntKind.min, IntKind.max, IntKind.signed, IntKind.bits]; omega
        go_upto_region 10 with (first | (at_lookup; refine wpList_lookup_own_ok_int _ rfl _ _ 249 rfl 146 2 .i64 keyedRule Try.underlying249 Try.underlying2 (zeroI64 _) (V + 1) k D rfl HD.out _ _ rfl (keyOf_rule N HKO.out) ?_; intro c hat hwc) | (at_mapUpdate; refine wpList_mapUpdate_own _ rfl _ _ _ 249 rfl 146 2 keyedRule Try.underlying249 _ (V + 1) k _ rfl HD.out (by unfold maxLen; omega) _ _ _ rfl rfl (keyOf_rule N HKO.out) _ [] (plainElem_int Try.underlying2 hwf) ?_; intro w7 hown7 hgr7))
        have HE7 : Hid (E2 gs w V k X (kT gs (k + 1)) (k + 1) N w7) := Lib.hid (by
          have := HE6.out.upd hown7 (by have := HK.out.new HKO.out hm; rwa [kT_len] at this) hgr7
          rw [kT_succ, ← HN.out]; exact this)
        have hL := HE7.out.drew.look2 HN.out HKO.out
        have HE9 := Lib.hid (HE7.out.drew.store2 HN.out hlt)
        obtain ⟨z0, z1⟩ := HE7.out.vf.cell
        obtain ⟨u0, z2, z3⟩ := HE7.out.cellK hlt
        obtain ⟨⟨q0, q1, q2⟩, _⟩ := blk3_cells HE7.out.hx
        clear y0 y1 y2 hown7 hgr7
        go_region
        all_goals go_wp2_with fail
        all_goals go_roundw
        all_goals first | exact ⟨k + 1, by omega, by go_num, HE9.out⟩ | ((repeat apply Exists.intro); exact ⟨⟨k + 1, by omega, by go_num, HE9.out⟩, rfl⟩) | (simp [intOf]; done) | (simp [intOf]; omega) | omega
    · obtain rfl : k = gs.length := by omega
      have HE := Lib.hid he
      obtain ⟨v0, v1⟩ := he.vf.cell
      clear he
      go_wp2_with fail
      go_ret
      refine ⟨_, rfl, ?_, HE.out.below⟩
      have := HE.out.row
      rw [fZ_all] at this
      unfold OwnsI
      rw [ints_len, fT_len]
      exact this
end Go.Proofs.Ytlgpleeanmeenaa
namespace Go.Proofs.Ytlgpleeanmeenaa
open Go.RowKit Go.Maps
open Wd
set_option linter.unusedVariables false
/-- what is needed, so far -/
structure G1 (gs : List Rl) (w : World) (FB cF Vf U : Nat) (nd : List Bool) (wr : World) : Prop where
  frow : wr.ownsRow w.heap.size 2 1 (.slice (some ⟨FB, 0, none⟩) gs.length cF) gs.length (iv (ints (fT gs gs.length)))
  vf : Var wr Vf (.slice (some ⟨FB, 0, none⟩) gs.length cF) 82
  urow : wr.ownsRow w.heap.size 4 1 (.slice (some ⟨U, 0, none⟩) gs.length gs.length) gs.length (tv nd)
  below : Below w.heap.size w wr
theorem G1.kept {gs : List Rl} {w wr w1 : World} {FB cF Vf U : Nat} {nd : List Bool} (h : G1 gs w FB cF Vf U nd wr) (hb : Below wr.heap.size wr w1) : G1 gs w FB cF Vf U nd w1 :=
  ⟨own_below h.frow hb (Nat.le_refl _), h.vf.kept hb, own_below h.urow hb (Nat.le_refl _), h.below.trans (hb.mono h.below.size)⟩
theorem G1.drew {gs : List Rl} {w wr : World} {FB cF Vf U : Nat} {nd : List Bool} (h : G1 gs w FB cF Vf U nd wr) : G1 gs w FB cF Vf U nd wr.drew :=
  h.kept (((Drawn.refl wr).drewN 1).below _)
theorem G1.fu {gs : List Rl} {w wr : World} {FB cF Vf U : Nat} {nd : List Bool} (h : G1 gs w FB cF Vf U nd wr) : FB ≠ U := by
  rcases own_kinds_ne h.frow h.urow (by decide) with e | e
  · simp [Value.ownBlock] at e
  · intro hh; exact e (by simp [Value.ownBlock, hh])
theorem G1.store {gs : List Rl} {w wr : World} {FB cF Vf U : Nat} {nd : List Bool} (h : G1 gs w FB cF Vf U nd wr) (k : Nat) (b : Bool) : G1 gs w FB cF Vf U (nd.set k b) (wr.setCell ⟨U, k, none⟩ (.bool b)) := by
  have h1 := h.fu
  have h2 := own_var_ne h.urow h.vf (by decide)
  refine ⟨World.ownsRow.kept h.frow (only_setCell (World.grownBy.refl wr (some U)) (p := ⟨U, k, none⟩) (.inl rfl) _) (.inr (by simpa [Value.ownBlock] using h1)), h.vf.far _ _ (fun e => h2 (by rw [e]; rfl)), b_store h.urow k b, h.below.setCell (p := ⟨U, k, none⟩) (h.urow.lt U rfl).1 _⟩
theorem G1.fcell {gs : List Rl} {w wr : World} {FB cF Vf U : Nat} {nd : List Bool} (h : G1 gs w FB cF Vf U nd wr) {k : Nat} (hk : k < gs.length) : wr.cell? ⟨FB, k, none⟩ = some (.int .i64 ((F1 gs (k : Int) : Nat) : Int)) := by
  have h1 := (World.ownsRow.cellAt h.frow k (by omega)).trans (ints_at (fT gs gs.length) k (by rw [fT_len]; exact hk))
  unfold F1
  rw [Int.toNat_natCast]
  exact h1
theorem G1.ucell {gs : List Rl} {w wr : World} {FB cF Vf U : Nat} {nd : List Bool} (h : G1 gs w FB cF Vf U nd wr) (hl : nd.length = gs.length) {k : Nat} (hk : k < gs.length) :
    wr.cell? ⟨U, k, none⟩ = some (.bool (nd.getD k false)) ∧ wr.frozen? ⟨U, k, none⟩ = false :=
  ⟨(World.ownsRow.cellAt h.urow k (by omega)).trans (tv_at nd k (by omega)), World.ownsRow.frozenAt h.urow k⟩
namespace Wd
/-- the needed ones when m rules have not been looked at yet -/
def ndPre (gs : List Rl) (m : Nat) : List Bool := ndT (kT gs gs.length) ((List.replicate gs.length false).set ((fT gs gs.length).getD (gs.length - 1) 0) true) gs.length (gs.length - m)
theorem ndPre_len (gs : List Rl) (m : Nat) : (ndPre gs m).length = gs.length := by unfold ndPre; rw [ndT_len]; simp
theorem ndPre_zero (gs : List Rl) : ndPre gs 0 = ndAll gs := rfl
theorem ndPre_top (gs : List Rl) : ndPre gs gs.length = (List.replicate gs.length false).set ((fT gs gs.length).getD (gs.length - 1) 0) true := by
  unfold ndPre; rw [Nat.sub_self]; rfl
theorem ndPre_next (gs : List Rl) {k : Nat} (hk : k < gs.length) : ndPre gs k = ndStep (kT gs gs.length) (ndPre gs (k + 1)) k := by
  unfold ndPre
  obtain ⟨t, ht⟩ : ∃ t, gs.length - (k + 1) = t := ⟨_, rfl⟩
  rw [show gs.length - k = t + 1 from by omega, ht, ndT, show gs.length - 1 - t = k from by omega]
end Wd
/-- what is left, so far -/
structure G3 (gs : List Rl) (w : World) (FB cF Vf U Q Vp : Nat) (nu : List Nat) (ou : List Rl) (yv : Value) (wr : World) : Prop where
  g1 : G1 gs w FB cF Vf U (ndAll gs) wr
  prow : wr.ownsRow w.heap.size 2 1 (.slice (some ⟨Q, 0, none⟩) gs.length gs.length) gs.length (iv (ints nu))
  vp : Var wr Vp (.slice (some ⟨Q, 0, none⟩) gs.length gs.length) 82
  lrow : wr.ownsRow w.heap.size 146 3 yv ou.length (rv ou)
  fq : FB ≠ Q
theorem G3.kept {gs : List Rl} {w wr w1 : World} {FB cF Vf U Q Vp : Nat} {nu : List Nat} {ou : List Rl} {yv : Value} (h : G3 gs w FB cF Vf U Q Vp nu ou yv wr) (hb : Below wr.heap.size wr w1) : G3 gs w FB cF Vf U Q Vp nu ou yv w1 :=
  ⟨h.g1.kept hb, own_below h.prow hb (Nat.le_refl _), h.vp.kept hb, own_below h.lrow hb (Nat.le_refl _), h.fq⟩
theorem G3.drew {gs : List Rl} {w wr : World} {FB cF Vf U Q Vp : Nat} {nu : List Nat} {ou : List Rl} {yv : Value} (h : G3 gs w FB cF Vf U Q Vp nu ou yv wr) : G3 gs w FB cF Vf U Q Vp nu ou yv wr.drew :=
  h.kept (((Drawn.refl wr).drewN 1).below _)
theorem var_grown {w w5 : World} {o : Obj} {b : Nat} {v : Value} {t : TypeId} {row : Option Nat} (h : Var w b v t) (hg : (w.alloc o).grownBy w5 row) (hne : some b ≠ row) : Var w5 b v t :=
  (hg.block b (by have := h.lt; simp; omega) hne).trans (h.kept ((Below.refl _ w).alloc (Nat.le_refl _) o))
theorem G3.app {gs : List Rl} {w wr w5 : World} {FB cF Vf U Q Vp : Nat} {nu : List Nat} {ou : List Rl} {yv y' : Value} {x : Rl} {o : Obj} (h : G3 gs w FB cF Vf U Q Vp nu ou yv wr)
    (hown : w5.ownsRow w.heap.size 146 3 y' (ou.length + 1) (rv ou ++ rc x)) (hg : (wr.alloc o).grownBy w5 yv.ownBlock) : G3 gs w FB cF Vf U Q Vp nu (ou ++ [x]) y' w5 := by
  have hbs := h.g1.below.size
  refine ⟨⟨own_other h.g1.frow h.lrow (by decide) hg, var_grown h.g1.vf hg (fun e => own_var_ne h.lrow h.g1.vf (by decide) e.symm), own_other h.g1.urow h.lrow (by decide) hg, (h.g1.below.alloc hbs o).grown hg (by simp; omega) (fun q hq => (h.lrow.lt q hq).1)⟩,
    own_other h.prow h.lrow (by decide) hg, var_grown h.vp hg (fun e => own_var_ne h.lrow h.vp (by decide) e.symm), ?_, h.fq⟩
  rw [List.length_append, rv_app, rv_one]
  exact hown
theorem G3.store {gs : List Rl} {w wr : World} {FB cF Vf U Q Vp : Nat} {nu : List Nat} {ou : List Rl} {yv : Value} (h : G3 gs w FB cF Vf U Q Vp nu ou yv wr) (k z : Nat) :
    G3 gs w FB cF Vf U Q Vp (nu.set k z) ou yv (wr.setCell ⟨Q, k, none⟩ (.int .i64 (z : Int))) := by
  have hg : wr.grownBy (wr.setCell ⟨Q, k, none⟩ (.int .i64 (z : Int))) (some Q) := only_setCell (World.grownBy.refl wr (some Q)) (p := ⟨Q, k, none⟩) (.inl rfl) _
  have k1 := own_kinds_ne h.g1.urow h.prow (by decide)
  have k2 := own_kinds_ne h.lrow h.prow (by decide)
  have v1 := own_var_ne h.prow h.g1.vf (by decide)
  have v2 := own_var_ne h.prow h.vp (by decide)
  refine ⟨⟨World.ownsRow.kept h.g1.frow hg (.inr (by have := h.fq; simpa [Value.ownBlock] using this)), h.g1.vf.far _ _ (fun e => v1 (by rw [e]; rfl)), World.ownsRow.kept h.g1.urow hg (k1.imp id fun e => e), h.g1.below.setCell (p := ⟨Q, k, none⟩) (h.prow.lt Q rfl).1 _⟩,
    ?_, h.vp.far _ _ (fun e => v2 (by rw [e]; rfl)), World.ownsRow.kept h.lrow hg (k2.imp id fun e => e), h.fq⟩
  have := (h.prow.stored k (.int .i64 (z : Int))).1
  rwa [show (iv (ints nu)).set k (.int .i64 (z : Int)) = iv (ints (nu.set k z)) from by simp [ints, iv, List.map_set]] at this
theorem G3.pcell {gs : List Rl} {w wr : World} {FB cF Vf U Q Vp : Nat} {nu : List Nat} {ou : List Rl} {yv : Value} (h : G3 gs w FB cF Vf U Q Vp nu ou yv wr) (hl : nu.length = gs.length) {k : Nat} (hk : k < gs.length) :
    wr.cell? ⟨Q, k, none⟩ = some (.int .i64 ((nu.getD k 0 : Nat) : Int)) ∧ wr.frozen? ⟨Q, k, none⟩ = false :=
  ⟨(World.ownsRow.cellAt h.prow k (by omega)).trans (ints_at nu k (by omega)), World.ownsRow.frozenAt h.prow k⟩
theorem G3.fun {gs : List Rl} {w wr : World} {FB cF Vf U Q Vp : Nat} {nu : List Nat} {ou : List Rl} {yv : Value} (h : G3 gs w FB cF Vf U Q Vp nu ou yv wr) (hl : gs.length ≤ 1000000) (hn : nu.length = gs.length) {n : Int} (h0 : 0 ≤ n) (hlt : n < gs.length) :
    ∀ W : World, (∀ q, q < wr.heap.size → W.heap[q]? = wr.heap[q]?) → Calls Try.prog 175 #[.int .i64 n, .pointer (some ⟨Vp, 0, none⟩), .pointer (some ⟨Vf, 0, none⟩)] W fun e w' => e = .returned (.int .i64 ((nu.getD (F1 gs n) 0 : Nat) : Int)) ∧ Drawn W w' := by
  intro W hW
  obtain ⟨j, rfl⟩ : ∃ j : Nat, n = j := ⟨n.toNat, by omega⟩
  have hjl : j < gs.length := by omega
  have hf : F1 gs (j : Int) < gs.length := by have := F1_le gs (i := (j : Int)) (by simpa using hjl); simp at this; omega
  have c1 := h.g1.vf.cell.1
  have c2 := h.g1.fcell hjl
  have c3 := h.vp.cell.1
  have c4 := (h.pcell hn hf).1
  refine trimE_any j Vp Vf FB Q gs.length cF gs.length gs.length (F1 gs (j : Int)) _ W (by omega) hl hf hl ?_ ?_ ?_ ?_
  · rw [World.cell?_of_block (a := ⟨Vf, 0, none⟩) (hW _ (lt_of_cell c1))]; exact c1
  · rw [World.cell?_of_block (a := ⟨FB, j, none⟩) (hW _ (lt_of_cell c2))]; exact c2
  · rw [World.cell?_of_block (a := ⟨Vp, 0, none⟩) (hW _ (lt_of_cell c3))]; exact c3
  · rw [World.cell?_of_block (a := ⟨Q, F1 gs (j : Int), none⟩) (hW _ (lt_of_cell c4))]; exact c4
theorem G3.ren {gs : List Rl} {w wr : World} {FB cF Vf U Q Vp : Nat} {nu : List Nat} {ou : List Rl} {yv : Value} (h : G3 gs w FB cF Vf U Q Vp nu ou yv wr) (hok : fits gs = true) (hl : gs.length ≤ 1000000) (hn : nu.length = gs.length) {k : Nat} (hk : k < gs.length) :
    Calls Try.prog 174 #[.agg #[.string gs[k].L, .int .i64 gs[k].l, .int .i64 gs[k].r], .func (.func 175) #[] #[.pointer (some ⟨Vp, 0, none⟩), .pointer (some ⟨Vf, 0, none⟩)]] wr fun e w' =>
      e = .returned (.agg #[.string (leftR gs nu gs[k]).L, .int .i64 (leftR gs nu gs[k]).l, .int .i64 (leftR gs nu gs[k]).r]) ∧ Below wr.heap.size wr w' := by
  by_cases hz : gs[k].L.size = 0
  · have hb := (ok_pair hz).1 (fits_at hok k hk)
    have := renum_trim gs[k] Vp Vf _ _ wr hz (h.fun hl hn hb.1.1 (by omega)) (h.fun hl hn hb.2.1 (by omega))
    unfold leftR
    rw [if_pos hz]
    exact this
  · have := renum_keep gs[k] (.func (.func 175) #[] #[.pointer (some ⟨Vp, 0, none⟩), .pointer (some ⟨Vf, 0, none⟩)]) wr hz
    unfold leftR
    rw [if_neg hz]
    exact this
/-- between two rules -/
def G2Rel (gs : List Rl) (w : World) (FB cF Vf U Q Vp : Nat) (yv i : Value) (wr : World) : Prop :=
  ∃ k : Nat, k ≤ gs.length ∧ i = .int .i64 k ∧ G3 gs w FB cF Vf U Q Vp (outT (kT gs gs.length) (ndAll gs) k).1 (outT (kT gs gs.length) (ndAll gs) k).2 yv wr
/-- from above down -/
def GRel (gs : List Rl) (w : World) (FB cF Vf U : Nat) (i : Value) (wr : World) : Prop :=
  ∃ (m : Nat) (v : Int), i = .int .i64 v ∧ v + 1 = m ∧ m ≤ gs.length ∧ G1 gs w FB cF Vf U (ndPre gs m) wr

set_option maxRecDepth 100000 in
set_option maxHeartbeats 1600000 in
theorem trimmed_any (v : Value) (gs : List Rl) (w : World) (hl : gs.length ≤ 1000000) (hok : fits gs = true) (hr : Rules w v gs) :
    Calls Try.prog 118 #[v] w fun e w' => ∃ y, e = .returned y ∧ OwnsR w' w.heap.size y (trimG gs) ∧ Below w.heap.size w w' := by
  obtain ⟨i0, hi, hz0, hz1, hz2⟩ := info_parts Try.info_i64
  obtain ⟨b0, bi, bz0, bz1, bz2⟩ := info_parts Try.info_bool
  obtain ⟨r0, ri, rz0, rz1, rz2⟩ := info_parts Try.info_rule
  have HFE := Lib.hid (firstEquals_any v gs w hl hok hr)
  obtain ⟨A, c, rfl, hr⟩ := hr
  have HRH := Lib.hid hr
  have HOK := Lib.hid hok
  clear hr hok
  by_cases hz : gs.length = 0
  · obtain rfl := List.eq_nil_of_length_eq_zero hz
    clear hz HFE
    go_enter Try.func118, Try.ntmps118
    go_wp2_with fail
    go_ret
    exact ⟨_, rfl, World.ownsRow_nil _ _ _ _, Below.refl _ _⟩
  · obtain ⟨N, hN⟩ : ∃ N, N = gs.length := ⟨_, rfl⟩
    have hN0 : ¬ N = 0 := by omega
    have hN1 : 0 < N := by omega
    have hNl : N ≤ 1000000 := by omega
    rw [← hN] at HFE ⊢
    have HN := Lib.hid hN
    obtain ⟨M, hM⟩ : ∃ M, N = M + 1 := ⟨N - 1, by omega⟩
    have HLA : Hid (∀ W, Calls Try.prog 119 #[.slice A N c] W fun e w' => e = .returned (.int .i64 (M : Int)) ∧ w' = W) := Lib.hid (fun W => (lastA A N c (by omega) W).mono fun e w' h => ⟨h.1.trans (ret_int (by omega)), h.2⟩)
    have HM := Lib.hid hM
    clear hz hN hl hM
    go_enter Try.func118, Try.ntmps118
    go_wp2_with fail
    refine HFE.out.mono ?_
    rintro e w1 ⟨y, rfl, hy, hB1⟩
    rcases hy.shape with ⟨_, h0⟩ | ⟨FB, cF, rfl, _⟩
    · exact absurd (by have := congrArg List.length h0; rw [ints_len, fT_len] at this; exact this) hN0
    have hy2 : w1.ownsRow w.heap.size 2 1 (.slice (some ⟨FB, 0, none⟩) N cF) N (iv (ints (fT gs N))) := by
      have h := hy
      unfold OwnsI at h
      rwa [ints_len, fT_len] at h
    rw [ints_len, fT_len]
    clear hy
    have hy := hy2
    clear hy2
    have HB1 := Lib.hid hB1
    have hs1 := hB1.size
    have hba := (Below.refl _ w1).alloc (Nat.le_refl _) (.cells #[.slice (some ⟨FB, 0, none⟩) N cF] 82)
    have hF2 := own_below hy hba (Nat.le_refl _)
    have hV2 := Var.new w1 (.slice (some ⟨FB, 0, none⟩) N cF) 82
    have hB2 := HB1.out.trans (hba.mono hs1)
    have HB2 := Lib.hid hB2
    have HF2 := Lib.hid hF2
    have HV2 := Lib.hid hV2
    clear hy hB1 hba hF2 hV2 hB2
    obtain ⟨Vf, hVf⟩ : ∃ Vf, Vf = w1.heap.size := ⟨_, rfl⟩
    go_upto_region 5 with (at_make; refine wpList_make_full _ rfl _ _ 178 rfl w.heap.size 4 b0 (.bool false) 1 Try.underlying178 bi bz0 bz1 .i64 .i64 _ _ N rfl rfl rfl rfl (by rw [bz2]; omega) (by unfold maxLen; omega) (by simp; omega) ?_; intro w3 hown3 hg3)
    rw [show (Value.bool false).cells = #[.bool false] from rfl, Nat.mul_one, made_bool] at hown3
    rw [show (w1.alloc (.cells #[.slice (some ⟨FB, 0, none⟩) N cF] 82)).heap.size = w1.heap.size + 1 from by simp] at hown3
    have hB3 := below_of_grown hg3
    have hg1 : G1 gs w FB cF w1.heap.size (w1.heap.size + 1) (List.replicate gs.length false) w3 := by
      refine ⟨?_, ?_, ?_, HB2.out.trans (hB3.mono HB2.out.size)⟩ <;> rw [← HN.out]
      · exact own_below HF2.out hB3 (Nat.le_refl _)
      · exact HV2.out.kept hB3
      · exact hown3
    rw [← hVf] at hg1 ⊢
    obtain ⟨U, hU⟩ : ∃ U, U = Vf + 1 := ⟨_, rfl⟩
    rw [← hU] at hg1 ⊢
    clear hU
    clear hown3 hg3 hB3 HV2 HF2 HB2 HB1 hVf hs1 HFE
    have hMg : M < gs.length := by have := HM.out; rw [← HN.out]; omega
    have f0 := hg1.fcell hMg
    have hF1 : F1 gs (M : Int) < N := by have := HM.out; have := F1_le gs (i := (M : Int)) (by simpa using hMg); simp at this; omega
    obtain ⟨u0, u1⟩ := hg1.ucell (by simp) (k := F1 gs (M : Int)) (by rw [← HN.out]; exact hF1)
    obtain ⟨v0, v1⟩ := hg1.vf.cell
    rw [← HN.out] at v0
    have HG3 : Hid (G1 gs w FB cF Vf U (ndPre gs N) ((w3.setCell ⟨U, F1 gs (M : Int), none⟩ (.bool true)).drew)) := Lib.hid (by
      have := (hg1.store (F1 gs (M : Int)) true).drew
      rw [HN.out, ndPre_top]
      rw [show gs.length - 1 = M from by have := HM.out; rw [← HN.out]; omega]
      unfold F1 at this
      rwa [Int.toNat_natCast] at this)
    have HC3 : Hid (w3.drew.cell? ⟨Vf, 0, none⟩ = some (.slice (some ⟨FB, 0, none⟩) N cF) ∧ w3.drew.cell? ⟨FB, M, none⟩ = some (.int .i64 ((F1 gs (M : Int) : Nat) : Int))) := Lib.hid ⟨v0, f0⟩
    have HC4 : Hid ((w3.drew.setCell ⟨U, F1 gs (M : Int), none⟩ (.bool true)).cell? ⟨Vf, 0, none⟩ = some (.slice (some ⟨FB, 0, none⟩) N cF) ∧ (w3.drew.setCell ⟨U, F1 gs (M : Int), none⟩ (.bool true)).cell? ⟨FB, M, none⟩ = some (.int .i64 ((F1 gs (M : Int) : Nat) : Int))) := Lib.hid (by
      have h1 := HG3.out.vf.cell.1
      rw [← HN.out] at h1
      exact ⟨h1, HG3.out.fcell hMg⟩)
    clear hg1
    generalize F1 gs (M : Int) = f1 at *
    generalize (List.replicate gs.length false).getD f1 false = ub at *
    have u0d : w3.drew.cell? ⟨U, f1, none⟩ = some (.bool ub) := u0
    have u1d : w3.drew.frozen? ⟨U, f1, none⟩ = false := u1
    have v0d : w3.drew.cell? ⟨Vf, 0, none⟩ = some (.slice (some ⟨FB, 0, none⟩) N cF) := v0
    have f0d : w3.drew.cell? ⟨FB, M, none⟩ = some (.int .i64 (f1 : Int)) := f0
    have hM0 : (0 : Int) ≤ (M : Int) := by omega
    have hM1 : (M : Int) < (N : Int) := by have := HM.out; omega
    have hf0 : (0 : Int) ≤ (f1 : Int) := by omega
    have hf1 : (f1 : Int) < (N : Int) := by omega
    go_region_held3 (fun w' => w'.cell? ⟨Vf, 0, none⟩ = some (.slice (some ⟨FB, 0, none⟩) N cF) ∧ w'.cell? ⟨FB, M, none⟩ = some (.int .i64 (f1 : Int))) (first | exact HC3.out | exact HC4.out | go_keep) (first | (go_at_call 119; refine (HLA.out _).mono ?_; rintro e w9 ⟨rfl, rfl⟩))
    all_goals
      go_wp2_with fail
      refine (HLA.out _).mono ?_
      rintro e w9 ⟨rfl, rfl⟩
      go_wp2_with fail
      clear u0d u1d v0d f0d u0 u1 v0 v1 f0 HC3 HC4 hf0 hf1 hM0 hM1 hMg hF1
      generalize (w3.setCell ⟨U, f1, none⟩ (.bool true)).drew = w4 at *
      have HTP := ta_pp
      have HTL := ta_lp
      go_loopw [5] (fun i wr => GRel gs w FB cF Vf U i wr) (fun i _ => ((intOf i) + 1).toNat)
      case atStart => exact ⟨N, (M : Int), rfl, by have := HM.out; omega, by rw [← HN.out]; exact Nat.le_refl _, HG3.out⟩
      case round =>
        clear HG3
        obtain ⟨m, v, rfl, hvm, hm, hg⟩ := hrel
        obtain ⟨wo, rfl⟩ : ∃ wo : World, wo = wr := ⟨_, rfl⟩
        by_cases hm0 : m = 0
        · subst hm0
          obtain rfl : v = -1 := by omega
          have HG5 := Lib.hid hg
          clear hg hm hvm HTP HTL
          rw [ndPre_zero] at HG5
          have hbs := HG5.out.below.size
          go_wp2_with (at_make; refine wpList_make_full _ rfl _ _ 82 rfl w.heap.size 2 i0 (.int .i64 0) 1 Try.underlying82 hi hz0 hz1 .i64 .i64 _ _ N rfl rfl rfl rfl (by rw [hz2]; omega) (by unfold maxLen; omega) (by simp; omega) ?_)
          intro w5 hown5 hg5
          rw [made_i64] at hown5
          have hB5 := below_of_grown hg5
          have HST : Hid (G2Rel gs w FB cF Vf U (wo.heap.size + 1) w5.heap.size (.slice (some ⟨wo.heap.size, 0, none⟩) 0 0) (.int .i64 0) (w5.alloc (.cells #[.slice (some ⟨wo.heap.size + 1, 0, none⟩) N N] 82))) := Lib.hid (by
            have hba := (Below.refl _ wo).alloc (Nat.le_refl _) (.cells #[] 146)
            have hbb := (Below.refl _ w5).alloc (Nat.le_refl _) (.cells #[.slice (some ⟨wo.heap.size + 1, 0, none⟩) N N] 82)
            have hl : (wo.alloc (.cells #[] 146)).ownsRow w.heap.size 146 3 (.slice (some ⟨wo.heap.size, 0, none⟩) 0 0) 0 (rv []) := World.ownsRow_lit wo #[] 0 hbs (by decide) rfl
            refine ⟨0, Nat.zero_le _, rfl, ⟨((HG5.out.kept hba).kept hB5).kept hbb, ?_, ?_, own_below (own_below hl hB5 (Nat.le_refl _)) hbb (Nat.le_refl _), ?_⟩⟩
            · rw [HN.out] at hown5 ⊢
              have e : ints (outT (kT gs gs.length) (ndAll gs) 0).1 = List.replicate gs.length 0 := by simp [outT, ints, ndAll_len]
              rw [e]
              exact own_below hown5 ((Below.refl _ w5).alloc (Nat.le_refl _) _) (Nat.le_refl _)
            · rw [HN.out]; exact Var.new w5 _ _
            · have := (HG5.out.frow.lt FB rfl).2; omega)
          clear hown5 hg5 hB5
          obtain ⟨Vp, hVp⟩ : ∃ Vp, Vp = w5.heap.size := ⟨_, rfl⟩
          obtain ⟨Q, hQ⟩ : ∃ Q, Q = wo.heap.size + 1 := ⟨_, rfl⟩
          obtain ⟨LB, hLB⟩ : ∃ LB, LB = wo.heap.size := ⟨_, rfl⟩
          go_wp2_with fail
          rw [← hQ, ← hVp, ← hLB] at HST
          rw [← hVp, ← hQ]
          rw [← hLB]
          generalize w5.alloc (.cells #[.slice (some ⟨Q, 0, none⟩) N N] 82) = w6 at *
          clear hVp hQ hLB hbs HG5
          go_loopw [8, 69] (fun yv i wr => G2Rel gs w FB cF Vf U Q Vp yv i wr) (fun _ i _ => N - (intOf i).toNat)
          case atStart => exact HST.out
          case round =>
            clear HST
            obtain ⟨k, hk, rfl, hg⟩ := hrel
            obtain ⟨wu, rfl⟩ : ∃ wu : World, wu = wr := ⟨_, rfl⟩
            rw [← HN.out] at hk
            by_cases hlt : k < N
            · have hkg : k < gs.length := by rw [← HN.out]; exact hlt
              rcases HRH.out with hn | ⟨g, rfl, hgb, hc⟩
              · rw [hn] at hkg; simp at hkg
              obtain ⟨a0, a1, a2⟩ := rules_cells hc hkg
              have d0 := (hg.g1.below.cell (p := ⟨g, k * 3, none⟩) hgb).trans a0
              have d1 := (hg.g1.below.cell (p := ⟨g, k * 3 + 1, none⟩) hgb).trans a1
              have d2 := (hg.g1.below.cell (p := ⟨g, k * 3 + 2, none⟩) hgb).trans a2
              have hoL : (outT (kT gs gs.length) (ndAll gs) k).2.length ≤ k := outT_le _ _ _
              have hnL : (outT (kT gs gs.length) (ndAll gs) k).1.length = gs.length := by rw [outT_len, ndAll_len]
              have HYES := Lib.hid (fun h => out_yes HOK.out hkg (ndAll gs) h)
              have HNO : Hid ((ndAll gs).getD k false = false → outT (kT gs gs.length) (ndAll gs) (k + 1) = ((outT (kT gs gs.length) (ndAll gs) k).1, (outT (kT gs gs.length) (ndAll gs) k).2)) := Lib.hid (fun h => out_no (gs := gs) (k := k) (ndAll gs) h)
              have hc8 := (hg.kept ((Below.refl _ wu).alloc (Nat.le_refl _) (.cells #[.string gs[k].L, .int .i64 gs[k].l, .int .i64 gs[k].r] 146)))
              have HREN := Lib.hid (fun hl => hc8.ren HOK.out hl hnL hkg)
              have HG8 := Lib.hid hc8
              obtain ⟨⟨p0, p1, p2⟩, _⟩ := blk3_cells (heap_alloc_new wu (.cells #[.string gs[k].L, .int .i64 gs[k].l, .int .i64 gs[k].r] 146))
              obtain ⟨c0, c1⟩ := hc8.g1.ucell (ndAll_len gs) hkg
              obtain ⟨A2, c2, rfl⟩ := own_slice hg.lrow
              generalize (outT (kT gs gs.length) (ndAll gs) k).1 = no at *
              generalize (outT (kT gs gs.length) (ndAll gs) k).2 = oo at *
              generalize leftR gs no gs[k] = Z at *
              generalize gs[k] = R at *
              clear a0 a1 a2 hc hc8 hg
              obtain ⟨X, hX⟩ : ∃ X, X = wu.heap.size := ⟨_, rfl⟩
              go_upto_region 18 with fail
              rw [← hX] at p0 p1 p2 ⊢
              generalize wu.alloc (.cells #[.string R.L, .int .i64 R.l, .int .i64 R.r] 146) = w8 at *
              clear hX d0 d1 d2
              cases hu : (ndAll gs).getD k false
              · rw [hu] at c0
                have HO := Lib.hid (HNO.out hu)
                clear hu HYES HNO
                go_wp2_with fail
                go_roundw
                all_goals first | exact ⟨k + 1, by omega, by go_num, by rw [HO.out]; exact HG8.out⟩ | ((repeat apply Exists.intro); exact ⟨⟨k + 1, by omega, by go_num, by rw [HO.out]; exact HG8.out⟩, rfl⟩) | (simp [intOf]; done) | (simp [intOf]; omega) | omega
              · rw [hu] at c0
                have HO := Lib.hid (HYES.out hu)
                have HR := Lib.hid (HREN.out (by rw [← HN.out]; exact hNl))
                clear hu HYES HNO HREN
                go_wp2_with fail
                refine HR.out.mono ?_
                rintro e w9 ⟨rfl, hB9⟩
                have HG9 := Lib.hid (HG8.out.kept hB9)
                have HNW := Lib.hid (news3 w9 Z 146)
                have hbs9 : w.heap.size ≤ w9.heap.size := HG9.out.g1.below.size
                have HO9 := Lib.hid HG9.out.lrow
                obtain ⟨L, hL⟩ : ∃ L, L = oo.length := ⟨_, rfl⟩
                rw [← hL] at hoL HO9 ⊢
                have HL := Lib.hid hL
                clear hB9 HR HG8 p0 p1 p2 c0 c1 hL
                go_upto_region 20 with (first | (at_builtin; refine wpList_append_own _ rfl _ _ 24 rfl w.heap.size 146 r0 (.agg #[.string ⟨#[]⟩, .int .i64 0, .int .i64 0]) 3 32 Try.underlying24 ri rz0 rz1 rz2 rfl (by decide) _ _ _ rfl (World.ownsRow.alloc HO9.out _) ⟨w9.heap.size, 0, none⟩ 1 1 (rc Z) rfl rfl HNW.out (rc_cell _) (by unfold maxLen; omega) (by omega) (by simp; omega) ?_; intro y' w10 hown' hgrow hwhat))
                obtain ⟨A8, c8, rfl⟩ := own_slice hown'
                have hg10 : G3 gs w FB cF Vf U Q Vp no (oo ++ [Z]) (.slice A8 (L + 1) c8) w10 := HG9.out.app (x := Z) (by rw [HL.out] at hown' ⊢; exact hown') (by rw [HL.out] at hgrow; exact hgrow)
                have HLB : Hid (∀ W, Calls Try.prog 119 #[.slice A8 (L + 1) c8] W fun e w' => e = .returned (.int .i64 (L : Int)) ∧ w' = W) := Lib.hid (fun W => (lastA A8 (L + 1) c8 (by omega) W).mono fun e w' h => ⟨h.1.trans (ret_int (by omega)), h.2⟩)
                obtain ⟨v0, v1⟩ := hg10.vp.cell
                rw [← HN.out] at v0
                obtain ⟨z0, z1⟩ := hg10.pcell hnL hkg
                have HG11 : Hid (G3 gs w FB cF Vf U Q Vp (no.set k L) (oo ++ [Z]) (.slice A8 (L + 1) c8) ((w10.setCell ⟨Q, k, none⟩ (.int .i64 (L : Int))).drew)) := Lib.hid (hg10.store k L).drew
                have HC10 : Hid (w10.drew.cell? ⟨Vp, 0, none⟩ = some (.slice (some ⟨Q, 0, none⟩) N N)) := Lib.hid v0
                have HC11 : Hid ((w10.drew.setCell ⟨Q, k, none⟩ (.int .i64 (L : Int))).cell? ⟨Vp, 0, none⟩ = some (.slice (some ⟨Q, 0, none⟩) N N)) := Lib.hid (by
                  have h1 := HG11.out.vp.cell.1
                  rw [← HN.out] at h1
                  exact h1)
                generalize no.getD k 0 = zk at *
                have z0d : w10.drew.cell? ⟨Q, k, none⟩ = some (.int .i64 (zk : Int)) := z0
                have z1d : w10.drew.frozen? ⟨Q, k, none⟩ = false := z1
                have v0d : w10.drew.cell? ⟨Vp, 0, none⟩ = some (.slice (some ⟨Q, 0, none⟩) N N) := v0
                have hk0 : (0 : Int) ≤ (k : Int) := by omega
                have hk1 : (k : Int) < (N : Int) := by omega
                clear hown' hgrow hwhat hg10 HG9 HNW HO9
                go_region_held3 (fun w' => w'.cell? ⟨Vp, 0, none⟩ = some (.slice (some ⟨Q, 0, none⟩) N N)) (first | exact HC10.out | exact HC11.out | go_keep) (first | (go_at_call 119; refine (HLB.out _).mono ?_; rintro e w11 ⟨rfl, rfl⟩))
                all_goals
                  go_wp2_with fail
                  go_roundw
                  all_goals first | exact ⟨k + 1, by omega, by go_num, by rw [HO.out, ← HL.out]; exact HG11.out⟩ | ((repeat apply Exists.intro); exact ⟨⟨k + 1, by omega, by go_num, by rw [HO.out, ← HL.out]; exact HG11.out⟩, rfl⟩) | (simp [intOf]; done) | (simp [intOf]; omega) | omega
            · obtain rfl : k = N := by omega
              have HG6 := Lib.hid hg
              clear hg
              go_wp2_with fail
              go_ret
              refine ⟨_, rfl, ?_, HG6.out.g1.below⟩
              have := HG6.out.lrow
              rw [HN.out] at this
              exact this
        · obtain ⟨k, rfl⟩ : ∃ k, m = k + 1 := ⟨m - 1, by omega⟩
          obtain rfl : v = (k : Int) := by omega
          have hkg : k < gs.length := by omega
          have hkN : k < N := by rw [HN.out]; exact hkg
          rcases HRH.out with hn | ⟨g, rfl, hgb, hc⟩
          · rw [hn] at hkg; simp at hkg
          obtain ⟨a0, a1, a2⟩ := rules_cells hc hkg
          have d0 := (hg.below.cell (p := ⟨g, k * 3, none⟩) hgb).trans a0
          have d1 := (hg.below.cell (p := ⟨g, k * 3 + 1, none⟩) hgb).trans a1
          have d2 := (hg.below.cell (p := ⟨g, k * 3 + 2, none⟩) hgb).trans a2
          have HNX := Lib.hid (ndPre_next gs hkg)
          have hlen := ndPre_len gs (k + 1)
          clear a0 a1 a2 hc hvm hm hm0
          by_cases h0 : gs[k].L.size = 0
          · obtain ⟨⟨q1, q2⟩, q3, q4⟩ := (ok_pair h0).1 (fits_at HOK.out k hkg)
            obtain ⟨a, ha⟩ : ∃ a : Nat, gs[k].l = a := ⟨gs[k].l.toNat, by omega⟩
            obtain ⟨b, hb⟩ : ∃ b : Nat, gs[k].r = b := ⟨gs[k].r.toNat, by omega⟩
            have HS := Lib.hid (nd_pair HOK.out hkg h0 (ndPre gs (k + 1)))
            rw [← HNX.out, ha, hb] at HS
            have HK := Lib.hid (fun W => kind_pair ⟨⟨#[]⟩, (a : Int), (b : Int)⟩ rfl W)
            rw [empty_arr h0] at d0
            rw [ha] at d1
            rw [hb] at d2
            have hag : a < gs.length := by omega
            have hbg : b < gs.length := by omega
            have hfa : F1 gs (a : Int) < gs.length := by have := F1_le gs (i := (a : Int)) (by simpa using hag); simp at this; omega
            have hfb : F1 gs (b : Int) < gs.length := by have := F1_le gs (i := (b : Int)) (by simpa using hbg); simp at this; omega
            clear q1 q2 q3 q4 ha hb h0 HNX
            generalize ndPre gs (k + 1) = nd at *
            have HGK := Lib.hid hg
            clear hg
            go_wp2_with fail
            refine (HK.out _).mono ?_
            rintro e w7 ⟨rfl, hB7⟩
            have HG7 := Lib.hid (HGK.out.kept hB7)
            clear hB7 d0 d1 d2
            go_upto_region 10 with fail
            obtain ⟨⟨p0, p1, p2⟩, _⟩ := blk3_cells (heap_alloc_new w7 (.cells #[.string ⟨#[]⟩, .int .i64 (a : Int), .int .i64 (b : Int)] 223))
            have HG8 := Lib.hid (HG7.out.kept ((Below.refl _ w7).alloc (Nat.le_refl _) (.cells #[.string ⟨#[]⟩, .int .i64 (a : Int), .int .i64 (b : Int)] 223)))
            have hPU : w7.heap.size ≠ U := by have := (HG7.out.urow.lt U rfl).2; omega
            obtain ⟨P, hP⟩ : ∃ P, P = w7.heap.size := ⟨_, rfl⟩
            rw [← hP] at p0 p1 p2 hPU ⊢
            clear hP HG7 HGK
            generalize w7.alloc (.cells #[.string ⟨#[]⟩, .int .i64 (a : Int), .int .i64 (b : Int)] 223) = w8 at *
            obtain ⟨c0, c1⟩ := HG8.out.ucell hlen hkg
            cases hu : nd.getD k false
            · rw [hu] at c0
              rw [hu, if_neg (by decide)] at HS
              clear hu
              go_wp2_with fail
              go_roundw
              all_goals first | exact ⟨k, (k : Int) - 1, by go_num, by omega, by omega, by rw [HS.out]; exact HG8.out⟩ | ((repeat apply Exists.intro); exact ⟨⟨k, (k : Int) - 1, by go_num, by omega, by omega, by rw [HS.out]; exact HG8.out⟩, rfl⟩) | (simp [intOf]; done) | (simp [intOf]; omega) | omega
            · rw [hu] at c0
              rw [hu, if_pos rfl] at HS
              clear hu
              obtain ⟨e0, e1⟩ := HG8.out.vf.cell
              rw [← HN.out] at e0
              have fa := HG8.out.fcell hag
              have fb := HG8.out.fcell hbg
              obtain ⟨s0, s1⟩ := HG8.out.ucell hlen hfa
              have hl2 : (nd.set (F1 gs (a : Int)) true).length = gs.length := by rw [List.length_set]; exact hlen
              have HG9 := Lib.hid (HG8.out.store (F1 gs (a : Int)) true)
              rw [← HN.out] at hag hbg hfa
              have hfbN : F1 gs (b : Int) < N := by rw [HN.out]; exact hfb
              have HS := Lib.hid HS.out
              generalize F1 gs (a : Int) = fa' at *
              generalize hfb' : F1 gs (b : Int) = fb' at *
              have HFB := Lib.hid hfb'
              clear hfb'
              go_upto_region 12 with fail
              have P1 := cell_far1 (p := ⟨U, fa', none⟩) (u := .bool true) p1 hPU
              have P2 := cell_far1 (p := ⟨U, fa', none⟩) (u := .bool true) p2 hPU
              generalize w8.setCell ⟨U, fa', none⟩ (.bool true) = w9 at *
              clear p0 p1 p2 e0 e1 fa fb s0 s1 c0 c1 HG8
              obtain ⟨e0, e1⟩ := HG9.out.vf.cell
              rw [← HN.out] at e0
              have fb := HG9.out.fcell (k := b) (by rw [← HN.out]; exact hbg)
              rw [HFB.out] at fb
              obtain ⟨s0, s1⟩ := HG9.out.ucell hl2 hfb
              have HG10 := Lib.hid (HG9.out.store fb' true)
              go_wp2_with fail
              go_roundw
              all_goals first | exact ⟨k, (k : Int) - 1, by go_num, by omega, by omega, by rw [HS.out]; exact HG10.out⟩ | ((repeat apply Exists.intro); exact ⟨⟨k, (k : Int) - 1, by go_num, by omega, by omega, by rw [HS.out]; exact HG10.out⟩, rfl⟩) | (simp [intOf]; done) | (simp [intOf]; omega) | omega
          · have HS := Lib.hid (nd_letter hkg h0 (ndPre gs (k + 1)))
            rw [← HNX.out] at HS
            have HK := Lib.hid (fun W => kind_letter gs[k] h0 W)
            clear h0 HNX
            generalize ndPre gs (k + 1) = nd at *
            generalize gs[k] = R at *
            obtain ⟨RL, Rl', Rr⟩ := R
            have HGK := Lib.hid hg
            clear hg
            go_wp2_with fail
            refine (HK.out _).mono ?_
            rintro e w7 ⟨rfl, hB7⟩
            have HG8 := Lib.hid (HGK.out.kept (hB7.trans (((Below.refl _ w7).alloc (Nat.le_refl _) (.cells #[.string ⟨#[]⟩, .int .i64 0, .int .i64 0] 223)).mono hB7.size)))
            clear hB7 d0 d1 d2
            go_wp2_with fail
            go_roundw
            all_goals first | exact ⟨k, (k : Int) - 1, by go_num, by omega, by omega, by rw [HS.out]; exact HG8.out⟩ | ((repeat apply Exists.intro); exact ⟨⟨k, (k : Int) - 1, by go_num, by omega, by omega, by rw [HS.out]; exact HG8.out⟩, rfl⟩) | (simp [intOf]; done) | (simp [intOf]; omega) | omega
end Go.Proofs.Ytlgpleeanmeenaa
namespace Go.Proofs.Ytlgpleeanmeenaa
open Go.RowKit
open Wd
set_option linter.unusedVariables false
namespace Wd
/-- the pieces joined, trimmed behind each one -/
def jpF (pc : Nat → List Rl → List Rl × Int) : Nat → Nat → List Rl → List Rl × Int
  | 0, _, g => (g, 0)
  | n + 1, k, g => if (pc k g).2 = 0 then (if gOk (joinG g (pc k g).1) = true then jpF pc n (k + 1) (trimG (joinG g (pc k g).1)) else ([], 3)) else ([], (pc k g).2)
theorem few_ok {gs : List Rl} (h : gOk gs = true) : FewR gs := by
  have h1 := gOk_len h
  have h2 := sum_ok h
  unfold FewR
  omega
end Wd
theorem var_setV {w : World} {V : Nat} {a b : Value} {t : TypeId} (h : Var w V a t) : Var (w.setCell ⟨V, 0, none⟩ b) V b t := by
  unfold Var at h ⊢
  simp [World.setCell, Array.getElem?_modify, h]
/-- between two pieces -/
def JpRel (pc : Nat → List Rl → List Rl × Int) (inv : Nat → List Rl → Prop) (n : Nat) (w : World) (ans : List Rl × Int) (i : Value) (wr : World) : Prop :=
  ∃ (k : Nat) (g : List Rl) (yv : Value), k ≤ n ∧ i = .int .i64 k ∧ gOk g = true ∧ inv k g ∧ jpF pc (n - k) k g = ans ∧ JSt w (w.heap.size + 2) (w.heap.size + 1) w.heap.size g yv wr
set_option maxRecDepth 100000 in
set_option maxHeartbeats 12800000 in
theorem joinedPieces_any (pc : Nat → List Rl → List Rl × Int) (inv : Nat → List Rl → Prop) (cv : Value) (n : Nat) (w : World) (hn : n ≤ 1000)
    (hpc : ∀ k g v W, k < n → gOk g = true → inv k g → RulesC W v g → Below w.heap.size w W → Calls Try.prog 71 #[.int .i64 k, .agg #[v], cv] W fun e w' => ∃ y, e = .returned (.tuple #[.agg #[y], .int .i64 (pc k g).2]) ∧ OwnsR w' W.heap.size y (pc k g).1 ∧ Below W.heap.size W w')
    (hgo : ∀ k g, k < n → gOk g = true → inv k g → (pc k g).2 = 0 → gOk (pc k g).1 = true)
    (hinv : ∀ k g, k < n → gOk g = true → inv k g → (pc k g).2 = 0 → gOk (joinG g (pc k g).1) = true → inv (k + 1) (trimG (joinG g (pc k g).1)))
    (h0 : inv 0 []) :
    Calls Try.prog 70 #[.int .i64 n, .func (.func 71) #[] #[cv]] w fun e w' => ∃ y, e = .returned (.tuple #[.agg #[y], .int .i64 (jpF pc n 0 []).2]) ∧ OwnsR w' w.heap.size y (jpF pc n 0 []).1 ∧ Below w.heap.size w w' := by
  have hb : Below w.heap.size w ((w.alloc (.cells #[.slice none 0 0] 26)).alloc (.cells #[.slice none 0 0] 26)) := ((Below.refl _ w).alloc (Nat.le_refl _) _).alloc (by simp) _
  have hv0 : Var ((w.alloc (.cells #[.slice none 0 0] 26)).alloc (.cells #[.slice none 0 0] 26)) w.heap.size (.slice none 0 0) 26 := (Var.new w (.slice none 0 0) 26).kept ((Below.refl _ _).alloc (Nat.le_refl _) _)
  have hv : Var ((w.alloc (.cells #[.slice none 0 0] 26)).alloc (.cells #[.slice none 0 0] 26)) (w.heap.size + 1) (.slice none 0 0) 26 := by
    have := Var.new (w.alloc (.cells #[.slice none 0 0] 26)) (.slice none 0 0) 26
    rwa [show (w.alloc (.cells #[.slice none 0 0] 26)).heap.size = w.heap.size + 1 from by simp] at this
  obtain ⟨ans, hans⟩ : ∃ ans, ans = jpF pc n 0 [] := ⟨_, rfl⟩
  rw [← hans]
  have HST : Hid (JpRel pc inv n w ans (.int .i64 0) ((w.alloc (.cells #[.slice none 0 0] 26)).alloc (.cells #[.slice none 0 0] 26))) := Lib.hid
    ⟨0, [], .slice none 0 0, Nat.zero_le _, rfl, gOk_nil, h0, hans.symm, World.ownsRow_nil _ _ _ _, hv, hv0, hb, by simp⟩
  have HPC := Lib.hid hpc
  have HGO := Lib.hid hgo
  have HINV := Lib.hid hinv
  clear hb hv0 hv hans hpc hgo hinv h0
  go_enter Try.func70, Try.ntmps70
  go_wp2_with fail
  generalize (w.alloc (.cells #[.slice none 0 0] 26)).alloc (.cells #[.slice none 0 0] 26) = wz at *
  go_loopw [7, 8, 9, 10, 12] (fun _ _ _ _ i wr => JpRel pc inv n w ans i wr) (fun _ _ _ _ i _ => n - (intOf i).toNat)
  case atStart => exact HST.out
  case round =>
    obtain ⟨k, g, yv, hk, rfl, hok, hin, hans, hjs⟩ := hrel
    obtain ⟨wo, rfl⟩ : ∃ wo : World, wo = wr := ⟨_, rfl⟩
    obtain ⟨Ag, cg, rfl⟩ := own_slice hjs.1
    obtain ⟨g0, g1⟩ := hjs.2.1.cell
    obtain ⟨r0, r1⟩ := hjs.2.2.1.cell
    have HJ := Lib.hid hjs
    have hsz : w.heap.size + 2 ≤ wo.heap.size := hjs.2.2.2.2
    by_cases hlt : k < n
    · have hP := HPC.out k g _ wo hlt hok hin (RulesC.of_own hjs.1) hjs.2.2.2.1
      obtain ⟨m, hm⟩ : ∃ m, n - k = m + 1 := ⟨n - k - 1, by omega⟩
      rw [hm, jpF] at hans
      by_cases hc : (pc k g).2 = 0
      · rw [if_pos hc] at hans
        have hgn := HGO.out k g hlt hok hin hc
        have hI := HINV.out k g hlt hok hin hc
        rw [hc] at hP
        generalize (pc k g).1 = nx at *
        have HP := Lib.hid hP
        have hjf := joinG_few hok hgn
        have HJN := Lib.hid (fun v u W h1 h2 => implJoin_ok v u g nx W (few_ok hok) (few_ok hgn) h1 h2 hok hgn)
        by_cases hjo : gOk (joinG g nx) = true
        · rw [if_pos hjo] at hans
          have hlc : limC (joinG g nx) = 0 := by unfold limC; rw [if_pos hjo]
          have hlg : limG (joinG g nx) = joinG g nx := by unfold limG; rw [if_pos hjo]
          rw [hlc, hlg] at HJN
          have hI := hI hjo
          have htk := (trim_ok hjo).1
          have HTR := Lib.hid (fun v W (h : Rules W v (joinG g nx)) => trimmed_any v (joinG g nx) W (by have := gOk_len hjo; omega) (gOk_iff.1 hjo).2.1 h)
          have HANS : Hid (jpF pc (n - (k + 1)) (k + 1) (trimG (joinG g nx)) = ans) := Lib.hid (by rw [show n - (k + 1) = m from by omega]; exact hans)
          have HK := Lib.hid (And.intro htk hI)
          generalize trimG (joinG g nx) = tr at *
          generalize joinG g nx = jn at *
          clear hjs hP hans hc hgn hI hjf hjo hlc hlg htk hm
          go_wp2_with fail
          refine HP.out.mono ?_
          rintro e w2 ⟨y2, rfl, ho2, hB2⟩
          obtain ⟨A2, c2, rfl⟩ := own_slice ho2
          have hb3 := (Below.refl _ w2).alloc (Nat.le_refl _) (.cells #[.slice A2 nx.length c2] 26)
          have HJ3 := Lib.hid (jst_kept (jst_kept HJ.out hB2) hb3)
          have HR3 := Lib.hid ((Rules.of_own ho2).kept hb3)
          have q3 := (Var.new w2 (.slice A2 nx.length c2) 26).cell.1
          have g3 := HJ3.out.2.1.cell.1
          clear hB2 ho2 hb3
          go_wp2_with fail
          generalize w2.alloc (.cells #[.slice A2 nx.length c2] 26) = w3 at *
          refine (HJN.out _ _ _ (Rules.of_own HJ3.out.1) HR3.out).mono ?_
          rintro e w4 ⟨y4, rfl, ho4, hB4⟩
          obtain ⟨A4, c4, rfl⟩ := own_slice ho4
          have hb5 := (Below.refl _ w4).alloc (Nat.le_refl _) (.cells #[.slice A4 jn.length c4] 26)
          have HJ5 := Lib.hid (jst_kept (jst_kept HJ3.out hB4) hb5)
          have HR5 := Lib.hid ((Rules.of_own ho4).kept hb5)
          have q5 := (Var.new w4 (.slice A4 jn.length c4) 26).cell.1
          clear hB4 ho4 hb5
          go_wp2_with fail
          generalize w4.alloc (.cells #[.slice A4 jn.length c4] 26) = w5 at *
          refine (HTR.out _ _ HR5.out).mono ?_
          rintro e w6 ⟨y6, rfl, ho6, hB6⟩
          obtain ⟨A6, c6, rfl⟩ := own_slice ho6
          have hj6 := jst_kept HJ5.out hB6
          obtain ⟨v0, v1⟩ := hj6.2.1.cell
          have HST2 : Hid (JpRel pc inv n w ans (.int .i64 ((k + 1 : Nat) : Int)) (w6.setCell ⟨w.heap.size + 1, 0, none⟩ (.slice A6 tr.length c6))) := Lib.hid (by
            obtain ⟨j1, j2, j3, j4, j5⟩ := hj6
            have hlow := own_lower ho6 (show w.heap.size + 2 ≤ w5.heap.size from HJ5.out.2.2.2.2)
            exact ⟨k + 1, tr, .slice A6 tr.length c6, by omega, rfl, HK.out.1, HK.out.2, HANS.out, own_setLow hlow _ _ (by simp only; omega), var_setV j2, j3.far _ _ (by simp only; omega), j4.setCell (by simp only; omega) _, by simp [World.setCell]; exact j5⟩)
          clear hj6 ho6 hB6
          go_wp2_with fail
          go_roundw
          all_goals first | exact HST2.out | ((repeat apply Exists.intro); exact ⟨HST2.out, rfl⟩) | (simp [intOf]; done) | (simp [intOf]; omega) | omega
        · rw [if_neg hjo] at hans
          have hlc : limC (joinG g nx) = 3 := by unfold limC; rw [if_neg hjo]
          have hlg : limG (joinG g nx) = [] := by unfold limG; rw [if_neg hjo]
          rw [hlc, hlg] at HJN
          subst hans
          clear hjs hP hc hgn hI hjf hjo hlc hlg hm
          go_wp2_with fail
          refine HP.out.mono ?_
          rintro e w2 ⟨y2, rfl, ho2, hB2⟩
          obtain ⟨A2, c2, rfl⟩ := own_slice ho2
          have hb3 := (Below.refl _ w2).alloc (Nat.le_refl _) (.cells #[.slice A2 nx.length c2] 26)
          have HJ3 := Lib.hid (jst_kept (jst_kept HJ.out hB2) hb3)
          have HR3 := Lib.hid ((Rules.of_own ho2).kept hb3)
          have q3 := (Var.new w2 (.slice A2 nx.length c2) 26).cell.1
          have g3 := HJ3.out.2.1.cell.1
          clear hB2 ho2 hb3
          go_wp2_with fail
          generalize w2.alloc (.cells #[.slice A2 nx.length c2] 26) = w3 at *
          refine (HJN.out _ _ _ (Rules.of_own HJ3.out.1) HR3.out).mono ?_
          rintro e w4 ⟨y4, rfl, ho4, hB4⟩
          obtain ⟨A4, c4, rfl⟩ := own_slice ho4
          have hb5 := (Below.refl _ w4).alloc (Nat.le_refl _) (.cells #[.slice A4 0 c4] 26)
          have HJ5 := Lib.hid (jst_kept (jst_kept HJ3.out hB4) hb5)
          obtain ⟨x0, x1⟩ := HJ5.out.2.2.1.cell
          clear hB4 ho4 hb5
          go_wp2_with fail
          refine bodyPost_ret (v := .tuple #[.agg #[.slice none 0 0], .int .i64 3]) (by simp [results, Try.results70, go_sem, x0]) rfl ⟨_, rfl, World.ownsRow_nil _ _ _ _, HJ5.out.2.2.2.1.setCell (by simp) _⟩
      · rw [if_neg hc] at hans
        have hcb : ((pc k g).2 == 0) = false := by rw [beq_eq_false_iff_ne]; exact hc
        generalize (pc k g).1 = nx at *
        generalize (pc k g).2 = cc at *
        subst hans
        have HP := Lib.hid hP
        clear hjs hP hm
        go_wp2_with fail
        refine HP.out.mono ?_
        rintro e w2 ⟨y2, rfl, ho2, hB2⟩
        obtain ⟨A2, c2, rfl⟩ := own_slice ho2
        have hb3 := (Below.refl _ w2).alloc (Nat.le_refl _) (.cells #[.slice A2 nx.length c2] 26)
        have HJ3 := Lib.hid (jst_kept (jst_kept HJ.out hB2) hb3)
        obtain ⟨x0, x1⟩ := HJ3.out.2.2.1.cell
        clear hB2 ho2 hb3
        go_wp2_with fail
        refine bodyPost_ret (v := .tuple #[.agg #[.slice none 0 0], .int .i64 cc]) (by simp [results, Try.results70, go_sem, x0]) rfl ⟨_, rfl, World.ownsRow_nil _ _ _ _, HJ3.out.2.2.2.1.setCell (by simp) _⟩
    · obtain rfl : k = n := by omega
      rw [Nat.sub_self, jpF] at hans
      subst hans
      clear hjs
      go_wp2_with fail
      refine bodyPost_ret (v := .tuple #[.agg #[.slice Ag g.length cg], .int .i64 0]) (by simp [results, Try.results70, go_sem, r0]) rfl ⟨_, rfl, ?_, HJ.out.2.2.2.1.setCell (by simp) _⟩
      exact own_lower (own_setLow HJ.out.1 _ _ (by simp)) (by omega)
end Go.Proofs.Ytlgpleeanmeenaa
