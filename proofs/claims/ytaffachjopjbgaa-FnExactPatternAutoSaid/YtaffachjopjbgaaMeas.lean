/-
  The walk of the closure of impl.measured: the measure of a rule, with a memory.
-/
import Derived.Test.YtaffachjopjbgaaGramOk
import Derived.Deep.RegionHeld3
namespace Go.Proofs.Ytaffachjopjbgaa
open Go.RowKit
open Wd
set_option linter.unusedVariables false

theorem ta_ll (v : Value) (w : World) : (Instr.typeAssert (.iface 211 v) 194 211 true).run Try.prog w = .ok (.tuple #[v, .bool true]) w := by kernel_rfl
theorem ta_pp (v : Value) (w : World) : (Instr.typeAssert (.iface 198 v) 194 198 true).run Try.prog w = .ok (.tuple #[v, .bool true]) w := by kernel_rfl
theorem ta_pl (v : Value) (w : World) : (Instr.typeAssert (.iface 198 v) 194 211 true).run Try.prog w = .ok (.tuple #[.agg #[.string ⟨#[]⟩, .int .i64 0, .int .i64 0], .bool false]) w := by kernel_rfl

namespace Wd
/-- rules in a block below a number -/
def RulesU (B : Nat) (w : World) (v : Value) (gs : List Rl) : Prop :=
  ∃ A c, v = .slice A gs.length c ∧ (gs = [] ∨ ∃ g, A = some ⟨g, 0, none⟩ ∧ g < B ∧ ∀ j u, (rv gs)[j]? = some u → w.cell? ⟨g, j, none⟩ = some u)
theorem Rules.under {w w' : World} {v : Value} {gs : List Rl} (h : Rules w v gs) (hb : Below w.heap.size w w') : RulesU w.heap.size w' v gs := by
  obtain ⟨A, c, hv, h | ⟨g, hA, hg, hc⟩⟩ := h
  · exact ⟨A, c, hv, .inl h⟩
  · exact ⟨A, c, hv, .inr ⟨g, hA, hg, fun j u hu => (hb.cell (p := ⟨g, j, none⟩) hg).trans (hc j u hu)⟩⟩
/-- what a memory may hold -/
def MemOk (V : Nat → Int) (mem : List Int) : Prop := ∀ k, k < mem.length → mem.getD k 0 = 0 ∨ mem.getD k 0 = V k
theorem MemOk.set {V : Nat → Int} {mem : List Int} (h : MemOk V mem) (k : Nat) : MemOk V (mem.set k (V k)) := by
  intro j hj
  have hj' : j < mem.length := by simpa using hj
  by_cases e : k = j
  · subst e; right; simp [List.getD_eq_getElem?_getD, hj']
  · have := h j hj'
    simpa [List.getD_eq_getElem?_getD, List.getElem?_set_ne e] using this
theorem MemOk.zero (V : Nat → Int) (n : Nat) : MemOk V (List.replicate n 0) := by
  intro k hk; left
  simp at hk
  simp [List.getD_eq_getElem?_getD, hk]
end Wd

/-- the closure, and what it has captured -/
abbrev measV (bm br bj bf : Nat) : Value := .func (.func 226) #[] #[.pointer (some ⟨bm, 0, none⟩), .pointer (some ⟨br, 0, none⟩), .pointer (some ⟨bj, 0, none⟩), .pointer (some ⟨bf, 0, none⟩)]
/-- the captured variables, and the memory -/
structure MeasSt (B bm br bj bf M : Nat) (jv : Value) (gs : List Rl) (w : World) : Prop where
  m : w.cell? ⟨bm, 0, none⟩ = some (.slice (some ⟨M, 0, none⟩) gs.length gs.length)
  r : ∃ v, w.cell? ⟨br, 0, none⟩ = some v ∧ RulesU B w v gs
  j : w.cell? ⟨bj, 0, none⟩ = some jv
  f : w.cell? ⟨bf, 0, none⟩ = some (measV bm br bj bf)
  nm : bm ≠ M
  nr : br ≠ M
  nj : bj ≠ M
  nf : bf ≠ M
  hB : B ≤ M
  hs : B ≤ w.heap.size
theorem MeasSt.kept {B bm br bj bf M : Nat} {jv : Value} {gs : List Rl} {w w' : World} (h : MeasSt B bm br bj bf M jv gs w) (hg : w.grownBy w' (some M)) : MeasSt B bm br bj bf M jv gs w' := by
  have hcell : ∀ (b o : Nat) v, b ≠ M → w.cell? ⟨b, o, none⟩ = some v → w'.cell? ⟨b, o, none⟩ = some v := fun b o v hne hc => by
    rw [World.cell?_of_block (a := ⟨b, o, none⟩) (hg.block b (lt_of_cell hc) (fun e => hne (by injection e)))]; exact hc
  obtain ⟨v, hv, A, c, rfl, hr⟩ := h.r
  refine ⟨hcell _ _ _ h.nm h.m, ⟨_, hcell _ _ _ h.nr hv, A, c, rfl, ?_⟩, hcell _ _ _ h.nj h.j, hcell _ _ _ h.nf h.f, h.nm, h.nr, h.nj, h.nf, h.hB, Nat.le_trans h.hs hg.size⟩
  rcases hr with hr | ⟨g, hA, hg', hc⟩
  · exact .inl hr
  · exact .inr ⟨g, hA, hg', fun j u hu => hcell _ _ _ (by have := h.hB; omega) (hc j u hu)⟩

/-- what a measuring leaves -/
def MeasPost (B M : Nat) (gs : List Rl) (V : Nat → Int) (k : Nat) (w : World) (e : Ending) (w' : World) : Prop :=
  e = .returned (.int .i64 (V k)) ∧ (∃ mem : List Int, mem.length = gs.length ∧ MemOk V mem ∧ w'.ownsRow B 2 1 (.slice (some ⟨M, 0, none⟩) gs.length gs.length) gs.length (iv mem)) ∧ w.grownBy w' (some M)

set_option maxRecDepth 100000 in
set_option maxHeartbeats 3200000 in
/-- a measure that is known -/
theorem meas_known (B bm br bj bf M : Nat) (jv : Value) (gs : List Rl) (V : Nat → Int) (k : Nat) (w : World) (hk : k < gs.length) (hn : gs.length ≤ 1048576) (hst : MeasSt B bm br bj bf M jv gs w)
    (mem : List Int) (hl : mem.length = gs.length) (hm : MemOk V mem) (hown : w.ownsRow B 2 1 (.slice (some ⟨M, 0, none⟩) gs.length gs.length) gs.length (iv mem)) (h1 : 0 < V k) (h2 : mem.getD k 0 = V k) :
    Calls Try.prog 226 #[.int .i64 k, .pointer (some ⟨bm, 0, none⟩), .pointer (some ⟨br, 0, none⟩), .pointer (some ⟨bj, 0, none⟩), .pointer (some ⟨bf, 0, none⟩)] w (MeasPost B M gs V k w) := by
  have HP : Hid (MeasPost B M gs V k w (.returned (.int .i64 (V k))) w) := Lib.hid ⟨rfl, ⟨mem, hl, hm, hown⟩, World.grownBy.refl _ _⟩
  have hc : w.cell? ⟨M, k, none⟩ = some (.int .i64 (V k)) := by
    rw [hown.cellAt k (by omega)]
    simp only [iv, List.getElem?_map]
    rw [List.getD_eq_getElem?_getD, List.getElem?_eq_getElem (by omega), Option.getD_some] at h2
    rw [List.getElem?_eq_getElem (by omega), Option.map_some, h2]
  have hm1 := hst.m
  generalize V k = z at *
  generalize gs.length = n at *
  clear hown hm hl hst h2
  go_enter Try.func226, Try.ntmps226
  go_wp2_with fail
  go_ret
  exact HP.out
theorem iv_at {mem : List Int} {k : Nat} (h : k < mem.length) : (iv mem)[k]? = some (.int .i64 (mem.getD k 0)) := by
  simp only [iv, List.getElem?_map]
  rw [List.getD_eq_getElem?_getD, List.getElem?_eq_getElem h, Option.getD_some, Option.map_some]
theorem iv_setk (mem : List Int) (k : Nat) (z : Int) : iv (mem.set k z) = (iv mem).set k (.int .i64 z) := by simp [iv, List.map_set]
theorem gbOf {w w' : World} (h : Below w.heap.size w w') (row : Option Nat) : w.grownBy w' row := ⟨h.os, h.tape, h.output, h.size, fun i hi _ => h.block i hi⟩
theorem gbTrans {a b c : World} {row : Option Nat} (h : a.grownBy b row) (h' : b.grownBy c row) : a.grownBy c row :=
  ⟨h'.os.trans h.os, h'.tape.trans h.tape, h'.output.trans h.output, Nat.le_trans h.size h'.size, fun i hi hne => (h'.block i (Nat.lt_of_lt_of_le hi h.size) hne).trans (h.block i hi hne)⟩
theorem only_alloc {a w : World} {row : Option Nat} (h : a.grownBy w row) (o : Obj) : a.grownBy (w.alloc o) row :=
  ⟨h.os, h.tape, h.output, Nat.le_trans h.size (by simp), fun i hi hne => (Below.heap_alloc w o i (Nat.lt_of_lt_of_le hi h.size)).trans (h.block i hi hne)⟩

set_option maxRecDepth 100000 in
set_option maxHeartbeats 3200000 in
/-- a letter -/
theorem meas_letter (B bm br bj bf M : Nat) (jv : Value) (gs : List Rl) (V : Nat → Int) (k : Nat) (w : World) (hk : k < gs.length) (hn : gs.length ≤ 1048576) (hst : MeasSt B bm br bj bf M jv gs w)
    (mem : List Int) (hl : mem.length = gs.length) (hm : MemOk V mem) (hown : w.ownsRow B 2 1 (.slice (some ⟨M, 0, none⟩) gs.length gs.length) gs.length (iv mem)) (h1 : V k = 1) (h2 : mem.getD k 0 = 0) (h0 : gs[k].L.size ≠ 0) :
    Calls Try.prog 226 #[.int .i64 k, .pointer (some ⟨bm, 0, none⟩), .pointer (some ⟨br, 0, none⟩), .pointer (some ⟨bj, 0, none⟩), .pointer (some ⟨bf, 0, none⟩)] w (MeasPost B M gs V k w) := by
  have hc : w.cell? ⟨M, k, none⟩ = some (.int .i64 0) := by
    rw [hown.cellAt k (by omega), iv_at (by omega), h2]
  have hm1 := hst.m
  obtain ⟨v, hv, A, c, rfl, hr⟩ := hst.r
  rcases hr with hr | ⟨g, rfl, hg, hcc⟩
  · rw [hr] at hk; simp at hk
  obtain ⟨a0, a1, a2⟩ := rules_cells hcc hk
  have HK := Lib.hid (fun W => kind_letter gs[k] h0 W)
  have HTA := ta_ll
  have H1 := Lib.hid h1
  have HL := Lib.hid hl
  have HM := Lib.hid hm
  obtain ⟨n, hng⟩ : ∃ n, n = gs.length := ⟨_, rfl⟩
  have HN := Lib.hid hng
  have hkn : k < n := by omega
  rw [← hng] at hm1 hv hn
  clear hng hcc h2 h1 hl hm
  go_enter Try.func226, Try.ntmps226
  go_wp2_with fail
  refine (HK.out _).mono ?_
  rintro e w1 ⟨rfl, hB1⟩
  have l1 := lt_of_cell hm1
  have l2 := lt_of_cell hc
  have d1 := (hB1.cell (p := ⟨bm, 0, none⟩) l1).trans hm1
  have d2 := (hB1.cell (p := ⟨M, k, none⟩) l2).trans hc
  have hown1 := own_below hown hB1 (Nat.le_refl _)
  have f2 : w1.frozen? ⟨M, k, none⟩ = false := by rw [← HN.out] at hown1; exact hown1.frozenAt _
  have l3 : bm < w1.heap.size := Nat.lt_of_lt_of_le l1 hB1.size
  have l4 : M < w1.heap.size := Nat.lt_of_lt_of_le l2 hB1.size
  have HP : Hid (∀ o : Obj, MeasPost B M gs V k w (.returned (.int .i64 1)) ((w1.setCell ⟨M, k, none⟩ (.int .i64 1)).alloc o)) := Lib.hid fun o => by
    obtain ⟨h5, h6⟩ := hown1.stored k (.int .i64 1)
    refine ⟨by rw [H1.out], ⟨mem.set k (V k), by simpa using HL.out, HM.out.set k, ?_⟩, ?_⟩
    · rw [H1.out, iv_setk]; exact World.ownsRow.alloc h5 o
    · exact only_alloc (gbTrans (gbOf hB1 (some M)) h6) o
  have d3 : (w1.setCell ⟨M, k, none⟩ (.int .i64 1)).cell? ⟨bm, 0, none⟩ = some (.slice (some ⟨M, 0, none⟩) n n) := by
    rw [World.cell?_setCell_other _ _ _ _ (fun e => hst.nm (congrArg Addr.block e).symm)]; exact d1
  have d4 : (w1.setCell ⟨M, k, none⟩ (.int .i64 1)).cell? ⟨M, k, none⟩ = some (.int .i64 1) := World.cell?_setCell_same _ _ _ d2
  clear hown hown1 a0 a1 a2 hv hc hm1 hst hB1 l1 l2
  go_wp2_with fail
  go_ret
  exact HP.out _
/-- all that a measuring wants, and keeps -/
def MInv (B bm br bj bf M : Nat) (jv : Value) (gs : List Rl) (V : Nat → Int) (w : World) : Prop :=
  MeasSt B bm br bj bf M jv gs w ∧ ∃ mem : List Int, mem.length = gs.length ∧ MemOk V mem ∧ w.ownsRow B 2 1 (.slice (some ⟨M, 0, none⟩) gs.length gs.length) gs.length (iv mem)
theorem MeasSt.drewN {B bm br bj bf M : Nat} {jv : Value} {gs : List Rl} {w : World} (h : MeasSt B bm br bj bf M jv gs w) (n : Nat) : MeasSt B bm br bj bf M jv gs (w.drewN n) :=
  ⟨h.m, h.r, h.j, h.f, h.nm, h.nr, h.nj, h.nf, h.hB, h.hs⟩
theorem MInv.drewN {B bm br bj bf M : Nat} {jv : Value} {gs : List Rl} {V : Nat → Int} {w : World} (h : MInv B bm br bj bf M jv gs V w) (n : Nat) : MInv B bm br bj bf M jv gs V (w.drewN n) :=
  ⟨h.1.drewN n, h.2⟩
theorem MInv.below {B bm br bj bf M : Nat} {jv : Value} {gs : List Rl} {V : Nat → Int} {w w' : World} (h : MInv B bm br bj bf M jv gs V w) (hb : Below w.heap.size w w') : MInv B bm br bj bf M jv gs V w' := by
  obtain ⟨h1, mem, h2, h3, h4⟩ := h
  exact ⟨h1.kept (gbOf hb _), mem, h2, h3, own_below h4 hb (Nat.le_refl _)⟩
theorem MeasPost.inv {B bm br bj bf M : Nat} {jv : Value} {gs : List Rl} {V : Nat → Int} {k : Nat} {w w' : World} {e : Ending} (h : MeasPost B M gs V k w e w') (h1 : MeasSt B bm br bj bf M jv gs w) :
    e = .returned (.int .i64 (V k)) ∧ MInv B bm br bj bf M jv gs V w' ∧ w.grownBy w' (some M) :=
  ⟨h.1, ⟨h1.kept h.2.2, h.2.1⟩, h.2.2⟩
theorem MInv.slot {B bm br bj bf M : Nat} {jv : Value} {gs : List Rl} {V : Nat → Int} {w : World} (h : MInv B bm br bj bf M jv gs V w) {k : Nat} (hk : k < gs.length) :
    (∃ z, w.cell? ⟨M, k, none⟩ = some (.int .i64 z)) ∧ w.frozen? ⟨M, k, none⟩ = false := by
  obtain ⟨h1, mem, h2, h3, h4⟩ := h
  exact ⟨⟨_, by rw [h4.cellAt k (by omega)]; exact iv_at (by omega)⟩, h4.frozenAt _⟩
theorem MInv.store {B bm br bj bf M : Nat} {jv : Value} {gs : List Rl} {V : Nat → Int} {w : World} (h : MInv B bm br bj bf M jv gs V w) {k : Nat} :
    MInv B bm br bj bf M jv gs V (w.setCell ⟨M, k, none⟩ (.int .i64 (V k))) ∧ w.grownBy (w.setCell ⟨M, k, none⟩ (.int .i64 (V k))) (some M) := by
  obtain ⟨h1, mem, h2, h3, h4⟩ := h
  obtain ⟨h5, h6⟩ := h4.stored k (.int .i64 (V k))
  exact ⟨⟨h1.kept h6, mem.set k (V k), by simpa using h2, h3.set k, by rw [iv_setk]; exact h5⟩, h6⟩

theorem MInv.held {B bm br bj bf M K n : Nat} {jv : Value} {gs : List Rl} {V : Nat → Int} {w w' : World} {a b : Int} (h : MInv B bm br bj bf M jv gs V w') (hg : w.grownBy w' (some M)) (hn : n = gs.length) (hK : K ≠ M)
    (h1 : w.cell? ⟨K, 1, none⟩ = some (.int .i64 a)) (h2 : w.cell? ⟨K, 2, none⟩ = some (.int .i64 b)) :
    w'.cell? ⟨bm, 0, none⟩ = some (.slice (some ⟨M, 0, none⟩) n n) ∧ w'.cell? ⟨bj, 0, none⟩ = some jv ∧ w'.cell? ⟨bf, 0, none⟩ = some (measV bm br bj bf) ∧ w'.cell? ⟨K, 1, none⟩ = some (.int .i64 a) ∧ w'.cell? ⟨K, 2, none⟩ = some (.int .i64 b) := by
  have hcell : ∀ (o : Nat) v, w.cell? ⟨K, o, none⟩ = some v → w'.cell? ⟨K, o, none⟩ = some v := fun o v hc => by
    rw [World.cell?_of_block (a := ⟨K, o, none⟩) (hg.block K (lt_of_cell hc) (fun e => hK (by injection e)))]; exact hc
  exact ⟨by rw [hn]; exact h.1.m, h.1.j, h.1.f, hcell _ _ h1, hcell _ _ h2⟩
theorem grownBy_drewN {a w : World} {row : Option Nat} (h : a.grownBy w row) (n : Nat) : a.grownBy (w.drewN n) row := ⟨h.os, h.tape, h.output, h.size, h.block⟩
theorem grownBy_undrew {a w : World} {row : Option Nat} {n : Nat} (h : (a.drewN n).grownBy w row) : a.grownBy w row := ⟨h.os, h.tape, h.output, h.size, h.block⟩

/-- a measuring at a number -/
abbrev MeasCalls (B bm br bj bf M : Nat) (jv : Value) (gs : List Rl) (V : Nat → Int) (k : Nat) (w : World) : Prop :=
  Calls Try.prog 226 #[.int .i64 k, .pointer (some ⟨bm, 0, none⟩), .pointer (some ⟨br, 0, none⟩), .pointer (some ⟨bj, 0, none⟩), .pointer (some ⟨bf, 0, none⟩)] w
    fun e w' => e = .returned (.int .i64 (V k)) ∧ MInv B bm br bj bf M jv gs V w' ∧ w.grownBy w' (some M)

end Go.Proofs.Ytaffachjopjbgaa
