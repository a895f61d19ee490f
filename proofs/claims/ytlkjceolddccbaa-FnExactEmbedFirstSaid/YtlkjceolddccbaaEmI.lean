/-
  Walk: impl.embedded.
-/
import Derived.Test.YtlkjceolddccbaaNum
import Derived.Test.YtlkjceolddccbaaTaK
import Derived.Test.YtlkjceolddccbaaTaJ
import Derived.Test.YtlkjceolddccbaaEmS
import Derived.Scope
import Derived.WalkMore
namespace Go.Proofs.Ytlkjceolddccbaa
open Go.RowKit Go.Shelf
open Wd
set_option linter.unusedVariables false
attribute [local go_sem] Oper.semAt_some
namespace Wd
/-- 'embL' over the letters' numbers -/
def embN (gs : List Rl) : List Nat → Int → List Int
  | [], _ => []
  | d :: ds, fr => if totT gs d ≤ rkAt gs d fr then [] else selF gs d gs.length (gs.length - 1) (rkAt gs d fr) :: embN gs ds (selF gs d gs.length (gs.length - 1) (rkAt gs d fr) + 1)
theorem embL_N (gs : List Rl) : ∀ (l : List UInt8) (fr : Int), embL gs l fr = embN gs (l.map fun c => c.toNat - 97) fr
  | [], _ => rfl
  | c :: l, fr => by
    rw [embL, List.map_cons, embN]
    split
    · rfl
    · rw [embL_N gs l]
theorem letN_all {s : ByteArray} (hok : okL s.data.toList = true) : (letN s s.size).map Fin.val = s.data.toList.map fun c => c.toNat - 97 := by
  apply List.ext_getElem
  · simp [letN]
  · intro i h1 h2
    have hi : i < s.size := by simpa [letN] using h1
    obtain ⟨h4, _⟩ := noAt_lt hok hi
    have he := noAt_eq hi
    simp only [letN, List.getElem_map, List.getElem_range, noF]
    rw [Nat.mod_eq_of_lt h4, he]
    rfl
end Wd
theorem wpIn_seq_scopeE {n : Nat} {P : Program} {x c : Code} {Q : Exit → Act → World → Prop} {a : Act} {w : World} (h : x.wpIn Fence.wide n P (Exit.then (c.wpIn Fence.wide n P (Exit.noGoto Q)) (Exit.noGoto Q)) a w) : (x.seq (.scope c)).wpIn Fence.wide n P Q a w := by
  refine wpIn_seq (wpIn_mono h fun e a' w' hq => ?_)
  cases e with
  | normal => exact wpIn_wide.2 (wp_scope_straight (wpIn_wide.1 hq))
  | goto l => exact hq.elim
  | exit id => exact hq
  | ret => exact hq
  | panic ch => exact hq
  | outgrown => exact hq
theorem wpListIn_load_rowD {F : Fence} {n : Nat} {P : Program} {ops : Array Oper} {rest : List Oper} {o : Oper} {a : Act} {w : World} {Q : Exit → Act → World → Prop} {d : TypeDesc} (hd : rowD d = true) (hgd : o.guard = none) (ty : TypeId) (x : Operand) (ho : o.op = .load ty x)
    (g : Nat) (hx : a.eval x = .pointer (some ⟨g, 0, none⟩)) (t : TypeId) (cs : Array Value) (fr : Nat × Nat) (hg : w.heap[g]? = some (.cells cs t fr))
    (hu : P.underlying ty = some d) (hi : (P.info? ty).map (·.size) = some cs.size)
    (h : wpListIn F n P ops Q rest (a.put o.dst (.agg cs)) w) : wpListIn F n P ops Q (o :: rest) a w := by
  refine wpListIn_plain hgd fun K hK => ?_
  unfold Oper.wpIn
  refine ⟨by simp [Oper.about, ho], ?_⟩
  rw [Oper.semAt_plain F _ _ (by rw [ho]; intro c hc'; cases hc')]
  unfold execOp
  simp only [ho, hx, Instr.loadAt, Instr.sureAddr, Sem.run_bind, Sem.run_pure, Result.andThen_ok, load_row' w g t ty cs fr d hd hg hu hi]
  exact hK _ _ h
theorem block_kept {X Y : World} {row : Option Nat} {B : Nat} {cs : Array Value} {t : TypeId} {fr : Nat × Nat} (h : X.heap[B]? = some (.cells cs t fr)) (hg : X.grownBy Y row) (hrow : ∀ r, row = some r → ∃ o : Obj, X.heap[r]? = some o ∧ o.isCells = false) : Y.heap[B]? = some (.cells cs t fr) :=
  (grownBy_keeps_cells hg hrow h rfl).trans h
theorem row_kept {X Y : World} {row : Option Nat} {base e size k : Nat} {v : Value} {xs : List Value} (hr : X.ownsRow base e size v k xs) (hg : X.grownBy Y row) (hrow : ∀ r, row = some r → ∃ o : Obj, X.heap[r]? = some o ∧ o.isCells = false) : Y.ownsRow base e size v k xs := by
  refine hr.kept hg ?_
  rcases hr.2 with ⟨rfl, _⟩ | ⟨g, cap, cur, rfl, _, hgb, _⟩
  · exact .inl rfl
  · refine .inr fun e' => ?_
    obtain ⟨o, ho, hc⟩ := hrow g (by simpa [Value.ownBlock] using e'.symm)
    rw [hgb] at ho; cases ho; cases hc
/-- the list so far: the literal, or a row of the loop's own -/
def EmOv (B lit : Nat) (ov : Value) (done : List Int) (W : World) : Prop :=
  ((done = [] ∧ ov = .slice (some ⟨lit, 0, none⟩) 0 0) ∧ W.ownsRow lit 2 1 ov done.length (iv done)) ∨ W.ownsRow B 2 1 ov done.length (iv done)
theorem EmOv.own {B lit : Nat} {ov : Value} {done : List Int} {X Y : World} {row : Option Nat} (h : EmOv B lit ov done X) (hg : X.grownBy Y row) (hrow : ∀ r, row = some r → ∃ o : Obj, X.heap[r]? = some o ∧ o.isCells = false) : EmOv B lit ov done Y := by
  rcases h with ⟨h0, h⟩ | h
  · exact .inl ⟨h0, row_kept h hg hrow⟩
  · exact .inr (row_kept h hg hrow)
theorem EmOv.low {B lit lo : Nat} {ov : Value} {done : List Int} {W : World} (h : EmOv B lit ov done W) (h1 : lo ≤ lit) (h2 : lo ≤ B) : W.ownsRow lo 2 1 ov done.length (iv done) := by
  rcases h with ⟨_, h⟩ | h
  · exact own_lower h h1
  · exact own_lower h h2
theorem wpListIn_append_em {F : Fence} {n : Nat} {ops : Array Oper} {rest : List Oper} {o : Oper} {a : Act} {w : World} {Q : Exit → Act → World → Prop}
    (hg : o.guard = none) (s x : Operand) (hop : o.op = Op.call { callee := Callee.builtin Builtin.append, args := #[s, x], argTypes := #[53, 53] })
    (B lit : Nat) (ov : Value) (done : List Int) (hs : a.eval s = ov) (hov : EmOv B lit ov done w) (ad : Addr) (z : Int) (hx : a.eval x = .slice (some ad) 1 1)
    (hc : ∀ j u, [Value.int .i64 z][j]? = some u → w.cell? (ad.add j) = some u) (b1 : done.length ≤ 100000) (b3 : B ≤ w.heap.size)
    (hK : ∀ v' w' row, w'.ownsRow B 2 1 v' (done.length + 1) (iv (done ++ [z])) → w.grownBy w' row → (∀ j, row = some j → B ≤ j) → (∀ j o, row = some j → w.heap[j]? = some o → o.isCells = true) → wpListIn F n Try.prog ops Q rest (a.put o.dst v') w') :
    wpListIn F n Try.prog ops Q (o :: rest) a w := by
  obtain ⟨j0, hj, hy0, hy1, hy2⟩ := info_parts Try.info_i64
  refine wpListIn_plain hg fun K hK' => ?_
  have h1c : ∀ u ∈ [Value.int .i64 z], u.oneCell' = true := by intro u hu; simp at hu; subst hu; rfl
  have hend : ∀ v' w', (Builtin.append_ #[53, 53] o.type #[ov, .slice (some ad) 1 1]).run Try.prog w = .ok v' w' → K (a.put o.dst v') w' → o.wpIn F n Try.prog a w K Q := fun v' w' hrun hk => by
    unfold Oper.wpIn
    refine ⟨?_, ?_⟩
    · simp [Oper.about, hop, resolve, Target.leads, Sem.run_pure]
    · rw [Oper.semAt_plain F _ _ (by rw [hop]; intro c hc'; cases hc')]
      simp [execOp, hop, resolve, invoke, builtin, hs, hx, hrun, Result.andThen]
      exact hk
  rcases hov with ⟨⟨rfl, rfl⟩, _⟩ | hov
  · obtain ⟨v', w', hrun, r1, r2⟩ := run_append_arg_grows (P := Try.prog) w 53 o.type 2 j0 (.int .i64 0) 1 8 Try.underlying53 hj hy0 hy1 hy2 rfl (by decide) ⟨lit, 0, none⟩ 0 0 [] rfl (by intro j u h; simp at h) ad 1 1 [.int .i64 z] rfl hc (by omega) (by unfold maxLen; omega) (by omega)
    exact hend v' w' hrun (hK' _ _ (hK v' w' none (own_lower r1 b3) r2 (fun j e => by cases e) (fun j o e => by cases e)))
  · obtain ⟨v', w', hrun, r1, r2, r3⟩ := run_append_own (P := Try.prog) w B 53 o.type 2 j0 (.int .i64 0) 1 8 Try.underlying53 hj hy0 hy1 hy2 rfl (by decide) ov done.length (iv done) hov ad 1 1 [.int .i64 z] rfl hc h1c (by unfold maxLen; omega) (by omega) b3
    refine hend v' w' hrun (hK' _ _ (hK v' w' ov.ownBlock (by rw [iv_app]; exact r1) r2 (fun j e => (hov.lt j e).1) (fun j o' e hj' => ?_)))
    rcases hov.2 with ⟨rfl, _⟩ | ⟨g, cap, cur, rfl, _, hgb, _⟩
    · simp [Value.ownBlock] at e
    · obtain rfl : g = j := by simpa [Value.ownBlock] using e
      rw [hgb] at hj'; cases hj'; rfl
/-- what the loop's body keeps in memory -/
def EmMem (w0 : World) (fc : Array Value) (s : ByteArray) (ov : Value) (done : List Int) (fr : Int) (W : World) : Prop :=
  Boxed W (w0.heap.size + 2) 53 ov ∧ EmOv (w0.heap.size + 5) (w0.heap.size + 1) ov done W ∧ Boxed W (w0.heap.size + 3) 2 (.int .i64 fr) ∧
  W.heap[w0.heap.size]? = some (.cells fc 108 (0, 0)) ∧ W.heap[w0.heap.size + 4]? = some (.cells #[.string s] 9 (0, 0))
theorem EmMem.own {w0 : World} {fc : Array Value} {s : ByteArray} {ov : Value} {done : List Int} {fr : Int} {X Y : World} {row : Option Nat} (h : EmMem w0 fc s ov done fr X) (hg : X.grownBy Y row) (hrow : ∀ r, row = some r → ∃ o : Obj, X.heap[r]? = some o ∧ o.isCells = false) : EmMem w0 fc s ov done fr Y :=
  ⟨block_kept h.1 hg hrow, h.2.1.own hg hrow, block_kept h.2.2.1 hg hrow, block_kept h.2.2.2.1 hg hrow, block_kept h.2.2.2.2 hg hrow⟩
theorem EmMem.below {w0 : World} {fc : Array Value} {s : ByteArray} {ov : Value} {done : List Int} {fr : Int} {X Y : World} (h : EmMem w0 fc s ov done fr X) (hb : Below X.heap.size X Y) : EmMem w0 fc s ov done fr Y :=
  h.own (row := none) ⟨hb.os, hb.tape, hb.output, hb.size, fun i hi _ => hb.block i hi⟩ (fun r e => by cases e)
/-- behind the append and the two stores -/
theorem EmMem.step {w0 : World} {fc : Array Value} {s : ByteArray} {ov v' : Value} {done : List Int} {fr z q : Int} {X Y : World} {tmp : Obj} {row : Option Nat} (h : EmMem w0 fc s ov done fr X) (hX : w0.heap.size + 5 ≤ X.heap.size) (hB : Below w0.heap.size w0 X)
    (hown : Y.ownsRow (w0.heap.size + 5) 2 1 v' (done.length + 1) (iv (done ++ [z]))) (hg : (X.alloc tmp).grownBy Y row) (hr1 : ∀ j, row = some j → w0.heap.size + 5 ≤ j) (hr2 : ∀ j o, row = some j → (X.alloc tmp).heap[j]? = some o → o.isCells = true) :
    (Boxed Y (w0.heap.size + 2) 53 ov ∧ Boxed (Y.setCell ⟨w0.heap.size + 2, 0, none⟩ v') (w0.heap.size + 3) 2 (.int .i64 fr)) ∧
    EmMem w0 fc s v' (done ++ [z]) q ((Y.setCell ⟨w0.heap.size + 2, 0, none⟩ v').setCell ⟨w0.heap.size + 3, 0, none⟩ (.int .i64 q)) ∧
    KeepsOthers X ((Y.setCell ⟨w0.heap.size + 2, 0, none⟩ v').setCell ⟨w0.heap.size + 3, 0, none⟩ (.int .i64 q)) ∧ Below w0.heap.size w0 ((Y.setCell ⟨w0.heap.size + 2, 0, none⟩ v').setCell ⟨w0.heap.size + 3, 0, none⟩ (.int .i64 q)) := by
  obtain ⟨m1, m2, m3, m4, m5⟩ := h
  have hk : ∀ b, b < w0.heap.size + 5 → Y.heap[b]? = X.heap[b]? := fun b hb => by
    rw [hg.block b (by simp; omega) (fun e => by have := hr1 b e.symm; omega)]
    exact Below.heap_alloc X tmp b (by omega)
  have n1 : Boxed Y (w0.heap.size + 2) 53 ov := (hk _ (by omega)).trans m1
  have n3 : Boxed Y (w0.heap.size + 3) 2 (.int .i64 fr) := (hk _ (by omega)).trans m3
  have n3' := n3.other (B' := w0.heap.size + 2) (by omega) v'
  have k1 := KeepsOthers.of_grownBy hg hr2
  refine ⟨⟨n1, n3'⟩, ⟨(n1.set v').other (by omega) _, .inr ?_, n3'.set _, ?_, ?_⟩, (((KeepsOthers.alloc X tmp).trans k1).trans (KeepsOthers.setCell _ _ _)).trans (KeepsOthers.setCell _ _ _), ?_⟩
  · rw [List.length_append]
    exact own_setLow (own_setLow hown _ _ (by simp)) _ _ (by simp)
  · rw [Below.heap_setCell _ _ _ _ (by simp), Below.heap_setCell _ _ _ _ (by simp), hk _ (by omega)]; exact m4
  · rw [Below.heap_setCell _ _ _ _ (by simp), Below.heap_setCell _ _ _ _ (by simp), hk _ (by omega)]; exact m5
  · exact (((hB.alloc hB.size tmp).grown hg (by have := hB.size; simp; omega) (fun j e => by have := hr1 j e; omega)).setCell (by simp) _).setCell (by simp) _
theorem keeps_below {X Y : World} (hb : Below X.heap.size X Y) : KeepsOthers X Y := KeepsOthers.of_grownBy (row := none) ⟨hb.os, hb.tape, hb.output, hb.size, fun i hi _ => hb.block i hi⟩ (fun j o e => by cases e)
/-- between two letters -/
def EmJ (w0 : World) (fc : Array Value) (s : ByteArray) (gs : List Rl) (pre : List (Fin 4)) (W : World) : Prop :=
  ∃ (fr : Int) (done : List Int) (ov : Value), (0 ≤ fr ∧ fr ≤ wordLen gs) ∧ done.length = pre.length ∧ (∀ rest, embN gs (pre.map Fin.val ++ rest) 0 = done ++ embN gs rest fr) ∧ EmMem w0 fc s ov done fr W
/-- where a letter is not met any more -/
def EmX (w0 : World) (fc : Array Value) (s : ByteArray) (gs : List Rl) (c : Code) (pre : List (Fin 4)) (W : World) : Prop :=
  c = .exit 0 ∧ ∃ (fr : Int) (done : List Int) (ov : Value), (∀ rest, embN gs (pre.map Fin.val ++ rest) 0 = done) ∧ EmMem w0 fc s ov done fr W
theorem heap5 (w : World) (a b c d e : Obj) : (((((w.alloc a).alloc b).alloc c).alloc d).alloc e).heap[w.heap.size]? = some a ∧ (((((w.alloc a).alloc b).alloc c).alloc d).alloc e).heap[w.heap.size + 1]? = some b ∧ (((((w.alloc a).alloc b).alloc c).alloc d).alloc e).heap[w.heap.size + 2]? = some c ∧ (((((w.alloc a).alloc b).alloc c).alloc d).alloc e).heap[w.heap.size + 3]? = some d ∧ (((((w.alloc a).alloc b).alloc c).alloc d).alloc e).heap[w.heap.size + 4]? = some e := by
  have k := fun (W : World) (o : Obj) (i : Nat) (h : i < W.heap.size) => ((Below.refl _ W).alloc (Nat.le_refl _) o).block i h
  have n1 := heap_alloc_new w a
  have n2 := heap_alloc_new (w.alloc a) b
  have n3 := heap_alloc_new ((w.alloc a).alloc b) c
  have n4 := heap_alloc_new (((w.alloc a).alloc b).alloc c) d
  have n5 := heap_alloc_new ((((w.alloc a).alloc b).alloc c).alloc d) e
  simp only [World.size_alloc] at n2 n3 n4 n5
  refine ⟨?_, ?_, ?_, ?_, n5⟩
  · rw [k _ e _ (by first | (simp; done) | (simp; omega)), k _ d _ (by first | (simp; done) | (simp; omega)), k _ c _ (by first | (simp; done) | (simp; omega)), k _ b _ (by simp)]; exact n1
  · rw [k _ e _ (by first | (simp; done) | (simp; omega)), k _ d _ (by first | (simp; done) | (simp; omega)), k _ c _ (by simp)]; exact n2
  · rw [k _ e _ (by first | (simp; done) | (simp; omega)), k _ d _ (by simp)]; exact n3
  · rw [k _ e _ (by simp)]; exact n4
set_option maxRecDepth 100000 in
set_option maxHeartbeats 6400000 in
theorem embedded_any (fv gv : Value) (gs : List Rl) (s : ByteArray) (lo : Nat) (w : World) (hok : gOk gs = true) (hr : Rules w gv gs) (h : IsTa w lo fv gv gs) (hs : okL s.data.toList = true) :
    Calls Try.prog 82 #[fv, .string s] w fun e w' => ∃ y, e = .returned y ∧ OwnsI w' w.heap.size y (embL gs s.data.toList 0) ∧ Below w.heap.size w w' := by
  obtain ⟨j0, hj, hy0, hy1, hy2⟩ := info_parts Try.info_i64
  have hsz : s.size ≤ 2000 := by have := okL_len hs; simpa using this
  obtain ⟨E, hE⟩ : ∃ E, E = embL gs s.data.toList 0 := ⟨_, rfl⟩
  rw [← hE]
  have HE : Hid (embN gs ((letN s s.size).map Fin.val) 0 = E) := Lib.hid (by rw [letN_all hs, hE, embL_N])
  have HSO := Lib.hid (fun W => numbersOf_any s W)
  have HOKS := Lib.hid hs
  have HIS := Lib.hid h
  obtain ⟨A1, c1, A2, c2, rfl, _, _⟩ := h.shape
  have HRU := Lib.hid hr
  obtain ⟨A, c, rfl, _⟩ := hr
  have HOK := Lib.hid hok
  have hwl := wordLen_bd' hok
  clear hE hs h hok
  refine (callsIn_wide (n := 3)).1 ?_
  refine callsIn_of_wp_marks Try.func82 rfl trivial ?_ rfl
  simp only [Try.ntmps82, List.size_toArray, List.length_cons, List.length_nil, Nat.reduceAdd, Nat.reduceSub, Array.replicate_succ, Array.replicate_zero, List.push_toArray, List.append_toArray, List.nil_append, List.cons_append]
  refine wpIn_seq_scopeE ?_
  gi_wp2_with fail
  refine wpIn_label ?_
  gi_wp2_with fail
  refine ⟨trivial, (callsIn_wide.2 (HSO.out _)).mono ?_⟩
  rintro e w3 ⟨rfl, rfl⟩
  gi_wp2_with fail
  obtain ⟨d, hu, hd⟩ := und_taFold
  have HSF := size_taFold (.slice A gs.length c) (.slice A1 gs.length c1) (.slice A2 gs.length c2)
  have HPA : Hid (∀ fr W, 0 ≤ fr → fr ≤ wordLen gs → Below w.heap.size w W → Calls Try.prog 117 #[.agg (taAll (.slice A gs.length c) (.slice A1 gs.length c1) (.slice A2 gs.length c2)), .int .i64 0, .int .i64 fr] W fun e w' => e = .returned (.agg (taCs (taPart gs 0 fr))) ∧ Below W.heap.size W w') := Lib.hid (fun fr W h1 h2 hb => taPart_any _ _ gs 0 fr lo W HOK.out (HRU.out.kept hb) (HIS.out.kept hb) ⟨Int.le_refl _, h1, h2⟩)
  have HPL : Hid (∀ (x : Fin 4) k W, 0 ≤ k → k ≤ 9223372036854775807 → Below w.heap.size w W → Calls Try.prog 118 #[.agg (taAll (.slice A gs.length c) (.slice A1 gs.length c1) (.slice A2 gs.length c2)), .int .i64 (x.val : Int), .int .i64 k] W fun e w' => e = .returned (.tuple #[.int .i64 (shortT gs x.val k - 1), .bool (decide (k < totT gs x.val))]) ∧ Below W.heap.size W w') := Lib.hid (fun x k W h1 h2 hb => placeIn_any _ _ gs x.val k lo W HOK.out (HRU.out.kept hb) (HIS.out.kept hb) x.isLt ⟨h1, h2⟩)
  obtain ⟨fc, hfc⟩ : ∃ fc, fc = taAll (.slice A gs.length c) (.slice A1 gs.length c1) (.slice A2 gs.length c2) := ⟨_, rfl⟩
  rw [← hfc] at HPA HPL HSF ⊢
  clear hfc HIS
  have hb0 : Below w.heap.size w (((((w.alloc (.cells fc 108)).alloc (.cells #[] 2)).alloc (.cells #[.slice (some ⟨w.heap.size + 1, 0, none⟩) 0 0] 53)).alloc (.cells #[.int .i64 0] 2)).alloc (.cells #[.string s] 9)) := (((((Below.refl _ w).alloc (Nat.le_refl _) _).alloc (by simp) _).alloc (by simp; omega) _).alloc (by simp; omega) _).alloc (by simp; omega) _
  have hlit : (((((w.alloc (.cells fc 108)).alloc (.cells #[] 2)).alloc (.cells #[.slice (some ⟨w.heap.size + 1, 0, none⟩) 0 0] 53)).alloc (.cells #[.int .i64 0] 2)).alloc (.cells #[.string s] 9)).ownsRow (w.heap.size + 1) 2 1 (.slice (some ⟨w.heap.size + 1, 0, none⟩) 0 0) 0 (iv []) := by
    have h1 := World.ownsRow_lit (base := w.heap.size + 1) (e := 2) (size := 1) (w.alloc (.cells fc 108)) #[] 0 (by simp) (by decide) rfl
    rw [show (w.alloc (.cells fc 108)).heap.size = w.heap.size + 1 from by simp] at h1
    exact ((h1.alloc _).alloc _).alloc _
  obtain ⟨b0, b1, b2, b3, b4⟩ := heap5 w (.cells fc 108) (.cells #[] 2) (.cells #[.slice (some ⟨w.heap.size + 1, 0, none⟩) 0 0] 53) (.cells #[.int .i64 0] 2) (.cells #[.string s] 9)
  obtain ⟨W0, hW0⟩ : ∃ W0, W0 = (((((w.alloc (.cells fc 108)).alloc (.cells #[] 2)).alloc (.cells #[.slice (some ⟨w.heap.size + 1, 0, none⟩) 0 0] 53)).alloc (.cells #[.int .i64 0] 2)).alloc (.cells #[.string s] 9)) := ⟨_, rfl⟩
  have z0 : W0.heap.size = w.heap.size + 5 := by rw [hW0]; simp
  rw [← hW0] at hb0 hlit b0 b1 b2 b3 b4 ⊢
  clear hW0
  refine wpIn_rangeFunc_ownF rfl (by omega) (gf := 127) (lb := #[.pointer (some ⟨w.heap.size + 1 + 1 + 1 + 1, 0, none⟩)]) rfl trivial (enters_of Try.func127 (by kernel_rfl) rfl)
    (numbers_stops _ (by omega) (w.heap.size + 1 + 1 + 1 + 1) s W0 hsz HOKS.out (by omega) b4) kpN_t (kpN_b (by omega)) (Below.refl _ _) (fun _ => rfl)
    (fun pre W => EmJ w fc s gs pre W ∧ Below w.heap.size w W)
    (fun c pre W => EmX w fc s gs c pre W ∧ Below w.heap.size w W)
    (OwnFrom.and (Own.from (fun pre A B row hs hg hr => by obtain ⟨fr, done, ov, h1, h2, h3, h4⟩ := hs; exact ⟨fr, done, ov, h1, h2, h3, h4.own hg hr⟩) _) (ownFrom_below (Nat.le_refl _) (by omega)))
    (fun c => OwnFrom.and (Own.from (fun pre A B row hs hg hr => by obtain ⟨h0, fr, done, ov, h3, h4⟩ := hs; exact ⟨h0, fr, done, ov, h3, h4.own hg hr⟩) _) (ownFrom_below (Nat.le_refl _) (by omega)))
    ⟨⟨0, [], _, ⟨Int.le_refl _, hwl.1⟩, rfl, fun rest => rfl, b2, .inl ⟨⟨rfl, rfl⟩, hlit⟩, b3, b0, b4⟩, hb0⟩
    (fun x => { tmps := #[.agg fc, .string s, .pointer (some ⟨w.heap.size, 0, none⟩), undef, .slice none 0 0, .pointer (some ⟨w.heap.size + 1 + 1, 0, none⟩), .pointer (some ⟨w.heap.size + 1 + 1 + 1, 0, none⟩), .int .i64 (x.val : Int), undef, undef, undef, .slice (some ⟨w.heap.size + 1, 0, none⟩) 0 0, .string s, .func (.func 127) #[] #[.pointer (some ⟨w.heap.size + 1 + 1 + 1 + 1, 0, none⟩)], .int .i64 (x.val : Int), undef, undef, undef, undef, undef, undef, undef, undef, undef, undef, undef, undef, undef, undef, undef, undef, undef, undef, undef, undef, undef], defers := [] }) ?assign ?body ?done ?stop
  case assign =>
    intro l x W K hK
    gi_wp2
    exact hK
  case body =>
    rintro l pre x W ⟨⟨fr, done, ov, ⟨f0, f1⟩, hlen, hall, hmem⟩, hB⟩ hN
    have x4 := x.isLt
    have hX5 : w.heap.size + 5 ≤ W.heap.size := by
      have := (Array.getElem?_eq_some_iff.1 hmem.2.2.2.2).1
      omega
    have hrk := rkAt_nonneg HOK.out x4 fr
    have hri := rank_impl HOK.out x4 (n := fr) ⟨f0, f1⟩
    have hix := fun W => index_ta ((taPart gs 0 fr).getD 0 0) ((taPart gs 0 fr).getD 1 0) ((taPart gs 0 fr).getD 2 0) ((taPart gs 0 fr).getD 3 0) x.val x4 W
    have hgd : [(taPart gs 0 fr).getD 0 0, (taPart gs 0 fr).getD 1 0, (taPart gs 0 fr).getD 2 0, (taPart gs 0 fr).getD 3 0].getD x.val 0 = rkAt gs x.val fr := by
      have : (taPart gs 0 fr).length = 4 := by
        rcases Nat.eq_zero_or_pos gs.length with h0 | h0
        · have := wordLen_zero h0
          obtain rfl : fr = 0 := by omega
          unfold taPart
          rw [if_pos rfl]
          rfl
        · exact (taPart_ok HOK.out h0 0 fr).1
      rw [← four_of this]
      exact hri
    rw [hgd] at hix
    have hP := HPA.out fr W f0 f1 hB
    rw [show taCs (taPart gs 0 fr) = #[.int .i64 ((taPart gs 0 fr).getD 0 0), .int .i64 ((taPart gs 0 fr).getD 1 0), .int .i64 ((taPart gs 0 fr).getD 2 0), .int .i64 ((taPart gs 0 fr).getD 3 0)] from rfl] at hP
    have hNx : ∀ rest, embN gs ((pre ++ [x]).map Fin.val ++ rest) 0 = done ++ embN gs (x.val :: rest) fr := fun rest => by
      rw [List.map_append, List.append_assoc]
      exact hall _
    have HPL2 := Lib.hid (fun W' (h : Below w.heap.size w W') => HPL.out x (rkAt gs x.val fr) W' hrk.1 hrk.2 h)
    have HM := Lib.hid hmem
    have HB := Lib.hid hB
    by_cases htt : totT gs x.val ≤ rkAt gs x.val fr
    · have hdec : decide (rkAt gs x.val fr < totT gs x.val) = false := decide_eq_false (by omega)
      have HEND : Hid (∀ rest, embN gs ((pre ++ [x]).map Fin.val ++ rest) 0 = done) := Lib.hid (fun rest => by rw [hNx, embN, if_pos htt, List.append_nil])
      rw [hdec] at HPL2
      generalize rkAt gs x.val fr = rk at *
      generalize shortT gs x.val rk - 1 = pl at *
      obtain ⟨m1, m2, m3, m4, m5⟩ := hmem
      have m3c := m3.cell
      have HP := Lib.hid hP
      generalize (taPart gs 0 fr).getD 0 0 = x0 at *
      generalize (taPart gs 0 fr).getD 1 0 = x1 at *
      generalize (taPart gs 0 fr).getD 2 0 = x2 at *
      generalize (taPart gs 0 fr).getD 3 0 = x3 at *
      clear hP hdec htt hNx hall m2 hgd hri m5 hB
      gi_wp2_with (with_reducible refine wpListIn_load_rowD hd rfl 108 _ rfl w.heap.size rfl 108 _ _ m4 hu HSF ?_)
      refine ⟨trivial, (CallsIn.inRound l (callsIn_wide.2 HP.out)).mono ?_⟩
      rintro e w5 ⟨rfl, hB5⟩
      have m4' := (hB5.block _ (Array.getElem?_eq_some_iff.1 m4).1).trans m4
      have HB5 := Lib.hid (HB.out.trans (hB5.mono (by omega)))
      have HM5 := Lib.hid (HM.out.below hB5)
      have HK5 := Lib.hid (keeps_below hB5)
      have hs5 := hB5.size
      clear hB5 m4 m3c m1 m3
      gi_wp2_with (with_reducible refine wpListIn_load_rowD hd rfl 108 _ rfl w.heap.size rfl 108 _ _ m4' hu HSF ?_)
      refine ⟨trivial, (CallsIn.inRound l (callsIn_wide.2 (HPL2.out _ HB5.out))).mono ?_⟩
      rintro e w6 ⟨rfl, hB6⟩
      have HB6 := Lib.hid (HB5.out.trans (hB6.mono (by omega)))
      have HM6 := Lib.hid (HM5.out.below hB6)
      have HK6 := Lib.hid (HK5.out.trans (keeps_below hB6))
      clear hB6 m4'
      gi_wp2_with fail
      exact ⟨HK6.out, ⟨rfl, fr, done, ov, HEND.out, HM6.out⟩, HB6.out⟩
    · have hdec : decide (rkAt gs x.val fr < totT gs x.val) = true := decide_eq_true (by omega)
      have hg0 : 0 < gs.length := by
        rcases Nat.eq_zero_or_pos gs.length with h0 | h0
        · exfalso
          apply htt
          unfold totT
          rw [if_pos h0]
          exact hrk.1
        · exact h0
      have htl : rkAt gs x.val fr < (taAt gs (gs.length - 1)).getD x.val 0 := by
        have h := htt
        unfold totT at h
        rw [if_neg (by omega)] at h
        omega
      have hsb := Wd.sel_bd HOK.out x4 gs.length (gs.length - 1) (rkAt gs x.val fr) (by omega) (by omega) hrk.1 htl
      have hwl2 : wordLen gs = (lens gs).getD (gs.length - 1) 0 := rfl
      have hsh : shortT gs x.val (rkAt gs x.val fr) - 1 = selF gs x.val gs.length (gs.length - 1) (rkAt gs x.val fr) := by
        unfold shortT
        rw [if_neg htt]
        omega
      have hnx : ∀ rest, embN gs ((pre ++ [x]).map Fin.val ++ rest) 0 = (done ++ [selF gs x.val gs.length (gs.length - 1) (rkAt gs x.val fr)]) ++ embN gs rest (selF gs x.val gs.length (gs.length - 1) (rkAt gs x.val fr) + 1) := fun rest => by
        rw [hNx, embN, if_neg htt, List.append_assoc]
        rfl
      rw [hdec, hsh] at HPL2
      rw [← hwl2] at hsb
      generalize selF gs x.val gs.length (gs.length - 1) (rkAt gs x.val fr) = at' at *
      generalize rkAt gs x.val fr = rk at *
      have hwr : IntKind.i64.wrap (at' + 1) = at' + 1 := IntWalk.i64_in _ (by omega)
      have HNX := Lib.hid hnx
      have HF : Hid (0 ≤ at' + 1 ∧ at' + 1 ≤ wordLen gs) := Lib.hid ⟨by omega, by omega⟩
      have hdl : done.length ≤ 100000 := by omega
      have HDL : Hid ((done ++ [at']).length = (pre ++ [x]).length) := Lib.hid (by simp [hlen])
      obtain ⟨m1, m2, m3, m4, m5⟩ := hmem
      have m3c := m3.cell
      have HP := Lib.hid hP
      generalize (taPart gs 0 fr).getD 0 0 = x0 at *
      generalize (taPart gs 0 fr).getD 1 0 = x1 at *
      generalize (taPart gs 0 fr).getD 2 0 = x2 at *
      generalize (taPart gs 0 fr).getD 3 0 = x3 at *
      clear hP hdec htt hNx hall m2 hgd hri m5 hB hnx hsh hsb hwl2 htl hlen hN
      gi_wp2_with (with_reducible refine wpListIn_load_rowD hd rfl 108 _ rfl w.heap.size rfl 108 _ _ m4 hu HSF ?_)
      refine ⟨trivial, (CallsIn.inRound l (callsIn_wide.2 HP.out)).mono ?_⟩
      rintro e w5 ⟨rfl, hB5⟩
      have m4' := (hB5.block _ (Array.getElem?_eq_some_iff.1 m4).1).trans m4
      have HB5 := Lib.hid (HB.out.trans (hB5.mono (by omega)))
      have HM5 := Lib.hid (HM.out.below hB5)
      have HK5 := Lib.hid (keeps_below hB5)
      have hs5 := hB5.size
      clear hB5 m4 m3c m1 m3
      gi_wp2_with (with_reducible refine wpListIn_load_rowD hd rfl 108 _ rfl w.heap.size rfl 108 _ _ m4' hu HSF ?_)
      refine ⟨trivial, (CallsIn.inRound l (callsIn_wide.2 (HPL2.out _ HB5.out))).mono ?_⟩
      rintro e w6 ⟨rfl, hB6⟩
      have HB6 := Lib.hid (HB5.out.trans (hB6.mono (by omega)))
      have HM6 := Lib.hid (HM5.out.below hB6)
      have HK6 := Lib.hid (HK5.out.trans (keeps_below hB6))
      have hs6 := hB6.size
      have hx6 : w.heap.size + 5 ≤ w6.heap.size := by omega
      have o1 := HM6.out.1.cell
      clear hB6 m4'
      gi_wp2_with (gi_at_builtin; refine wpListIn_append_em rfl _ _ rfl (w.heap.size + 5) (w.heap.size + 1) ov done rfl (HM6.out.2.1.own (World.grownBy_alloc w6 _ none) (fun r e => by cases e)) ⟨w6.heap.size, 0, none⟩ at' rfl (one_new _ _ _) hdl (by simp; omega) ?_; intro v' w7 row hown' hgrow hr1 hr2; have HS := Lib.hid (HM6.out.step (q := at' + 1) hx6 HB6.out hown' hgrow hr1 hr2); obtain ⟨Av, cv, rfl⟩ := own_slice hown'; have n1 := HS.out.1.1.cell; have nf1 := HS.out.1.1.frozen; have n3 := HS.out.1.2.cell; have nf3 := HS.out.1.2.frozen; clear hown' hgrow hr1 hr2)
      have h4 := HS.out.2.1.2.2.2.2
      exact ⟨HK6.out.trans HS.out.2.2.1, ⟨h4.trans HM.out.2.2.2.2.symm, (HK6.out.trans HS.out.2.2.1).walks⟩, ⟨at' + 1, done ++ [at'], _, HF.out, HDL.out, HNX.out, HS.out.2.1⟩, HS.out.2.2.2⟩
  case done =>
    rintro D xs W hD rfl ⟨⟨fr, done, ov, hfr, hlen, hall, hmem⟩, hB⟩ hK
    clear hlen hfr
    have hE : done = E := by
      have := hall []
      rw [List.append_nil, HE.out] at this
      rw [this]
      simp [embN]
    subst hE
    obtain ⟨m1, m2, m3, m4, m5⟩ := hmem
    have m2' := m2.low (lo := w.heap.size) (by omega) (by omega)
    obtain ⟨Ao, co, rfl⟩ := own_slice m2'
    have q2 := m1.cell
    have HO := Lib.hid m2'
    clear hall m2 m2' m3 m4 m5
    gi_wp2
    refine ⟨by simp, .inl ⟨_, _, rfl, run_takeDeferred hK, ?_⟩⟩
    have hB' := hB.trans (belowK_b (w := w) (Nat.le_refl _) W D _ (.deferred none) (by omega) hK rfl rfl)
    refine ⟨.slice Ao done.length co, ?_, ⟨_, rfl, ownsRow_putObj HO.out _ hK rfl, hB'⟩⟩
    simp [results, Try.f82, go_sem]
  case stop =>
    rintro D c pre W hD ⟨m, hm, rfl⟩ ⟨⟨rfl, fr, done, ov, hall, hmem⟩, hB⟩ hK
    have hE : done = E := by
      obtain ⟨r, hr⟩ := letN_add s (m + 1) s.size (by omega)
      have := hall (r.map Fin.val)
      rw [← List.map_append, ← hr, HE.out] at this
      exact this.symm
    subst hE
    obtain ⟨m1, m2, m3, m4, m5⟩ := hmem
    have m2' := m2.low (lo := w.heap.size) (by omega) (by omega)
    obtain ⟨Ao, co, rfl⟩ := own_slice m2'
    have q2 := m1.cell
    have HO := Lib.hid m2'
    clear hall m2 m2' m3 m4 m5
    gi_wp2
    refine ⟨by simp, .inl ⟨_, _, rfl, run_takeDeferred hK, ?_⟩⟩
    have hB' := hB.trans (belowK_b (w := w) (Nat.le_refl _) W D _ (.deferred none) (by omega) hK rfl rfl)
    refine ⟨.slice Ao done.length co, ?_, ⟨_, rfl, ownsRow_putObj HO.out _ hK rfl, hB'⟩⟩
    simp [results, Try.f82, go_sem]
end Go.Proofs.Ytlkjceolddccbaa
