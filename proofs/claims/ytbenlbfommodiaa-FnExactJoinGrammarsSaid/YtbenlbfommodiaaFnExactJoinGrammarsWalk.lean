/-
  The walk of FnExactJoinGrammars: it returns true at every input.
-/
import Derived.Test.YtbenlbfommodiaaGJoinI
import Derived.Test.YtbenlbfommodiaaGramHd
namespace Go.Proofs.Ytbenlbfommodiaa.fnExactJoinGrammars
open Go.RowKit Wd
set_option linter.unusedVariables false

def CellsAt (w : World) (l : List (Nat × Value)) : Prop := ∀ p ∈ l, w.cell? ⟨p.1, 0, none⟩ = some p.2
theorem CellsAt.kept {w w' : World} {l : List (Nat × Value)} (h : CellsAt w l) (hb : Below w.heap.size w w') : CellsAt w' l := fun p hp => (hb.cell (p := ⟨p.1, 0, none⟩) (lt_of_cell (h p hp))).trans (h p hp)
theorem CellsAt.cons {w : World} {l : List (Nat × Value)} (h : CellsAt w l) {b : Nat} {v : Value} (hc : w.cell? ⟨b, 0, none⟩ = some v) : CellsAt w ((b, v) :: l) := fun p hp => by
  cases hp with
  | head => exact hc
  | tail _ hp => exact h p hp
theorem CellsAt.grown {w w' : World} {l : List (Nat × Value)} {row : Option Nat} (h : CellsAt w l) (hg : w.grownBy w' row) (hne : ∀ p ∈ l, some p.1 ≠ row) : CellsAt w' l := fun p hp => by
  rw [World.cell?_of_block (a := ⟨p.1, 0, none⟩) (hg.block p.1 (lt_of_cell (h p hp)) (hne p hp))]; exact h p hp
theorem CellsAt.lt {w : World} {l : List (Nat × Value)} (h : CellsAt w l) : ∀ p ∈ l, p.1 < w.heap.size := fun p hp => lt_of_cell (h p hp)
theorem var_set' {w : World} {b : Nat} {v : Value} {t : TypeId} (h : Var w b v t) (u : Value) : Var (w.setCell ⟨b, 0, none⟩ u) b u t := by
  unfold Var at h ⊢
  simp [World.setCell, Array.getElem?_modify, h]
/-- what lies in memory, all in one -/
def St (w : World) (l : List (Nat × Value)) (wr : World) : Prop := Below w.heap.size w wr ∧ CellsAt wr l
theorem St.below {w wr : World} {l : List (Nat × Value)} (h : St w l wr) : Below w.heap.size w wr := h.1
theorem St.alloc {w wr : World} {l : List (Nat × Value)} (h : St w l wr) (o : Obj) : St w l (wr.alloc o) := ⟨h.1.alloc h.1.size o, h.2.kept ((Below.refl _ wr).alloc (Nat.le_refl _) o)⟩
theorem St.drewN {w wr : World} {l : List (Nat × Value)} (h : St w l wr) (m : Nat) : St w l (wr.drewN m) := ⟨below_drewN h.1 m, h.2⟩
theorem St.call {w wr w' : World} {l : List (Nat × Value)} (h : St w l wr) (hb : Below wr.heap.size wr w') : St w l w' := ⟨h.1.trans (hb.mono h.1.size), h.2.kept hb⟩
theorem St.push {w wr : World} {l : List (Nat × Value)} (h : St w l wr) (v : Value) (t : TypeId) : St w ((wr.heap.size, v) :: l) (wr.alloc (.cells #[v] t)) := ⟨(h.alloc _).1, CellsAt.cons (h.alloc _).2 (cell_new _ _ _)⟩
theorem St.sub {w wr : World} {l l' : List (Nat × Value)} (h : St w l wr) (hl : ∀ p ∈ l', p ∈ l) : St w l' wr := ⟨h.1, fun p hp => h.2 p (hl p hp)⟩
theorem St.rebase {w wb wr : World} {l : List (Nat × Value)} (hb : Below w.heap.size w wb) (h : St wb l wr) : St w l wr := ⟨hb.trans (h.1.mono hb.size), h.2⟩
theorem St.grown {w wr w' : World} {l : List (Nat × Value)} {row : Option Nat} (h : St w l wr) (hg : wr.grownBy w' row) (h1 : ∀ q, row = some q → w.heap.size ≤ q) (hne : ∀ p ∈ l, some p.1 ≠ row) : St w l w' := ⟨h.1.grown hg h.1.size h1, h.2.grown hg hne⟩
theorem markG2 {v : Value} {gs : List Rl} {B k : Nat} {K : Int} (hK : K = (k : Int)) (hk1 : k + 3 * gs.length ≤ 3900000) {w : World} (h : OwnsR w B v gs) (hn : gs.length ≤ 1048576) :
    Calls Try.prog 37 #[.agg #[v], .int .i64 K] w fun e w' => e = .returned (.int .i64 (K + 3 * gs.length)) ∧ OwnsR w' B v (mkR k gs.length) ∧ w.grownBy w' v.ownBlock := by
  subst hK; exact markGrammar_any v gs B k hk1 w h hn
theorem two {w wr : World} {b b' : Nat} {v v' : Value} {l : List (Nat × Value)} (h : St w ((b, v) :: (b', v') :: l) wr) : wr.cell? ⟨b, 0, none⟩ = some v ∧ wr.cell? ⟨b', 0, none⟩ = some v' := ⟨h.2 (b, v) (.head _), h.2 (b', v') (.tail _ (.head _))⟩
theorem rules_alloc {w : World} {v : Value} {gs : List Rl} (h : Rules w v gs) (o : Obj) : Rules (w.alloc o) v gs := h.kept ((Below.refl _ w).alloc (Nat.le_refl _) o)
theorem after_store {w w5 : World} {l : List (Nat × Value)} {B n W : Nat} {x z : Value} {t : TypeId} {xs : List Value} (h : St w l w5) (hx : w5.ownsRow B 117 3 x n xs) (hV : Var w5 W z t) (hne : 117 ≠ t) (hW : w.heap.size ≤ W) (hl : ∀ p ∈ l, p.1 < W) (u : Value) :
    St w l (w5.setCell ⟨W, 0, none⟩ u) ∧ (w5.setCell ⟨W, 0, none⟩ u).cell? ⟨W, 0, none⟩ = some u ∧ (w5.setCell ⟨W, 0, none⟩ u).ownsRow B 117 3 x n xs := by
  have hg := only_setCell (World.grownBy.refl w5 (some W)) (p := ⟨W, 0, none⟩) (.inl rfl) u
  refine ⟨⟨h.1.setCell (p := ⟨W, 0, none⟩) hW u, h.2.grown hg (fun p hp e => ?_)⟩, (var_set' hV u).cell.1, World.ownsRow.kept hx hg (.inr (own_var_ne hx hV hne))⟩
  have h1 := hl p hp
  have h2 : p.1 = W := Option.some.inj e
  omega
theorem after_alloc {w w5 : World} {l : List (Nat × Value)} {B n : Nat} {x : Value} {t : TypeId} {xs : List Value} (h : St w l w5) (hx : w5.ownsRow B 117 3 x n xs) (u : Value) :
    St w l (w5.alloc (.cells #[u] t)) ∧ (w5.alloc (.cells #[u] t)).cell? ⟨w5.heap.size, 0, none⟩ = some u ∧ (w5.alloc (.cells #[u] t)).ownsRow B 117 3 x n xs :=
  ⟨h.alloc _, cell_new _ _ _, World.ownsRow.alloc hx _⟩
/-- a row made later lies elsewhere -/
theorem own_ne {w w' : World} {B C e e' s s' n n' : Nat} {u v : Value} {xs ys : List Value} (h : w.ownsRow B e s u n xs) (h' : w'.ownsRow C e' s' v n' ys) (hC : w.heap.size ≤ C) : u.ownBlock = none ∨ u.ownBlock ≠ v.ownBlock := by
  cases hu : u.ownBlock with
  | none => exact .inl rfl
  | some g =>
    refine .inr fun hh => ?_
    have h1 := (h.lt g hu).2
    have h2 := (h'.lt g hh.symm).1
    omega
theorem own_ne' {w w' : World} {B C e e' s s' n n' : Nat} {u v : Value} {xs ys : List Value} (h : w.ownsRow B e s u n xs) (h' : w'.ownsRow C e' s' v n' ys) (hC : w.heap.size ≤ C) : v.ownBlock = none ∨ v.ownBlock ≠ u.ownBlock := by
  cases hv : v.ownBlock with
  | none => exact .inl rfl
  | some g =>
    refine .inr fun hh => ?_
    have h1 := (h.lt g hh.symm).2
    have h2 := (h'.lt g hv).1
    omega
/-- a variable among older ones is no row of rules -/
theorem var_row {w : World} {B n : Nat} {v : Value} {xs : List Value} (h : w.ownsRow B 117 3 v n xs) {b : Nat} {u : Value} {t : TypeId} (hv : Var w b u t) (hne : 117 ≠ t) : some b ≠ v.ownBlock := fun e => own_var_ne h hv hne e.symm
theorem purse_few2 {gs : List Rl} {left : Int} (hl : left ≤ 1048576) (h : ¬ purse left gs < 0) : FewR gs ∧ 0 ≤ purse left gs ∧ purse left gs ≤ 1048576 ∧ (gs.length : Int) + purse left gs ≤ left ∧ (gs.length : Int) ≤ left := by
  unfold purse at h ⊢
  unfold FewR
  split at h
  · rename_i h1
    rw [if_pos h1]; omega
  · omega

set_option maxRecDepth 100000 in
set_option maxHeartbeats 25600000 in
theorem walk (A : Option Addr) (n0 cap : Nat) (gs : List Rl) (A' : Option Addr) (n1 cap' : Nat) (hs : List Rl) (w : World) (hl : n0 ≤ maxLen) (h : InRules w A n0 gs) (hl' : n1 ≤ maxLen) (h' : InRules w A' n1 hs) :
    Calls Try.prog 10 #[.agg #[.slice A n0 cap], .agg #[.slice A' n1 cap']] w fun e w' => e = .returned (.bool true) ∧ Below w.heap.size w w' := by
  have hB0 : Below w.heap.size w ((w.alloc (.cells #[.slice A n0 cap] 40)).alloc (.cells #[.slice A' n1 cap'] 40)) := ((Below.refl _ w).alloc (Nat.le_refl _) _).alloc (by simp) _
  have h1 := szGrammar_any A n0 cap gs 1048576 _ hl (h.kept hB0) (by omega) (by omega)
  have H1 := Lib.hid h1
  have HI := Lib.hid h
  have HI' := Lib.hid h'
  have HB0 := Lib.hid hB0
  have x1 : ((w.alloc (.cells #[.slice A n0 cap] 40)).alloc (.cells #[.slice A' n1 cap'] 40)).cell? ⟨w.heap.size, 0, none⟩ = some (.slice A n0 cap) := by
    rw [((Below.refl _ (w.alloc (.cells #[.slice A n0 cap] 40))).alloc (Nat.le_refl _) _).cell (p := ⟨w.heap.size, 0, none⟩) (by simp)]; exact cell_new _ _ _
  have x2 : ((w.alloc (.cells #[.slice A n0 cap] 40)).alloc (.cells #[.slice A' n1 cap'] 40)).cell? ⟨w.heap.size + 1, 0, none⟩ = some (.slice A' n1 cap') := by
    have := cell_new (w.alloc (.cells #[.slice A n0 cap] 40)) (.slice A' n1 cap') 40
    simp at this ⊢
  have hnil : CellsAt ((w.alloc (.cells #[.slice A n0 cap] 40)).alloc (.cells #[.slice A' n1 cap'] 40)) [] := fun p hp => by cases hp
  have HC0 := Lib.hid ((hnil.cons x2).cons x1)
  clear x1 x2 hnil
  by_cases hneg : purse 1048576 gs < 0
  · clear h h1 hB0 h'
    go_enter Try.func10, Try.ntmps10
    go_wp2_with fail
    refine H1.out.mono ?_
    rintro e w1 ⟨rfl, hB1⟩
    have HB1 := Lib.hid (HB0.out.trans (hB1.mono HB0.out.size))
    clear hB1
    go_wp2_with fail
    go_ret
    exact ⟨rfl, HB1.out⟩
  · obtain ⟨hf, hp0, hp1, hp2, _⟩ := purse_few2 (by omega) hneg
    have HSZ2 := Lib.hid (fun W (hW : InRules W A' n1 hs) => szGrammar_any A' n1 cap' hs (purse 1048576 gs) W hl' hW hp0 hp1)
    have hn0 : n0 ≤ 1048576 := by have := hf.len; rw [h.1] at this; exact this
    have HTO := Lib.hid (fun W (hW : InRules W A n0 gs) => toGrammar_any A n0 cap gs W hn0 hW)
    have hn := hf.len
    by_cases hneg2 : purse (purse 1048576 gs) hs < 0
    · generalize purse 1048576 gs = lf at *
      clear h h1 hB0 h' hf HTO
      go_enter Try.func10, Try.ntmps10
      go_wp2_with fail
      refine H1.out.mono ?_
      rintro e w1 ⟨rfl, hB1⟩
      have HC1 := Lib.hid (HC0.out.kept hB1)
      have HB1 := Lib.hid (HB0.out.trans (hB1.mono HB0.out.size))
      have hc1 : w1.cell? ⟨w.heap.size + 1, 0, none⟩ = some (.slice A' n1 cap') := HC1.out (w.heap.size + 1, .slice A' n1 cap') (.tail _ (.head _))
      clear hB1
      go_wp2_with fail
      refine (HSZ2.out _ (HI'.out.kept HB1.out)).mono ?_
      rintro e w2 ⟨rfl, hB2⟩
      have HB2 := Lib.hid (HB1.out.trans (hB2.mono HB1.out.size))
      clear hB2
      go_wp2_with fail
      go_ret
      exact ⟨rfl, HB2.out⟩
    · obtain ⟨hf', _, _, _, hp3⟩ := purse_few2 hp1 hneg2
      have hsum : gs.length + hs.length ≤ 1048576 := by omega
      clear hp2 hp3
      have hn1 : n1 ≤ 1048576 := by have := hf'.len; rw [h'.1] at this; exact this
      have hn' := hf'.len
      have HTO' := Lib.hid (fun W (hW : InRules W A' n1 hs) => toGrammar_any A' n1 cap' hs W hn1 hW)
      have hz := gramJoinGrammars_len gs hs
      have hS := fun v u W (hW : Rules W v gs) (hW' : Rules W u hs) => specJoinGrammars v u gs hs W hf hf' hW hW'
      have hP := fun v u W (hW : Rules W v gs) (hW' : Rules W u hs) => implJoinGrammars v u gs hs W hf hf' hW hW'
      generalize (gramJoinGrammars gs hs).1 = rs at hz hS hP
      generalize (gramJoinGrammars gs hs).2 = c at hS hP
      have HS := Lib.hid hS
      have HP := Lib.hid hP
      generalize purse 1048576 gs = lf at *
      generalize purse lf hs = lf2 at *
      clear h h1 hB0 h' hf hf' hS hP
      go_enter Try.func10, Try.ntmps10
      go_wp2_with fail
      refine H1.out.mono ?_
      rintro e w1 ⟨rfl, hB1⟩
      have HB1 := Lib.hid (HB0.out.trans (hB1.mono HB0.out.size))
      have HC1 := Lib.hid (HC0.out.kept hB1)
      have hc1 : w1.cell? ⟨w.heap.size + 1, 0, none⟩ = some (.slice A' n1 cap') := HC1.out (w.heap.size + 1, .slice A' n1 cap') (.tail _ (.head _))
      clear hB1
      go_wp2_with fail
      refine (HSZ2.out _ (HI'.out.kept HB1.out)).mono ?_
      rintro e w2 ⟨rfl, hB2⟩
      have HB2 := Lib.hid (HB1.out.trans (hB2.mono HB1.out.size))
      have HC2 := Lib.hid (HC1.out.kept hB2)
      have c20 : w2.cell? ⟨w.heap.size, 0, none⟩ = some (.slice A n0 cap) := HC2.out (w.heap.size, .slice A n0 cap) (.head _)
      have c21 : w2.cell? ⟨w.heap.size + 1, 0, none⟩ = some (.slice A' n1 cap') := HC2.out (w.heap.size + 1, .slice A' n1 cap') (.tail _ (.head _))
      clear hB2 hc1
      go_wp2_with fail
      have HTa_b : Hid (St w2 [(w.heap.size, .slice A n0 cap), (w.heap.size + 1, .slice A' n1 cap')] w2) := Lib.hid ⟨Below.refl _ _, HC2.out⟩
      go_region_held3 (fun w' => w'.cell? ⟨w.heap.size, 0, none⟩ = some (.slice A n0 cap) ∧ w'.cell? ⟨w.heap.size + 1, 0, none⟩ = some (.slice A' n1 cap'))
        (first | go_keep | exact two (HTa_b.out) | exact two (HTa_b.out.alloc _) | exact two (HTa_b.out.drewN _) | exact two ((HTa_b.out.alloc _).drewN _) | exact two ((HTa_b.out.drewN _).alloc _) | exact two (HTa_3.out) | exact two (HTa_3.out.alloc _) | exact two (HTa_4.out) | exact two (HTa_4.out.alloc _) | exact two (HTa_5.out) | exact two (HTa_5.out.alloc _) | exact HS6.out)
        ((first
          | (go_at_call_of 30 (Value.agg #[.slice A n0 cap])
             refine (HTO.out _ (HI.out.kept (St.below (St.rebase HB2.out (by first | exact HTa_b.out | exact HTa_b.out.alloc _ | exact HTa_b.out.drewN _ | exact (HTa_b.out.alloc _).drewN _ | exact (HTa_b.out.drewN _).alloc _))))).mono ?_
             rintro e w3 ⟨v1, rfl, ho1, hB3⟩
             have HTa_3 := Lib.hid (St.call (by first | exact HTa_b.out | exact HTa_b.out.alloc _ | exact HTa_b.out.drewN _ | exact (HTa_b.out.alloc _).drewN _ | exact (HTa_b.out.drewN _).alloc _) hB3)
             have HE3 := Lib.hid hB3
             have HR1 := Lib.hid (Rules.of_own ho1)
             clear ho1 hB3)
          | (go_at_call_of 30 (Value.agg #[.slice A' n1 cap'])
             refine (HTO'.out _ (HI'.out.kept (St.below (St.rebase HB2.out (by first | exact HTa_3.out | exact HTa_3.out.alloc _))))).mono ?_
             rintro e w4 ⟨v2, rfl, ho2, hB4⟩
             have HTa_4 := Lib.hid (St.call (by first | exact HTa_3.out | exact HTa_3.out.alloc _) hB4)
             have HE4 := Lib.hid hB4
             have HR14 := Lib.hid (Rules.kept (by first | exact HR1.out | exact rules_alloc HR1.out _) hB4)
             have HR2 := Lib.hid (Rules.of_own ho2)
             clear ho2 hB4)
          | (go_at_call 39
             refine (HS.out _ _ _ (by first | exact HR14.out | exact rules_alloc HR14.out _) (by first | exact HR2.out | exact rules_alloc HR2.out _)).mono ?_
             rintro e w5 ⟨x, rfl, hx5', hB5⟩
             obtain ⟨Ax, cx, rfl⟩ := own_slice hx5'
             have hx5 := own_lower hx5' (St.below (by first | exact HTa_4.out | exact HTa_4.out.alloc _ : St w2 [(w.heap.size, .slice A n0 cap), (w.heap.size + 1, .slice A' n1 cap')] _)).size
             have HTa_5 := Lib.hid (St.call (by first | exact HTa_4.out | exact HTa_4.out.alloc _) hB5)
             first
             | (have hV := (Var.new w4 (.slice none 0 0) 45).kept hB5; have HP := Lib.hid (after_store (t := 45) HTa_5.out hx5 hV (by decide) (HTa_4.out.1.size) (fun p hp => HTa_4.out.2.lt p hp) (.slice Ax rs.length cx)); obtain ⟨q0, q1⟩ := hV.cell; have HS6 := Lib.hid (two HP.out.1); clear hV)
             | (have hV := ((Var.new w3 (.slice none 0 0) 45).kept HE4.out).kept hB5; have HP := Lib.hid (after_store (t := 45) HTa_5.out hx5 hV (by decide) (HTa_3.out.1.size) (fun p hp => HTa_3.out.2.lt p hp) (.slice Ax rs.length cx)); obtain ⟨q0, q1⟩ := hV.cell; have HS6 := Lib.hid (two HP.out.1); clear hV)
             | (have hV := (((Var.new w2 (.slice none 0 0) 45).kept HE3.out).kept HE4.out).kept hB5; have HP := Lib.hid (after_store (t := 45) HTa_5.out hx5 hV (by decide) (HTa_b.out.1.size) (fun p hp => HTa_b.out.2.lt p hp) (.slice Ax rs.length cx)); obtain ⟨q0, q1⟩ := hV.cell; have HS6 := Lib.hid (two HP.out.1); clear hV)
             | (have hV := (((Var.new w2 (.slice none 0 0) 45).kept (below_undrew (n := 1) HE3.out)).kept HE4.out).kept hB5; have HP := Lib.hid (after_store (t := 45) HTa_5.out hx5 hV (by decide) (HTa_b.out.1.size) (fun p hp => HTa_b.out.2.lt p hp) (.slice Ax rs.length cx)); obtain ⟨q0, q1⟩ := hV.cell; have HS6 := Lib.hid (two HP.out.1); clear hV)
             | (have HP := Lib.hid (after_alloc (t := 45) HTa_5.out hx5 (.slice Ax rs.length cx)); have HS6 := Lib.hid (two HP.out.1))
             clear hx5 hx5' hB5)))
      all_goals
       first
       | (obtain ⟨w6a, hw6⟩ : ∃ w6, w6 = w5.alloc (.cells #[(.slice Ax rs.length cx)] 45) := ⟨_, rfl⟩
          rw [← hw6] at HP ⊢
          have HTRa : Hid (St w ((w5.heap.size, (.slice Ax rs.length cx)) :: [(w.heap.size, .slice A n0 cap), (w.heap.size + 1, .slice A' n1 cap')]) w6a) := Lib.hid ((St.rebase HB2.out HP.out.1) |> fun h => ⟨h.1, CellsAt.cons h.2 HP.out.2.1⟩)
          have HORa : Hid (OwnsR w6a w2.heap.size (.slice Ax rs.length cx) rs) := Lib.hid HP.out.2.2
          have HBRa : Hid (Below w2.heap.size w2 w6a) := Lib.hid HP.out.1.1
          obtain ⟨Wa, hW⟩ : ∃ W, W = w5.heap.size := ⟨_, rfl⟩
          rw [← hW] at HTRa ⊢
          clear hW hw6 HP)
       | (obtain ⟨w6a, hw6⟩ : ∃ w6, w6 = w5.setCell ⟨w4.heap.size, 0, none⟩ (.slice Ax rs.length cx) := ⟨_, rfl⟩
          rw [← hw6] at HP ⊢
          have HTRa : Hid (St w ((w4.heap.size, (.slice Ax rs.length cx)) :: [(w.heap.size, .slice A n0 cap), (w.heap.size + 1, .slice A' n1 cap')]) w6a) := Lib.hid ((St.rebase HB2.out HP.out.1) |> fun h => ⟨h.1, CellsAt.cons h.2 HP.out.2.1⟩)
          have HORa : Hid (OwnsR w6a w2.heap.size (.slice Ax rs.length cx) rs) := Lib.hid HP.out.2.2
          have HBRa : Hid (Below w2.heap.size w2 w6a) := Lib.hid HP.out.1.1
          obtain ⟨Wa, hW⟩ : ∃ W, W = w4.heap.size := ⟨_, rfl⟩
          rw [← hW] at HTRa ⊢
          clear hW hw6 HP q0 q1)
       | (obtain ⟨w6a, hw6⟩ : ∃ w6, w6 = w5.setCell ⟨w3.heap.size, 0, none⟩ (.slice Ax rs.length cx) := ⟨_, rfl⟩
          rw [← hw6] at HP ⊢
          have HTRa : Hid (St w ((w3.heap.size, (.slice Ax rs.length cx)) :: [(w.heap.size, .slice A n0 cap), (w.heap.size + 1, .slice A' n1 cap')]) w6a) := Lib.hid ((St.rebase HB2.out HP.out.1) |> fun h => ⟨h.1, CellsAt.cons h.2 HP.out.2.1⟩)
          have HORa : Hid (OwnsR w6a w2.heap.size (.slice Ax rs.length cx) rs) := Lib.hid HP.out.2.2
          have HBRa : Hid (Below w2.heap.size w2 w6a) := Lib.hid HP.out.1.1
          obtain ⟨Wa, hW⟩ : ∃ W, W = w3.heap.size := ⟨_, rfl⟩
          rw [← hW] at HTRa ⊢
          clear hW hw6 HP q0 q1)
       | (obtain ⟨w6a, hw6⟩ : ∃ w6, w6 = w5.setCell ⟨w2.heap.size, 0, none⟩ (.slice Ax rs.length cx) := ⟨_, rfl⟩
          rw [← hw6] at HP ⊢
          have HTRa : Hid (St w ((w2.heap.size, (.slice Ax rs.length cx)) :: [(w.heap.size, .slice A n0 cap), (w.heap.size + 1, .slice A' n1 cap')]) w6a) := Lib.hid ((St.rebase HB2.out HP.out.1) |> fun h => ⟨h.1, CellsAt.cons h.2 HP.out.2.1⟩)
          have HORa : Hid (OwnsR w6a w2.heap.size (.slice Ax rs.length cx) rs) := Lib.hid HP.out.2.2
          have HBRa : Hid (Below w2.heap.size w2 w6a) := Lib.hid HP.out.1.1
          obtain ⟨Wa, hW⟩ : ∃ W, W = w2.heap.size := ⟨_, rfl⟩
          rw [← hW] at HTRa ⊢
          clear hW hw6 HP q0 q1)
       have HT6 := Lib.hid HTRa.out
       have HX6 := Lib.hid HORa.out
       clear HTRa HORa
       have HN6 : Hid (Wa < w6a.heap.size ∧ w.heap.size < w6a.heap.size ∧ w.heap.size + 1 < w6a.heap.size) := Lib.hid ⟨HT6.out.2.lt (Wa, .slice Ax rs.length cx) (.head _), HT6.out.2.lt (w.heap.size, .slice A n0 cap) (.tail _ (.head _)), HT6.out.2.lt (w.heap.size + 1, .slice A' n1 cap') (.tail _ (.tail _ (.head _)))⟩
       have c60 : w6a.cell? ⟨w.heap.size, 0, none⟩ = some (.slice A n0 cap) := HT6.out.2 (w.heap.size, .slice A n0 cap) (.tail _ (.head _))
       go_wp2_with fail
       refine (HTO.out _ (HI.out.kept HT6.out.1)).mono ?_
       rintro e w7 ⟨v3, rfl, ho7, hB7⟩
       obtain ⟨A7, c7, rfl⟩ := own_slice ho7
       have HNXO := Lib.hid (own_ne HX6.out ho7 (Nat.le_refl _))
       have HVO : Hid (∀ q, (Value.slice A7 gs.length c7).ownBlock = some q → w6a.heap.size ≤ q ∧ q < w7.heap.size) := Lib.hid ho7.lt
       have HT7 := Lib.hid (HT6.out.call hB7)
       have HX7 := Lib.hid (own_below HX6.out hB7 (Nat.le_refl _))
       have hb8 := (Below.refl _ w7).alloc (Nat.le_refl _) (.cells #[.slice A7 gs.length c7] 45)
       have HT8 := Lib.hid (St.push HT7.out (.slice A7 gs.length c7) 45)
       have HX8 := Lib.hid (own_below HX7.out hb8 (Nat.le_refl _))
       have HO8 := Lib.hid (own_below ho7 hb8 (Nat.le_refl _))
       have HS8 : Hid ((w7.alloc (.cells #[.slice A7 gs.length c7] 45)).heap.size = w7.heap.size + 1) := Lib.hid (by simp)
       have HQ67 : Hid (w6a.heap.size ≤ w7.heap.size) := Lib.hid hB7.size
       have c71 : w7.cell? ⟨w.heap.size + 1, 0, none⟩ = some (.slice A' n1 cap') := HT7.out.2 (w.heap.size + 1, .slice A' n1 cap') (.tail _ (.tail _ (.head _)))
       have l71 : w.heap.size + 1 < w7.heap.size := lt_of_cell c71
       clear hB7 ho7 c60 hb8
       go_wp2_with fail
       obtain ⟨X0, hX0⟩ : ∃ X0, X0 = w7.heap.size := ⟨_, rfl⟩
       rw [← hX0] at HT8 HVO HS8 HQ67 ⊢
       generalize w7.alloc (.cells #[.slice A7 gs.length c7] 45) = w8 at HT8 HX8 HO8 HS8 ⊢
       clear hX0 c71 l71
       refine (HTO'.out _ (HI'.out.kept HT8.out.1)).mono ?_
       rintro e w9 ⟨v4, rfl, ho9, hB9⟩
       obtain ⟨A9, c9, rfl⟩ := own_slice ho9
       have HNXQ := Lib.hid (own_ne HX8.out ho9 (Nat.le_refl _))
       have HNQO := Lib.hid (own_ne' HO8.out ho9 (Nat.le_refl _))
       have HVQ : Hid (∀ q, (Value.slice A9 hs.length c9).ownBlock = some q → X0 + 1 ≤ q ∧ q < w9.heap.size) := Lib.hid (by rw [← HS8.out]; exact ho9.lt)
       have HT9 := Lib.hid (HT8.out.call hB9)
       have HX9 := Lib.hid (own_below HX8.out hB9 (Nat.le_refl _))
       have HO9 := Lib.hid (own_below HO8.out hB9 (Nat.le_refl _))
       have hb10 := (Below.refl _ w9).alloc (Nat.le_refl _) (.cells #[.slice A9 hs.length c9] 45)
       have HT10 := Lib.hid (St.push HT9.out (.slice A9 hs.length c9) 45)
       have HX10 := Lib.hid (own_below HX9.out hb10 (Nat.le_refl _))
       have HO10 := Lib.hid (own_below HO9.out hb10 (Nat.le_refl _))
       have HQ10 := Lib.hid (own_below ho9 hb10 (Nat.le_refl _))
       have HS10 : Hid ((w9.alloc (.cells #[.slice A9 hs.length c9] 45)).heap.size = w9.heap.size + 1) := Lib.hid (by simp)
       have c90 : w9.cell? ⟨X0, 0, none⟩ = some (.slice A7 gs.length c7) := HT9.out.2 (X0, .slice A7 gs.length c7) (.head _)
       have l90 : X0 < w9.heap.size := lt_of_cell c90
       have HQ89 : Hid (X0 < w9.heap.size) := Lib.hid l90
       clear hB9 ho9 hb10
       go_wp2_with fail
       obtain ⟨X1, hX1⟩ : ∃ X1, X1 = w9.heap.size := ⟨_, rfl⟩
       rw [← hX1] at HT10 HVQ HS10 HQ89 ⊢
       generalize w9.alloc (.cells #[.slice A9 hs.length c9] 45) = w10 at HT10 HX10 HO10 HQ10 HS10 ⊢
       clear hX1 c90 l90
       refine (HP.out _ _ _ (Rules.of_own HO10.out) (Rules.of_own HQ10.out)).mono ?_
       rintro e w11 ⟨y, rfl, ho11, hB11⟩
       obtain ⟨A11, c11, rfl⟩ := own_slice ho11
       have HNXY := Lib.hid (own_ne HX10.out ho11 (Nat.le_refl _))
       have HNYO := Lib.hid (own_ne' HO10.out ho11 (Nat.le_refl _))
       have HNYQ := Lib.hid (own_ne' HQ10.out ho11 (Nat.le_refl _))
       have HVY : Hid (∀ q, (Value.slice A11 rs.length c11).ownBlock = some q → X1 + 1 ≤ q ∧ q < w11.heap.size) := Lib.hid (by rw [← HS10.out]; exact ho11.lt)
       have HT11 := Lib.hid (HT10.out.call hB11)
       have HX11 := Lib.hid (own_below HX10.out hB11 (Nat.le_refl _))
       have HO11 := Lib.hid (own_below HO10.out hB11 (Nat.le_refl _))
       have HQ11 := Lib.hid (own_below HQ10.out hB11 (Nat.le_refl _))
       have hb12 := (Below.refl _ w11).alloc (Nat.le_refl _) (.cells #[.slice A11 rs.length c11] 45)
       have HT12 := Lib.hid (St.push HT11.out (.slice A11 rs.length c11) 45)
       have HX12 := Lib.hid (own_below HX11.out hb12 (Nat.le_refl _))
       have HO12 := Lib.hid (own_below HO11.out hb12 (Nat.le_refl _))
       have HQ12 := Lib.hid (own_below HQ11.out hb12 (Nat.le_refl _))
       have HY12 := Lib.hid (own_below ho11 hb12 (Nat.le_refl _))
       have c11w : w11.cell? ⟨Wa, 0, none⟩ = some (.slice Ax rs.length cx) := HT11.out.2 (Wa, .slice Ax rs.length cx) (.tail _ (.tail _ (.head _)))
       have l11 : Wa < w11.heap.size := lt_of_cell c11w
       have HG11 : Hid (X1 < w11.heap.size) := Lib.hid (HT11.out.2.lt (X1, .slice A9 hs.length c9) (.head _))
       clear hB11 ho11 hb12
       go_wp2_with fail
       obtain ⟨Gv, hGv⟩ : ∃ Gv, Gv = w11.heap.size := ⟨_, rfl⟩
       rw [← hGv] at HT12 HVY HG11 ⊢
       generalize w11.alloc (.cells #[.slice A11 rs.length c11] 45) = w12 at HT12 HX12 HO12 HQ12 HY12 ⊢
       have HORD : Hid (w.heap.size ≤ w6a.heap.size ∧ Wa < w6a.heap.size ∧ w.heap.size < w6a.heap.size ∧ w.heap.size + 1 < w6a.heap.size ∧ w6a.heap.size ≤ X0 ∧ X0 < X1 ∧ X1 < Gv) := Lib.hid ⟨HT6.out.1.size, HN6.out.1, HN6.out.2.1, HN6.out.2.2, HQ67.out, HQ89.out, HG11.out⟩
       clear hGv c11w l11
       refine (eqGrammar_same _ _ rs _ hz (Rules.of_own HY12.out) (Rules.of_own HX12.out)).mono ?_
       rintro e w13 ⟨rfl, hB13⟩
       have HT13 := Lib.hid (HT12.out.call hB13)
       have HX13 := Lib.hid (own_below HX12.out hB13 (Nat.le_refl _))
       have HO13 := Lib.hid (own_below HO12.out hB13 (Nat.le_refl _))
       have HQ13 := Lib.hid (own_below HQ12.out hB13 (Nat.le_refl _))
       have HY13 := Lib.hid (own_below HY12.out hB13 (Nat.le_refl _))
       clear hB13
       have ca : w13.cell? ⟨w.heap.size, 0, none⟩ = some (.slice A n0 cap) := HT13.out.2 (w.heap.size, .slice A n0 cap) (.tail _ (.tail _ (.tail _ (.tail _ (.head _)))))
       have cb : w13.cell? ⟨X0, 0, none⟩ = some (.slice A7 gs.length c7) := HT13.out.2 (X0, .slice A7 gs.length c7) (.tail _ (.tail _ (.head _)))
       have HD13 := Lib.hid (fun m => HTO.out (w13.drewN m) (HI.out.kept (below_drewN HT13.out.1 m)))
       have HSA := Lib.hid (And.intro ca cb)
       go_wp2_with fail
       go_region_held3 (fun w' => w'.cell? ⟨w.heap.size, 0, none⟩ = some (.slice A n0 cap) ∧ w'.cell? ⟨X0, 0, none⟩ = some (.slice A7 gs.length c7)) (first | go_keep | exact HSB.out | exact HSC.out)
         (first
           | (go_at_call 30; refine (HD13.out _).mono ?_; rintro e w14 ⟨va, rfl, hoa, hBa⟩; have HBA := Lib.hid (below_undrew hBa); have HRA := Lib.hid (Rules.of_own hoa); have HSB := Lib.hid (And.intro ((HBA.out.cell (p := ⟨w.heap.size, 0, none⟩) (lt_of_cell HSA.out.1)).trans HSA.out.1) ((HBA.out.cell (p := ⟨X0, 0, none⟩) (lt_of_cell HSA.out.2)).trans HSA.out.2)); clear hoa hBa)
           | (go_at_call 32; refine (eqGrammar_same _ _ gs _ hn ((Rules.of_own HO13.out).kept HBA.out) HRA.out).mono ?_; rintro e w15 ⟨rfl, hBb⟩; have HBC15 := Lib.hid (HBA.out.trans (hBb.mono HBA.out.size)); have HSC := Lib.hid (And.intro ((HBC15.out.cell (p := ⟨w.heap.size, 0, none⟩) (lt_of_cell HSA.out.1)).trans HSA.out.1) ((HBC15.out.cell (p := ⟨X0, 0, none⟩) (lt_of_cell HSA.out.2)).trans HSA.out.2)); clear hBb))
       clear ca cb HSA HSB HSC HRA HBA
       have HT15 := Lib.hid (HT13.out.call HBC15.out)
       have HX15 := Lib.hid (own_below HX13.out HBC15.out (Nat.le_refl _))
       have HO15 := Lib.hid (own_below HO13.out HBC15.out (Nat.le_refl _))
       have HQ15 := Lib.hid (own_below HQ13.out HBC15.out (Nat.le_refl _))
       have HY15 := Lib.hid (own_below HY13.out HBC15.out (Nat.le_refl _))
       have ca : w15.cell? ⟨w.heap.size + 1, 0, none⟩ = some (.slice A' n1 cap') := HT15.out.2 (w.heap.size + 1, .slice A' n1 cap') (.tail _ (.tail _ (.tail _ (.tail _ (.tail _ (.head _))))))
       have cb : w15.cell? ⟨X1, 0, none⟩ = some (.slice A9 hs.length c9) := HT15.out.2 (X1, .slice A9 hs.length c9) (.tail _ (.head _))
       have HD15 := Lib.hid (fun m => HTO'.out (w15.drewN m) (HI'.out.kept (below_drewN HT15.out.1 m)))
       have HSA := Lib.hid (And.intro ca cb)
       go_wp2_with fail
       go_region_held3 (fun w' => w'.cell? ⟨w.heap.size + 1, 0, none⟩ = some (.slice A' n1 cap') ∧ w'.cell? ⟨X1, 0, none⟩ = some (.slice A9 hs.length c9)) (first | go_keep | exact HSB.out | exact HSC.out)
         (first
           | (go_at_call 30; refine (HD15.out _).mono ?_; rintro e w16 ⟨va, rfl, hoa, hBa⟩; have HBA := Lib.hid (below_undrew hBa); have HRA := Lib.hid (Rules.of_own hoa); have HSB := Lib.hid (And.intro ((HBA.out.cell (p := ⟨w.heap.size + 1, 0, none⟩) (lt_of_cell HSA.out.1)).trans HSA.out.1) ((HBA.out.cell (p := ⟨X1, 0, none⟩) (lt_of_cell HSA.out.2)).trans HSA.out.2)); clear hoa hBa)
           | (go_at_call 32; refine (eqGrammar_same _ _ hs _ hn' ((Rules.of_own HQ15.out).kept HBA.out) HRA.out).mono ?_; rintro e w17 ⟨rfl, hBb⟩; have HBC17 := Lib.hid (HBA.out.trans (hBb.mono HBA.out.size)); have HSC := Lib.hid (And.intro ((HBC17.out.cell (p := ⟨w.heap.size + 1, 0, none⟩) (lt_of_cell HSA.out.1)).trans HSA.out.1) ((HBC17.out.cell (p := ⟨X1, 0, none⟩) (lt_of_cell HSA.out.2)).trans HSA.out.2)); clear hBb))
       clear ca cb HSA HSB HSC HRA HBA
       have HT17 := Lib.hid (HT15.out.call HBC17.out)
       have HX17 := Lib.hid (own_below HX15.out HBC17.out (Nat.le_refl _))
       have HO17 := Lib.hid (own_below HO15.out HBC17.out (Nat.le_refl _))
       have HQ17 := Lib.hid (own_below HQ15.out HBC17.out (Nat.le_refl _))
       have HY17 := Lib.hid (own_below HY15.out HBC17.out (Nat.le_refl _))
       have cx0 : w17.cell? ⟨X0, 0, none⟩ = some (.slice A7 gs.length c7) := HT17.out.2 (X0, .slice A7 gs.length c7) (.tail _ (.tail _ (.head _)))
       go_wp2_with fail
       refine (markG2 (K := 1) (k := 1) rfl (by omega) HO17.out hn).mono ?_
       rintro e w18 ⟨rfl, _, hg18⟩
       clear cx0
       have HT18 := Lib.hid (HT17.out.grown hg18 (fun q hq => by have h1 := (HVO.out q hq).1; have h2 := HORD.out; omega) (fun p hp e => by
         have h1 := HVO.out _ e.symm
         have h2 := HORD.out
         simp only [List.mem_cons, List.not_mem_nil, or_false] at hp
         rcases hp with rfl | rfl | rfl | rfl | rfl | rfl
         all_goals (simp only at h1; omega)))
       have HX18 := Lib.hid (World.ownsRow.kept HX17.out hg18 HNXO.out)
       have HQ18 := Lib.hid (World.ownsRow.kept HQ17.out hg18 HNQO.out)
       have HY18 := Lib.hid (World.ownsRow.kept HY17.out hg18 HNYO.out)
       have cx1 : w18.cell? ⟨X1, 0, none⟩ = some (.slice A9 hs.length c9) := HT18.out.2 (X1, .slice A9 hs.length c9) (.tail _ (.head _))
       have hgl : (0 : Int) ≤ 3 * (gs.length : Int) := by omega
       have hgl' : (0 : Int) ≤ 3 * (hs.length : Int) := by omega
       clear hg18
       go_wp2_with fail
       refine (markG2 (k := 1 + 3 * gs.length) (by push_cast; rfl) (by omega) HQ18.out hn').mono ?_
       rintro e w19 ⟨rfl, _, hg19⟩
       clear cx1
       have HT19 := Lib.hid (HT18.out.grown hg19 (fun q hq => by have h1 := (HVQ.out q hq).1; have h2 := HORD.out; omega) (fun p hp e => by
         have h1 := HVQ.out _ e.symm
         have h2 := HORD.out
         simp only [List.mem_cons, List.not_mem_nil, or_false] at hp
         rcases hp with rfl | rfl | rfl | rfl | rfl | rfl
         all_goals (simp only at h1; omega)))
       have HX19 := Lib.hid (World.ownsRow.kept HX18.out hg19 HNXQ.out)
       have HY19 := Lib.hid (World.ownsRow.kept HY18.out hg19 HNYQ.out)
       have cg : w19.cell? ⟨Gv, 0, none⟩ = some (.slice A11 rs.length c11) := HT19.out.2 (Gv, .slice A11 rs.length c11) (.head _)
       have cw : w19.cell? ⟨Wa, 0, none⟩ = some (.slice Ax rs.length cx) := HT19.out.2 (Wa, .slice Ax rs.length cx) (.tail _ (.tail _ (.tail _ (.head _))))
       clear hg19
       go_wp2_with fail
       refine (eqGrammar_same _ _ rs _ hz (Rules.of_own HY19.out) (Rules.of_own HX19.out)).mono ?_
       rintro e w20 ⟨rfl, hB20⟩
       clear cg cw
       have HT20 := Lib.hid (HT19.out.call hB20)
       have HX20 := Lib.hid (own_below HX19.out hB20 (Nat.le_refl _))
       have HY20 := Lib.hid (own_below HY19.out hB20 (Nat.le_refl _))
       have cg : w20.cell? ⟨Gv, 0, none⟩ = some (.slice A11 rs.length c11) := HT20.out.2 (Gv, .slice A11 rs.length c11) (.head _)
       clear hB20
       go_wp2_with fail
       refine (markG2 (K := 1) (k := 1) rfl (by omega) HY20.out hz).mono ?_
       rintro e w21 ⟨rfl, hy21, hg21⟩
       have HY21 := Lib.hid hy21
       clear cg hy21
       have HT21 := Lib.hid (HT20.out.grown hg21 (fun q hq => by have h1 := (HVY.out q hq).1; have h2 := HORD.out; omega) (fun p hp e => by
         have h1 := HVY.out _ e.symm
         have h2 := HORD.out
         simp only [List.mem_cons, List.not_mem_nil, or_false] at hp
         rcases hp with rfl | rfl | rfl | rfl | rfl | rfl
         all_goals (simp only at h1; omega)))
       have HX21 := Lib.hid (World.ownsRow.kept HX20.out hg21 HNXY.out)
       have cg : w21.cell? ⟨Gv, 0, none⟩ = some (.slice A11 rs.length c11) := HT21.out.2 (Gv, .slice A11 rs.length c11) (.head _)
       have hgz : (0 : Int) ≤ 3 * (rs.length : Int) := by omega
       clear hg21
       go_wp2_with fail
       refine (heldGrammar_any _ rs.length _ 1 (by omega) _ HY21.out hz).mono ?_
       rintro e w22 ⟨rfl, hB22⟩
       clear cg
       have HT22 := Lib.hid (HT21.out.call hB22)
       have HX22 := Lib.hid (own_below HX21.out hB22 (Nat.le_refl _))
       have HY22 := Lib.hid (own_below HY21.out hB22 (Nat.le_refl _))
       have HB22 := Lib.hid HT22.out.1
       have ca : w22.cell? ⟨w.heap.size, 0, none⟩ = some (.slice A n0 cap) := HT22.out.2 (w.heap.size, .slice A n0 cap) (.tail _ (.tail _ (.tail _ (.tail _ (.head _)))))
       have cb : w22.cell? ⟨w.heap.size + 1, 0, none⟩ = some (.slice A' n1 cap') := HT22.out.2 (w.heap.size + 1, .slice A' n1 cap') (.tail _ (.tail _ (.tail _ (.tail _ (.tail _ (.head _))))))
       have HK22 : Hid (CellsAt w22 [(w.heap.size, .slice A n0 cap), (w.heap.size + 1, .slice A' n1 cap')]) := Lib.hid (fun p hp => by
         simp only [List.mem_cons, List.not_mem_nil, or_false] at hp
         rcases hp with rfl | rfl
         · exact ca
         · exact cb)
       clear hB22
       go_wp2_with fail
       have HTb_b : Hid (St w22 [(w.heap.size, .slice A n0 cap), (w.heap.size + 1, .slice A' n1 cap')] w22) := Lib.hid ⟨Below.refl _ _, HK22.out⟩
       go_region_held3 (fun w' => w'.cell? ⟨w.heap.size, 0, none⟩ = some (.slice A n0 cap) ∧ w'.cell? ⟨w.heap.size + 1, 0, none⟩ = some (.slice A' n1 cap'))
         (first | go_keep | exact two (HTb_b.out) | exact two (HTb_b.out.alloc _) | exact two (HTb_b.out.drewN _) | exact two ((HTb_b.out.alloc _).drewN _) | exact two ((HTb_b.out.drewN _).alloc _) | exact two (HTb_3.out) | exact two (HTb_3.out.alloc _) | exact two (HTb_4.out) | exact two (HTb_4.out.alloc _) | exact two (HTb_5.out) | exact two (HTb_5.out.alloc _) | exact HS6.out)
         ((first
           | (go_at_call_of 30 (Value.agg #[.slice A n0 cap])
              refine (HTO.out _ (HI.out.kept (St.below (St.rebase HB22.out (by first | exact HTb_b.out | exact HTb_b.out.alloc _ | exact HTb_b.out.drewN _ | exact (HTb_b.out.alloc _).drewN _ | exact (HTb_b.out.drewN _).alloc _))))).mono ?_
              rintro e w23 ⟨v1, rfl, ho1, hB3⟩
              have HTb_3 := Lib.hid (St.call (by first | exact HTb_b.out | exact HTb_b.out.alloc _ | exact HTb_b.out.drewN _ | exact (HTb_b.out.alloc _).drewN _ | exact (HTb_b.out.drewN _).alloc _) hB3)
              have HE3 := Lib.hid hB3
              have HR1 := Lib.hid (Rules.of_own ho1)
              clear ho1 hB3)
           | (go_at_call_of 30 (Value.agg #[.slice A' n1 cap'])
              refine (HTO'.out _ (HI'.out.kept (St.below (St.rebase HB22.out (by first | exact HTb_3.out | exact HTb_3.out.alloc _))))).mono ?_
              rintro e w24 ⟨v2, rfl, ho2, hB4⟩
              have HTb_4 := Lib.hid (St.call (by first | exact HTb_3.out | exact HTb_3.out.alloc _) hB4)
              have HE4 := Lib.hid hB4
              have HR14 := Lib.hid (Rules.kept (by first | exact HR1.out | exact rules_alloc HR1.out _) hB4)
              have HR2 := Lib.hid (Rules.of_own ho2)
              clear ho2 hB4)
           | (go_at_call 40
              refine (HP.out _ _ _ (by first | exact HR14.out | exact rules_alloc HR14.out _) (by first | exact HR2.out | exact rules_alloc HR2.out _)).mono ?_
              rintro e w25 ⟨x, rfl, hx5', hB5⟩
              obtain ⟨Az, cz, rfl⟩ := own_slice hx5'
              have hx5 := own_lower hx5' (St.below (by first | exact HTb_4.out | exact HTb_4.out.alloc _ : St w22 [(w.heap.size, .slice A n0 cap), (w.heap.size + 1, .slice A' n1 cap')] _)).size
              have HTb_5 := Lib.hid (St.call (by first | exact HTb_4.out | exact HTb_4.out.alloc _) hB5)
              first
              | (have hV := (Var.new w24 (.slice none 0 0) 45).kept hB5; have HP := Lib.hid (after_store (t := 45) HTb_5.out hx5 hV (by decide) (HTb_4.out.1.size) (fun p hp => HTb_4.out.2.lt p hp) (.slice Az rs.length cz)); obtain ⟨q0, q1⟩ := hV.cell; have HS6 := Lib.hid (two HP.out.1); clear hV)
              | (have hV := ((Var.new w23 (.slice none 0 0) 45).kept HE4.out).kept hB5; have HP := Lib.hid (after_store (t := 45) HTb_5.out hx5 hV (by decide) (HTb_3.out.1.size) (fun p hp => HTb_3.out.2.lt p hp) (.slice Az rs.length cz)); obtain ⟨q0, q1⟩ := hV.cell; have HS6 := Lib.hid (two HP.out.1); clear hV)
              | (have hV := (((Var.new w22 (.slice none 0 0) 45).kept HE3.out).kept HE4.out).kept hB5; have HP := Lib.hid (after_store (t := 45) HTb_5.out hx5 hV (by decide) (HTb_b.out.1.size) (fun p hp => HTb_b.out.2.lt p hp) (.slice Az rs.length cz)); obtain ⟨q0, q1⟩ := hV.cell; have HS6 := Lib.hid (two HP.out.1); clear hV)
              | (have hV := (((Var.new w22 (.slice none 0 0) 45).kept (below_undrew (n := 1) HE3.out)).kept HE4.out).kept hB5; have HP := Lib.hid (after_store (t := 45) HTb_5.out hx5 hV (by decide) (HTb_b.out.1.size) (fun p hp => HTb_b.out.2.lt p hp) (.slice Az rs.length cz)); obtain ⟨q0, q1⟩ := hV.cell; have HS6 := Lib.hid (two HP.out.1); clear hV)
              | (have HP := Lib.hid (after_alloc (t := 45) HTb_5.out hx5 (.slice Az rs.length cz)); have HS6 := Lib.hid (two HP.out.1))
              clear hx5 hx5' hB5)))
       all_goals
        first
        | (obtain ⟨w6b, hw6⟩ : ∃ w6, w6 = w25.alloc (.cells #[(.slice Az rs.length cz)] 45) := ⟨_, rfl⟩
           rw [← hw6] at HP ⊢
           have HTRb : Hid (St w ((w25.heap.size, (.slice Az rs.length cz)) :: [(w.heap.size, .slice A n0 cap), (w.heap.size + 1, .slice A' n1 cap')]) w6b) := Lib.hid ((St.rebase HB22.out HP.out.1) |> fun h => ⟨h.1, CellsAt.cons h.2 HP.out.2.1⟩)
           have HORb : Hid (OwnsR w6b w22.heap.size (.slice Az rs.length cz) rs) := Lib.hid HP.out.2.2
           have HBRb : Hid (Below w22.heap.size w22 w6b) := Lib.hid HP.out.1.1
           obtain ⟨Wb, hW⟩ : ∃ W, W = w25.heap.size := ⟨_, rfl⟩
           rw [← hW] at HTRb ⊢
           clear hW hw6 HP)
        | (obtain ⟨w6b, hw6⟩ : ∃ w6, w6 = w25.setCell ⟨w24.heap.size, 0, none⟩ (.slice Az rs.length cz) := ⟨_, rfl⟩
           rw [← hw6] at HP ⊢
           have HTRb : Hid (St w ((w24.heap.size, (.slice Az rs.length cz)) :: [(w.heap.size, .slice A n0 cap), (w.heap.size + 1, .slice A' n1 cap')]) w6b) := Lib.hid ((St.rebase HB22.out HP.out.1) |> fun h => ⟨h.1, CellsAt.cons h.2 HP.out.2.1⟩)
           have HORb : Hid (OwnsR w6b w22.heap.size (.slice Az rs.length cz) rs) := Lib.hid HP.out.2.2
           have HBRb : Hid (Below w22.heap.size w22 w6b) := Lib.hid HP.out.1.1
           obtain ⟨Wb, hW⟩ : ∃ W, W = w24.heap.size := ⟨_, rfl⟩
           rw [← hW] at HTRb ⊢
           clear hW hw6 HP q0 q1)
        | (obtain ⟨w6b, hw6⟩ : ∃ w6, w6 = w25.setCell ⟨w23.heap.size, 0, none⟩ (.slice Az rs.length cz) := ⟨_, rfl⟩
           rw [← hw6] at HP ⊢
           have HTRb : Hid (St w ((w23.heap.size, (.slice Az rs.length cz)) :: [(w.heap.size, .slice A n0 cap), (w.heap.size + 1, .slice A' n1 cap')]) w6b) := Lib.hid ((St.rebase HB22.out HP.out.1) |> fun h => ⟨h.1, CellsAt.cons h.2 HP.out.2.1⟩)
           have HORb : Hid (OwnsR w6b w22.heap.size (.slice Az rs.length cz) rs) := Lib.hid HP.out.2.2
           have HBRb : Hid (Below w22.heap.size w22 w6b) := Lib.hid HP.out.1.1
           obtain ⟨Wb, hW⟩ : ∃ W, W = w23.heap.size := ⟨_, rfl⟩
           rw [← hW] at HTRb ⊢
           clear hW hw6 HP q0 q1)
        | (obtain ⟨w6b, hw6⟩ : ∃ w6, w6 = w25.setCell ⟨w22.heap.size, 0, none⟩ (.slice Az rs.length cz) := ⟨_, rfl⟩
           rw [← hw6] at HP ⊢
           have HTRb : Hid (St w ((w22.heap.size, (.slice Az rs.length cz)) :: [(w.heap.size, .slice A n0 cap), (w.heap.size + 1, .slice A' n1 cap')]) w6b) := Lib.hid ((St.rebase HB22.out HP.out.1) |> fun h => ⟨h.1, CellsAt.cons h.2 HP.out.2.1⟩)
           have HORb : Hid (OwnsR w6b w22.heap.size (.slice Az rs.length cz) rs) := Lib.hid HP.out.2.2
           have HBRb : Hid (Below w22.heap.size w22 w6b) := Lib.hid HP.out.1.1
           obtain ⟨Wb, hW⟩ : ∃ W, W = w22.heap.size := ⟨_, rfl⟩
           rw [← hW] at HTRb ⊢
           clear hW hw6 HP q0 q1)
        have HT25 := Lib.hid (HT22.out.call HBRb.out)
        have HX25 := Lib.hid (own_below HX22.out HBRb.out (Nat.le_refl _))
        have HY25 := Lib.hid (own_below HY22.out HBRb.out (Nat.le_refl _))
        have cz0 : w6b.cell? ⟨Wb, 0, none⟩ = some (.slice Az rs.length cz) := HTRb.out.2 (Wb, .slice Az rs.length cz) (.head _)
        have cw : w6b.cell? ⟨Wa, 0, none⟩ = some (.slice Ax rs.length cx) := HT25.out.2 (Wa, .slice Ax rs.length cx) (.tail _ (.tail _ (.tail _ (.head _))))
        clear ca cb
        go_wp2_with fail
        refine (eqGrammar_same _ _ rs _ hz (Rules.of_own HORb.out) (Rules.of_own HX25.out)).mono ?_
        rintro e w26 ⟨rfl, hB26⟩
        have HT26 := Lib.hid (HT25.out.call hB26)
        have HY26 := Lib.hid (own_below HY25.out hB26 (Nat.le_refl _))
        clear cz0 cw hB26
        have cg : w26.cell? ⟨Gv, 0, none⟩ = some (.slice A11 rs.length c11) := HT26.out.2 (Gv, .slice A11 rs.length c11) (.head _)
        go_wp2_with fail
        refine (heldGrammar_any _ rs.length _ 1 (by omega) _ HY26.out hz).mono ?_
        rintro e w27 ⟨rfl, hB27⟩
        have HT27 := Lib.hid (HT26.out.call hB27)
        clear cg hB27
        go_wp2_with fail
        go_ret
        exact ⟨rfl, HT27.out.1⟩
end Go.Proofs.Ytbenlbfommodiaa.fnExactJoinGrammars
