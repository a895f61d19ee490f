/-
  Contracts and numbers of the functions that the laws of this place call, one text behind the other. No condition beyond those that each theorem names.
-/
import Derived.Test.YtaffachjopjbgaaZ2
import Derived.Test.YtaffachjopjbgaaZ3
import Derived.Test.YtaffachjopjbgaaZ4
import Derived.Test.YtaffachjopjbgaaZ5
import Derived.Test.YtaffachjopjbgaaZ11
import Derived.Maps.AppendAt
import Derived.Deep.RegionHeld3
import Derived.Deep.AppendLies
import Derived.BigQuiet
import Derived.Deep.DeepCutAuto
namespace Go.Proofs.Ytaffachjopjbgaa
open Go.RowKit
open Wd
set_option linter.unusedVariables false
namespace Wd
/-- is a pair of states final in both? -/
def bothP (x y : Au) (s : Nat) : Bool := hasN x.fin ((s / y.st.toNat : Nat) : Int) && hasN y.fin ((s % y.st.toNat : Nat) : Int)
def bothRow (x y : Au) (s : Nat) : List Int := (List.range 4).map fun l => at2 x.nx (s / y.st.toNat) l * y.st + at2 y.nx (s % y.st.toNat) l
def bothNx (x y : Au) (k : Nat) : List (List Int) := (List.range k).map (bothRow x y)
def bothA (x y : Au) : Au := ⟨x.st * y.st, x.go * y.st + y.go, finK (bothP x y) (x.st * y.st).toNat, bothNx x y (x.st * y.st).toNat⟩
def autBothAuto (x y : Au) : Au × Int := if aOk x = true ∧ aOk y = true then (if x.st * y.st ≤ 24 then (bothA x y, 0) else (zeroA, 3)) else (zeroA, 1)
end Wd
theorem bothRow_len (x y : Au) (s : Nat) : (bothRow x y s).length = 4 := by simp [bothRow]
theorem bothRow_get {x y : Au} {s l : Nat} (h : l < 4) : (bothRow x y s)[l]? = some (at2 x.nx (s / y.st.toNat) l * y.st + at2 y.nx (s % y.st.toNat) l) := by simp [bothRow, h]
theorem bothNx_len (x y : Au) (k : Nat) : (bothNx x y k).length = k := by simp [bothNx]
theorem bothNx_succ (x y : Au) (k : Nat) : bothNx x y (k + 1) = bothNx x y k ++ [bothRow x y k] := by simp [bothNx, List.range_succ]
/-- a valid automaton's table, cell by cell -/
theorem au_cell {x : Au} (h : aOk x = true) {s l : Nat} (hs : (s : Int) < x.st) (hl : l < 4) : ∃ h1 : s < x.nx.length, ∃ h2 : l < x.nx[s].length, x.nx[s].length = 4 ∧ x.nx[s][l] = at2 x.nx s l ∧ 0 ≤ at2 x.nx s l ∧ at2 x.nx s l < x.st := by
  obtain ⟨_, hrow, hlen⟩ := aOk_parts h
  have h1 : s < x.nx.length := by omega
  have hr := List.all_eq_true.1 hrow _ (List.getElem_mem h1)
  unfold rowOk at hr
  rw [Bool.and_eq_true, decide_eq_true_iff] at hr
  have h2 : l < x.nx[s].length := by omega
  have e : x.nx[s][l] = at2 x.nx s l := by
    unfold at2
    rw [List.getD_eq_getElem?_getD (l := x.nx), List.getElem?_eq_getElem h1, Option.getD_some, List.getD_eq_getElem?_getD, List.getElem?_eq_getElem h2, Option.getD_some]
  have h3 := List.all_eq_true.1 hr.2 _ (List.getElem_mem h2)
  rw [decide_eq_true_iff, e] at h3
  exact ⟨h1, h2, by omega, e, h3.1, h3.2⟩
/-- where a pair of states lies: the two numbers and their bounds, as the program divides -/
theorem both_split {x y : Au} (hy : aOk y = true) {s : Nat} (hx : 1 ≤ x.st) (hs : (s : Int) < x.st * y.st) : (s : Int).tdiv y.st = ((s / y.st.toNat : Nat) : Int) ∧ (s : Int).tmod y.st = ((s % y.st.toNat : Nat) : Int) ∧ ((s / y.st.toNat : Nat) : Int) < x.st ∧ ((s % y.st.toNat : Nat) : Int) < y.st := by
  obtain ⟨⟨h1, _⟩, _, _⟩ := aOk_parts hy
  obtain ⟨n, hn⟩ : ∃ n : Nat, y.st = n := ⟨y.st.toNat, by omega⟩
  obtain ⟨m, hm⟩ : ∃ m : Nat, x.st = m := ⟨x.st.toNat, by omega⟩
  rw [hn] at hs h1 ⊢
  rw [hm] at hs ⊢
  rw [Int.toNat_natCast]
  have hs' : s < m * n := by exact_mod_cast hs
  have hn0 : 0 < n := by omega
  refine ⟨by rw [Int.tdiv_eq_ediv_of_nonneg (by omega)]; rfl, by rw [Int.tmod_eq_emod_of_nonneg (by omega)]; rfl, ?_, ?_⟩
  · have : s / n < m := Nat.div_lt_of_lt_mul (by rw [Nat.mul_comm]; exact hs')
    exact_mod_cast this
  · have : s % n < n := Nat.mod_lt _ hn0
    exact_mod_cast this
theorem autBothAuto_few (x y : Au) : FewA (autBothAuto x y).1 := by
  unfold autBothAuto
  split
  · split
    · rename_i h hl
      have h1 := (aOk_parts h.1).1
      have h2 := (aOk_parts h.2).1
      have hk : (x.st * y.st).toNat ≤ 24 := by omega
      refine ⟨Nat.le_trans (finK_len _ _) (by omega), ?_, fun r hr => ?_⟩
      · show (bothNx x y _).length ≤ 1048576
        rw [bothNx_len]; omega
      · unfold bothA bothNx at hr
        obtain ⟨q, _, rfl⟩ := List.mem_map.1 hr
        rw [bothRow_len]; omega
    · exact zeroA_few
  · exact zeroA_few
end Go.Proofs.Ytaffachjopjbgaa
namespace Go.Proofs.Ytaffachjopjbgaa
open Go.RowKit
open Wd
set_option linter.unusedVariables false
structure HSt (w : World) (X : Nat) (st go : Int) (fin : List Int) (f : Value) (Z : List (List Int)) (n : Value) (wr : World) : Prop where
  out : B4 wr X (.int .i64 st) (.int .i64 go) f n 33
  own : ∃ U : List Value, OwnA wr w.heap.size f n U fin Z
  x : w.heap.size ≤ X
  below : Below w.heap.size w wr
theorem HSt.kept {w wr w1 : World} {X : Nat} {st go : Int} {fin : List Int} {f n : Value} {Z : List (List Int)} (h : HSt w X st go fin f Z n wr) (hb : Below wr.heap.size wr w1) : HSt w X st go fin f Z n w1 := by
  obtain ⟨U, ha⟩ := h.own
  exact ⟨h.out.kept hb, ⟨U, ha.kept hb⟩, h.x, h.below.trans (hb.mono h.below.size)⟩
theorem row_ne_X {w : World} {B e s m X : Nat} {v : Value} {xs : List Value} {c0 c1 c2 c3 : Value} {t : TypeId} (h : w.ownsRow B e s v m xs) (hx : B4 w X c0 c1 c2 c3 t) (hne : e ≠ t) : v.ownBlock ≠ some X := fun e' => by
  rcases own_b4_ne h hx hne with h1 | h1
  · rw [h1] at e'; cases e'
  · exact h1 e'
theorem HSt.row {w wr w5 w6 : World} {X : Nat} {st go : Int} {fin : List Int} {f n n' u : Value} {Z : List (List Int)} {z : List Int} {o : Obj} {U : List Value} (h : HSt w X st go fin f Z n wr)
    (ha : OwnA wr w.heap.size f n U fin Z) (hb : Below wr.heap.size wr w5) (hu : OwnsI w5 wr.heap.size u z)
    (hown : w6.ownsRow w.heap.size 22 1 n' (U.length + 1) (U ++ [u])) (hg : (w5.alloc o).grownBy w6 n.ownBlock) :
    B4 w6 X (.int .i64 st) (.int .i64 go) f n 33 ∧ HSt w X st go fin f (Z ++ [z]) n' (w6.setCell ⟨X, 3, none⟩ n') := by
  have hbs := h.below.size
  have ho6 : B4 w6 X (.int .i64 st) (.int .i64 go) f n 33 := ((h.out.kept hb).alloc o).grown hg (row_ne_X ha.nx.outer h.out (by decide))
  have hm6 : OwnM w6 w.heap.size n' (U ++ [u]) (Z ++ [z]) := (ha.nx.kept hb).snoc (own_lower hu hbs) (ha.nx.fresh (Nat.le_refl _) hu) hown hg
  have hf6 : OwnsI w6 w.heap.size f fin := World.ownsRow.kept ((own_below ha.fin hb (Nat.le_refl _)).alloc o) hg (own_kinds_ne ha.fin ha.nx.outer (by decide))
  refine ⟨ho6, blk4_3 ho6, ⟨U ++ [u], World.ownsRow.kept hf6 (grownBy_set w6 ⟨X, 3, none⟩ n') (own_b4_ne hf6 ho6 (by decide)), hm6.setB4 ho6 3 n', fun v hv => ?_⟩, h.x, ?_⟩
  · rcases List.mem_append.1 hv with h1 | h1
    · exact ha.ne v h1
    · simp only [List.mem_singleton] at h1
      subst h1
      cases e : f.ownBlock with
      | none => exact .inl rfl
      | some q => exact .inr fun e' => by have h2 := (ha.fin.lt q e).2; have h3 := (hu.lt q e'.symm).1; omega
  · have hx := h.x
    have h5 := hb.size
    exact ((((h.below.trans (hb.mono hbs)).alloc (by omega) o).grown hg (by simp; omega) (fun q hq => (ha.nx.outer.lt q hq).1)).setCell (by simpa using hx) _)
theorem HSt.fin {w wr w5 : World} {X : Nat} {st go k : Int} {fin : List Int} {f n f' : Value} {Z : List (List Int)} {o : Obj} {U : List Value} (h : HSt w X st go fin f Z n wr)
    (ha : OwnA wr w.heap.size f n U fin Z) (hown : w5.ownsRow w.heap.size 2 1 f' (fin.length + 1) (iv fin ++ [.int .i64 k])) (hg : (wr.alloc o).grownBy w5 f.ownBlock) (hat : f'.ownBlock = f.ownBlock ∨ f'.ownBlock = some (wr.heap.size + 1)) :
    B4 w5 X (.int .i64 st) (.int .i64 go) f n 33 ∧ HSt w X st go (fin ++ [k]) f' Z n (w5.setCell ⟨X, 2, none⟩ f') := by
  have hbs := h.below.size
  have hba := (Below.refl _ wr).alloc (Nat.le_refl _) o
  have haa := ha.kept hba
  have ho5 : B4 w5 X (.int .i64 st) (.int .i64 go) f n 33 := (h.out.alloc o).grown hg (row_ne_X ha.fin h.out (by decide))
  have key : ∀ v : Value, (v.ownBlock = none ∨ v.ownBlock ≠ f.ownBlock) → v.ownBlock = none ∨ v.ownBlock ≠ f.ownBlock := fun v hv => hv
  have hrow : ∀ u ∈ U, u.ownBlock = none ∨ u.ownBlock ≠ f.ownBlock := fun u hu => by
    rcases ha.ne u hu with h1 | h1
    · cases e : u.ownBlock with
      | none => exact .inl rfl
      | some q => exact .inr (by rw [h1]; simp)
    · exact .inr (fun e => h1 e.symm)
  have hm5 : OwnM w5 w.heap.size n U Z := ⟨World.ownsRow.kept haa.nx.outer hg (own_kinds_ne haa.nx.outer haa.fin (by decide)), haa.nx.rows.len, fun j u zs a b => World.ownsRow.kept (haa.nx.rows.row j u zs a b) hg (hrow u (List.mem_of_getElem? a)), haa.nx.rows.ne⟩
  have hf5 : OwnsI w5 w.heap.size f' (fin ++ [k]) := by
    unfold OwnsI
    rw [List.length_append, iv_app]
    exact hown
  refine ⟨ho5, blk4_2 ho5, ⟨U, World.ownsRow.kept hf5 (grownBy_set w5 ⟨X, 2, none⟩ f') (own_b4_ne hf5 ho5 (by decide)), hm5.setB4 ho5 2 f', fun u hu => ?_⟩, h.x, ?_⟩
  · cases e : f'.ownBlock with
    | none => exact .inl rfl
    | some q =>
      refine .inr fun e' => ?_
      rcases hat with h1 | h1
      · rcases ha.ne u hu with h2 | h2
        · rw [h1, h2] at e; cases e
        · exact h2 (by rw [← h1, e]; exact e')
      · rw [h1] at e
        injection e with e
        have := (ha.nx.rows.ge u hu q e'.symm).2
        omega
  · have hx := h.x
    exact (((h.below.alloc hbs o).grown hg (by simp; omega) (fun q hq => (ha.fin.lt q hq).1)).setCell (by simpa using hx) _)
end Go.Proofs.Ytaffachjopjbgaa
namespace Go.Proofs.Ytaffachjopjbgaa
open Go.RowKit
open Wd
set_option linter.unusedVariables false
set_option maxRecDepth 100000 in
set_option maxHeartbeats 6400000 in
theorem specBothAuto_bad (av bv : Value) (x y : Au) (w : World) (hf : FewA x) (h : IsAu w av x) (hf2 : FewA y) (h2 : IsAu w bv y) (hbad : ¬ (aOk x = true ∧ aOk y = true ∧ x.st * y.st ≤ 24)) :
    Calls Try.prog 40 #[av, bv] w fun e w' => ∃ f n U, e = .returned (.tuple #[.agg #[.int .i64 (autBothAuto x y).1.st, .int .i64 (autBothAuto x y).1.go, f, n], .int .i64 (autBothAuto x y).2]) ∧ OwnA w' w.heap.size f n U (autBothAuto x y).1.fin (autBothAuto x y).1.nx ∧ Below w.heap.size w w' := by
  obtain ⟨st, go, fin, nx⟩ := x
  obtain ⟨st2, go2, fin2, nx2⟩ := y
  obtain ⟨f, n, rfl, hF, hN⟩ := h
  obtain ⟨f2, n2, rfl, hF2, hN2⟩ := h2
  simp only at hF hN hF2 hN2 hbad
  obtain ⟨W3, hW3⟩ : ∃ W3, W3 = (((w.alloc (.cells #[.int .i64 st, .int .i64 go, f, n] 33)).alloc (.cells #[.int .i64 st2, .int .i64 go2, f2, n2] 33)).alloc (.cells #[.int .i64 0, .int .i64 0, .slice none 0 0, .slice none 0 0] 33)) := ⟨_, rfl⟩
  obtain ⟨hPa, hPb, hRb, hb3, hs3⟩ := al3 w (.cells #[.int .i64 st, .int .i64 go, f, n] 33) (.cells #[.int .i64 st2, .int .i64 go2, f2, n2] 33) (.cells #[.int .i64 0, .int .i64 0, .slice none 0 0, .slice none 0 0] 33)
  have hP : B4 _ w.heap.size (.int .i64 st) (.int .i64 go) f n 33 := hPa
  have hQ : B4 _ (w.heap.size + 1) (.int .i64 st2) (.int .i64 go2) f2 n2 33 := hPb
  have hR : B4 _ (w.heap.size + 2) (.int .i64 0) (.int .i64 0) (.slice none 0 0) (.slice none 0 0) 33 := hRb
  have HC := Lib.hid (l04Ok_any w.heap.size f n ⟨st, go, fin, nx⟩ _ hP (hF.kept hb3) (hN.kept hb3) hf)
  have HC2 := Lib.hid (fun W (hb : Below w.heap.size w W) hp => l04Ok_any (w.heap.size + 1) f2 n2 ⟨st2, go2, fin2, nx2⟩ W hp (hF2.kept hb) (hN2.kept hb) hf2)
  have HB := Lib.hid hb3
  have HP := Lib.hid hP
  have HQ := Lib.hid hQ
  have HR := Lib.hid hR
  obtain ⟨Af, cf, rfl⟩ := hF.shape
  obtain ⟨An, cn, rfl, _⟩ := hN
  obtain ⟨Af2, cf2, rfl⟩ := hF2.shape
  obtain ⟨An2, cn2, rfl, _⟩ := hN2
  clear hb3 hP hQ hR hPa hPb hRb hs3 hF hF2 hf hf2 hW3
  unfold autBothAuto
  cases ha : aOk ⟨st, go, fin, nx⟩
  · rw [ha] at HC
    rw [if_neg (by simp)]
    clear ha hbad
    go_enter Try.func40, Try.ntmps40
    go_wp2_with fail
    refine HC.out.mono ?_
    rintro e w3 ⟨rfl, hD⟩
    have HB3 := Lib.hid (HB.out.trans (hD.below _))
    have HR3 := Lib.hid (HR.out.kept (hD.below _))
    obtain ⟨⟨x0, x1, x2, x3⟩, d0, d1, d2, d3⟩ := blk4_cells HR3.out
    have HE := Lib.hid (blk4_cells (blk4_all (a' := .int .i64 0) (b' := .int .i64 0) (c' := .slice none 0 0) (d' := .slice none 0 0) HR3.out)).1
    clear hD
    go_wp2_with fail
    obtain ⟨y0, y1, y2, y3⟩ := HE.out
    refine bodyPost_ret (v := .tuple #[.agg #[.int .i64 0, .int .i64 0, .slice none 0 0, .slice none 0 0], .int .i64 1]) (by simp [results, Try.results40, go_sem, y0, y1, y2, y3]) rfl ⟨_, _, _, rfl, zeroA_own _ _, ?_⟩
    exact (((HB3.out.setCell (by simp; try omega) _).setCell (by simp; try omega) _).setCell (by simp; try omega) _).setCell (by simp; try omega) _
  · rw [ha] at HC
    cases hb : aOk ⟨st2, go2, fin2, nx2⟩
    · rw [if_neg (by simp)]
      have HC2' : Hid (∀ W, Below w.heap.size w W → B4 W (w.heap.size + 1) (.int .i64 st2) (.int .i64 go2) (.slice Af2 fin2.length cf2) (.slice An2 nx2.length cn2) 33 → Calls Try.prog 78 #[.pointer (some ⟨w.heap.size + 1, 0, none⟩)] W fun e w' => e = .returned (.bool false) ∧ Drawn W w') := Lib.hid (fun W hb' hp => by have := HC2.out W hb' hp; rwa [hb] at this)
      clear ha hb hbad
      go_enter Try.func40, Try.ntmps40
      go_wp2_with fail
      refine HC.out.mono ?_
      rintro e w3 ⟨rfl, hD⟩
      have HB3 := Lib.hid (HB.out.trans (hD.below _))
      have HR3 := Lib.hid (HR.out.kept (hD.below _))
      have HQ3 := Lib.hid (HQ.out.kept (hD.below _))
      clear hD
      go_wp2_with fail
      refine (HC2'.out _ HB3.out HQ3.out).mono ?_
      rintro e w4 ⟨rfl, hD⟩
      have HB4 := Lib.hid (HB3.out.trans (hD.below _))
      have HR4 := Lib.hid (HR3.out.kept (hD.below _))
      obtain ⟨⟨x0, x1, x2, x3⟩, d0, d1, d2, d3⟩ := blk4_cells HR4.out
      have HE := Lib.hid (blk4_cells (blk4_all (a' := .int .i64 0) (b' := .int .i64 0) (c' := .slice none 0 0) (d' := .slice none 0 0) HR4.out)).1
      clear hD
      go_wp2_with fail
      obtain ⟨y0, y1, y2, y3⟩ := HE.out
      refine bodyPost_ret (v := .tuple #[.agg #[.int .i64 0, .int .i64 0, .slice none 0 0, .slice none 0 0], .int .i64 1]) (by simp [results, Try.results40, go_sem, y0, y1, y2, y3]) rfl ⟨_, _, _, rfl, zeroA_own _ _, ?_⟩
      exact (((HB4.out.setCell (by simp; try omega) _).setCell (by simp; try omega) _).setCell (by simp; try omega) _).setCell (by simp; try omega) _
    · rw [if_pos ⟨rfl, rfl⟩]
      have hlim : ¬ st * st2 ≤ 24 := fun h => hbad ⟨ha, hb, h⟩
      rw [if_neg hlim]
      obtain ⟨⟨h1, h24⟩, _, _⟩ := aOk_parts ha
      obtain ⟨⟨h1', h24'⟩, _, _⟩ := aOk_parts hb
      simp only at h1 h24 h1' h24'
      have hp0 : 0 ≤ st * st2 := Int.mul_nonneg (by omega) (by omega)
      have hp1 : st * st2 ≤ 24 * 24 := Int.mul_le_mul h24 h24' (by omega) (by omega)
      have hw : IntKind.i64.wrap (st * st2) = st * st2 := by rw [IntKind.wrap_i64]; omega
      have hlt : 24 < st * st2 := by omega
      have HC2' : Hid (∀ W, Below w.heap.size w W → B4 W (w.heap.size + 1) (.int .i64 st2) (.int .i64 go2) (.slice Af2 fin2.length cf2) (.slice An2 nx2.length cn2) 33 → Calls Try.prog 78 #[.pointer (some ⟨w.heap.size + 1, 0, none⟩)] W fun e w' => e = .returned (.bool true) ∧ Drawn W w') := Lib.hid (fun W hb' hp => by have := HC2.out W hb' hp; rwa [hb] at this)
      clear ha hb hbad hlim hp0 hp1
      go_enter Try.func40, Try.ntmps40
      go_wp2_with fail
      refine HC.out.mono ?_
      rintro e w3 ⟨rfl, hD⟩
      have HB3 := Lib.hid (HB.out.trans (hD.below _))
      have HR3 := Lib.hid (HR.out.kept (hD.below _))
      have HQ3 := Lib.hid (HQ.out.kept (hD.below _))
      have HP3 := Lib.hid (HP.out.kept (hD.below _))
      clear hD
      go_wp2_with fail
      refine (HC2'.out _ HB3.out HQ3.out).mono ?_
      rintro e w4 ⟨rfl, hD⟩
      have HB4 := Lib.hid (HB3.out.trans (hD.below _))
      have HR4 := Lib.hid (HR3.out.kept (hD.below _))
      have HQ4 := Lib.hid (HQ3.out.kept (hD.below _))
      have HP4 := Lib.hid (HP3.out.kept (hD.below _))
      obtain ⟨⟨x0, x1, x2, x3⟩, d0, d1, d2, d3⟩ := blk4_cells HR4.out
      obtain ⟨⟨p0, p1, p2, p3⟩, _⟩ := blk4_cells HP4.out
      obtain ⟨⟨q0, q1, q2, q3⟩, _⟩ := blk4_cells HQ4.out
      have HE := Lib.hid (blk4_cells (blk4_all (a' := .int .i64 0) (b' := .int .i64 0) (c' := .slice none 0 0) (d' := .slice none 0 0) HR4.out)).1
      clear hD
      go_wp2_with fail
      obtain ⟨y0, y1, y2, y3⟩ := HE.out
      refine bodyPost_ret (v := .tuple #[.agg #[.int .i64 0, .int .i64 0, .slice none 0 0, .slice none 0 0], .int .i64 3]) (by simp [results, Try.results40, go_sem, y0, y1, y2, y3]) rfl ⟨_, _, _, rfl, zeroA_own _ _, ?_⟩
      exact (((HB4.out.setCell (by simp; try omega) _).setCell (by simp; try omega) _).setCell (by simp; try omega) _).setCell (by simp; try omega) _
end Go.Proofs.Ytaffachjopjbgaa
namespace Go.Proofs.Ytaffachjopjbgaa
open Go.RowKit
open Wd
set_option linter.unusedVariables false
/-- a valid automaton's cell, as the program reaches it -/
theorem au_load {x : Au} (hok : aOk x = true) {W : World} {A : Option Addr} {n c : Nat} (hn : n = x.nx.length) (h : IsLL W (.slice A n c) x.nx) {s l : Nat} (hs : (s : Int) < x.st) (hl : l < 4) :
    ∃ a b c', A = some a ∧ W.cell? (a.add s) = some (.slice (some b) 4 c') ∧ W.cell? (b.add l) = some (.int .i64 (at2 x.nx s l)) ∧ (s : Int) < (n : Int) ∧ 0 ≤ at2 x.nx s l ∧ at2 x.nx s l < x.st := by
  subst hn
  obtain ⟨h1, h2, h4, he, hz0, hz1⟩ := au_cell hok hs hl
  obtain ⟨A', c', hv, hc⟩ := h
  injection hv with hA _ _
  subst hA
  rcases hc with hn | ⟨a, rfl, hc⟩
  · rw [hn] at h1; simp at h1
  obtain ⟨u, c0, A2, c2, rfl, hr⟩ := hc s h1
  rw [h4] at c0
  rcases hr with hn | ⟨b, rfl, hr⟩
  · rw [hn] at h2; simp at h2
  have c1 := hr l h2
  rw [he] at c1
  exact ⟨a, b, c2, rfl, c0, c1, by omega, hz0, hz1⟩
theorem HSt.start (w : World) (st go : Int) : HSt w w.heap.size st go [] (.slice none 0 0) [] (.slice none 0 0) (w.alloc (.cells #[.int .i64 st, .int .i64 go, .slice none 0 0, .slice none 0 0] 33)) :=
  ⟨B4.new _ _ _ _ _ _, ⟨[], World.ownsRow_nil _ _ _ _, ⟨World.ownsRow_nil _ _ _ _, Rws.nil _ _⟩, fun u hu => by simp at hu⟩, Nat.le_refl _, (Below.refl _ w).alloc (Nat.le_refl _) _⟩
theorem HSt.ownA {w wr : World} {X : Nat} {st go : Int} {fin : List Int} {f n : Value} {Z : List (List Int)} {c0 c1 c2 c3 : Value} {R : Nat} (h : HSt w X st go fin f Z n wr) (hR : B4 wr R c0 c1 c2 c3 33) (d0 d1 d2 d3 : Value) :
    ∃ U, OwnA ((((wr.setCell ⟨R, 0, none⟩ d0).setCell ⟨R, 1, none⟩ d1).setCell ⟨R, 2, none⟩ d2).setCell ⟨R, 3, none⟩ d3) w.heap.size f n U fin Z := by
  obtain ⟨U, ha⟩ := h.own
  have gk : wr.grownBy ((((wr.setCell ⟨R, 0, none⟩ d0).setCell ⟨R, 1, none⟩ d1).setCell ⟨R, 2, none⟩ d2).setCell ⟨R, 3, none⟩ d3) (some R) := by
    refine ⟨rfl, rfl, rfl, by simp, fun i hi hne => ?_⟩
    have hne' : i ≠ R := fun e => hne (by rw [e])
    rw [Below.heap_setCell _ _ _ _ hne', Below.heap_setCell _ _ _ _ hne', Below.heap_setCell _ _ _ _ hne', Below.heap_setCell _ _ _ _ hne']
  exact ⟨U, World.ownsRow.kept ha.fin gk (own_b4_ne ha.fin hR (by decide)), ⟨World.ownsRow.kept ha.nx.outer gk (own_b4_ne ha.nx.outer hR (by decide)), ha.nx.rows.len, fun j y zs a b => World.ownsRow.kept (ha.nx.rows.row j y zs a b) gk (own_b4_ne (ha.nx.rows.row j y zs a b) hR (by decide)), ha.nx.rows.ne⟩, ha.ne⟩
/-- the start of the product, as the program adds it up -/
theorem both_start {st go : Int} {fin : List Int} {nx : List (List Int)} {st2 go2 : Int} {fin2 : List Int} {nx2 : List (List Int)} (hx : aOk ⟨st, go, fin, nx⟩ = true) (hy : aOk ⟨st2, go2, fin2, nx2⟩ = true) : wrap64 (wrap64 (go * st2) + go2) = go * st2 + go2 := by
  unfold aOk at hx hy
  simp only [Bool.and_eq_true, decide_eq_true_iff] at hx hy
  obtain ⟨⟨⟨⟨a1, a2⟩, a3, a4⟩, _⟩, _⟩ := hx
  obtain ⟨⟨⟨⟨b1, b2⟩, b3, b4⟩, _⟩, _⟩ := hy
  have h0 : 0 ≤ go * st2 := Int.mul_nonneg a3 (by omega)
  have h1 : go * st2 ≤ 24 * 24 := Int.mul_le_mul (by omega) b2 (by omega) (by omega)
  generalize go * st2 = p at *
  unfold wrap64
  omega
set_option maxRecDepth 100000 in
set_option maxHeartbeats 6400000 in
theorem specBothAuto_good (av bv : Value) (x y : Au) (w : World) (hf : FewA x) (h : IsAu w av x) (hf2 : FewA y) (h2 : IsAu w bv y) (ha : aOk x = true) (hb : aOk y = true) (hlim : x.st * y.st ≤ 24) :
    Calls Try.prog 40 #[av, bv] w fun e w' => ∃ f n U, e = .returned (.tuple #[.agg #[.int .i64 (bothA x y).st, .int .i64 (bothA x y).go, f, n], .int .i64 0]) ∧ OwnA w' w.heap.size f n U (bothA x y).fin (bothA x y).nx ∧ Below w.heap.size w w' := by
  obtain ⟨st, go, fin, nx⟩ := x
  obtain ⟨st2, go2, fin2, nx2⟩ := y
  obtain ⟨f, n, rfl, hF, hN⟩ := h
  obtain ⟨f2, n2, rfl, hF2, hN2⟩ := h2
  simp only at hF hN hF2 hN2 ha hb hlim
  obtain ⟨W3, hW3⟩ : ∃ W3, W3 = (((w.alloc (.cells #[.int .i64 st, .int .i64 go, f, n] 33)).alloc (.cells #[.int .i64 st2, .int .i64 go2, f2, n2] 33)).alloc (.cells #[.int .i64 0, .int .i64 0, .slice none 0 0, .slice none 0 0] 33)) := ⟨_, rfl⟩
  obtain ⟨hPa, hPb, hRb, hb3, hs3⟩ := al3 w (.cells #[.int .i64 st, .int .i64 go, f, n] 33) (.cells #[.int .i64 st2, .int .i64 go2, f2, n2] 33) (.cells #[.int .i64 0, .int .i64 0, .slice none 0 0, .slice none 0 0] 33)
  have hP : B4 _ w.heap.size (.int .i64 st) (.int .i64 go) f n 33 := hPa
  have hQ : B4 _ (w.heap.size + 1) (.int .i64 st2) (.int .i64 go2) f2 n2 33 := hPb
  have hR : B4 _ (w.heap.size + 2) (.int .i64 0) (.int .i64 0) (.slice none 0 0) (.slice none 0 0) 33 := hRb
  have HC := Lib.hid (l04Ok_any w.heap.size f n ⟨st, go, fin, nx⟩ _ hP (hF.kept hb3) (hN.kept hb3) hf)
  have HC2 := Lib.hid (fun W (hb : Below w.heap.size w W) hp => l04Ok_any (w.heap.size + 1) f2 n2 ⟨st2, go2, fin2, nx2⟩ W hp (hF2.kept hb) (hN2.kept hb) hf2)
  have HFK := Lib.hid (fun W (hb : Below w.heap.size w W) => hF.kept hb)
  have HFK2 := Lib.hid (fun W (hb : Below w.heap.size w W) => hF2.kept hb)
  have HFW := Lib.hid hf
  have HFW2 := Lib.hid hf2
  have HB := Lib.hid hb3
  have HP := Lib.hid hP
  have HQ := Lib.hid hQ
  have HR := Lib.hid hR
  obtain ⟨Af, cf, rfl⟩ := hF.shape
  have HNK := Lib.hid (fun W (hb : Below w.heap.size w W) => hN.kept hb)
  obtain ⟨An, cn, rfl, _⟩ := hN
  obtain ⟨Af2, cf2, rfl⟩ := hF2.shape
  have HNK2 := Lib.hid (fun W (hb : Below w.heap.size w W) => hN2.kept hb)
  obtain ⟨An2, cn2, rfl, _⟩ := hN2
  clear hb3 hP hQ hR hPa hPb hRb hs3 hF hF2 hf hf2 hW3
  have HAO := Lib.hid ha
  have HBO := Lib.hid hb
  rw [ha] at HC
  have HC2' : Hid (∀ W, Below w.heap.size w W → B4 W (w.heap.size + 1) (.int .i64 st2) (.int .i64 go2) (.slice Af2 fin2.length cf2) (.slice An2 nx2.length cn2) 33 → Calls Try.prog 78 #[.pointer (some ⟨w.heap.size + 1, 0, none⟩)] W fun e w' => e = .returned (.bool true) ∧ Drawn W w') := Lib.hid (fun W hb' hp => by have := HC2.out W hb' hp; rwa [hb] at this)
  obtain ⟨⟨h1, h24⟩, _, _⟩ := aOk_parts ha
  obtain ⟨⟨h1', h24'⟩, _, _⟩ := aOk_parts hb
  simp only at h1 h24 h1' h24'
  have hp0 : 0 ≤ st * st2 := Int.mul_nonneg (by omega) (by omega)
  have hw : IntKind.i64.wrap (st * st2) = st * st2 := by rw [IntKind.wrap_i64]; omega
  have hlt : ¬ 24 < st * st2 := by omega
  clear ha hb
  go_enter Try.func40, Try.ntmps40
  go_wp2_with fail
  refine HC.out.mono ?_
  rintro e w3 ⟨rfl, hD⟩
  have HB3 := Lib.hid (HB.out.trans (hD.below _))
  have HR3 := Lib.hid (HR.out.kept (hD.below _))
  have HQ3 := Lib.hid (HQ.out.kept (hD.below _))
  have HP3 := Lib.hid (HP.out.kept (hD.below _))
  clear hD
  go_wp2_with fail
  refine (HC2'.out _ HB3.out HQ3.out).mono ?_
  rintro e w4 ⟨rfl, hD⟩
  have HB4 := Lib.hid (HB3.out.trans (hD.below _))
  have HR4 := Lib.hid (HR3.out.kept (hD.below _))
  have HQ4 := Lib.hid (HQ3.out.kept (hD.below _))
  have HP4 := Lib.hid (HP3.out.kept (hD.below _))
  obtain ⟨⟨p0, p1, p2, p3⟩, _⟩ := blk4_cells HP4.out
  obtain ⟨⟨q0, q1, q2, q3⟩, _⟩ := blk4_cells HQ4.out
  clear hD
  go_wp2_with fail
  obtain ⟨G, hG⟩ : ∃ G, G = wrap64 (wrap64 (go * st2) + go2) := ⟨_, rfl⟩
  have HG : Hid (G = go * st2 + go2) := Lib.hid (hG.trans (both_start HAO.out HBO.out))
  rw [← hG]
  clear hG
  obtain ⟨M, hM⟩ : ∃ M : Nat, st * st2 = M := ⟨(st * st2).toNat, by omega⟩
  have HM := Lib.hid hM
  have hM24 : M ≤ 24 := by omega
  rw [hM]
  have HST := Lib.hid (HSt.start w4 (M : Int) G)
  obtain ⟨X, hX⟩ : ∃ X, X = w4.heap.size := ⟨_, rfl⟩
  rw [← hX] at HST ⊢
  generalize w4.alloc (.cells #[.int .i64 (M : Int), .int .i64 G, .slice none 0 0, .slice none 0 0] 33) = w5 at *
  have HXE := Lib.hid hX
  clear hX p0 p1 p2 p3 q0 q1 q2 q3 hw hlt hM hlim hp0 HC HB HP HQ HR HC2 HC2' HB3 HR3 HQ3 HP3
  have HPK := Lib.hid (fun W (hb : Below w4.heap.size w4 W) => (blk4_cells (HP4.out.kept hb)).1)
  have HQK := Lib.hid (fun W (hb : Below w4.heap.size w4 W) => (blk4_cells (HQ4.out.kept hb)).1)
  have HH1 := Lib.hid (fun (q : Nat) W (hb : Below w4.heap.size w4 W) => has_any _ fin (q : Int) W HFW.out.fin (HFK.out W (HB4.out.trans (hb.mono HB4.out.size))))
  have HH2 := Lib.hid (fun (q : Nat) W (hb : Below w4.heap.size w4 W) => has_any _ fin2 (q : Int) W HFW2.out.fin (HFK2.out W (HB4.out.trans (hb.mono HB4.out.size))))
  have hst2 : ¬ st2 = 0 := by omega
  obtain ⟨NX, hNX⟩ : ∃ NX, NX = nx.length := ⟨_, rfl⟩
  obtain ⟨NY, hNY⟩ : ∃ NY, NY = nx2.length := ⟨_, rfl⟩
  rw [← hNX] at HPK HNK ⊢
  rw [← hNY] at HQK HNK2 ⊢
  have HNX := Lib.hid hNX
  have HNY := Lib.hid hNY
  clear hNX hNY HP4 HQ4
  go_loopw [7] (fun i wr => ∃ (k : Nat) (f n : Value), k ≤ M ∧ i = .int .i64 k ∧ HSt w4 X (M : Int) G (finK (bothP ⟨st, go, fin, nx⟩ ⟨st2, go2, fin2, nx2⟩) k) f (bothNx ⟨st, go, fin, nx⟩ ⟨st2, go2, fin2, nx2⟩ k) n wr) (fun i _ => M - (intOf i).toNat)
  case atStart => exact ⟨0, _, _, Nat.zero_le _, rfl, HST.out⟩
  case round =>
    obtain ⟨k, f, n, hk, rfl, hst⟩ := hrel
    obtain ⟨wo, rfl⟩ : ∃ wo : World, wo = wr := ⟨_, rfl⟩
    have HS := Lib.hid hst
    obtain ⟨p0, p1, p2, p3⟩ := HPK.out wo hst.below
    obtain ⟨q0, q1, q2, q3⟩ := HQK.out wo hst.below
    obtain ⟨⟨x0, x1, x2, x3⟩, _⟩ := blk4_cells hst.out
    by_cases hkM : k < M
    · obtain ⟨hq, hr, hqb, hrb⟩ := both_split (x := ⟨st, go, fin, nx⟩) (y := ⟨st2, go2, fin2, nx2⟩) HBO.out (s := k) h1 (by have := HM.out; simp only; omega)
      have HBN := Lib.hid (bothNx_succ ⟨st, go, fin, nx⟩ ⟨st2, go2, fin2, nx2⟩ k)
      have hrl := bothRow_len ⟨st, go, fin, nx⟩ ⟨st2, go2, fin2, nx2⟩ k
      have HRG := Lib.hid (fun l (hl : l < 4) => bothRow_get (x := ⟨st, go, fin, nx⟩) (y := ⟨st2, go2, fin2, nx2⟩) (s := k) hl)
      have HBP : Hid (bothP ⟨st, go, fin, nx⟩ ⟨st2, go2, fin2, nx2⟩ k = (hasN fin ((k / st2.toNat : Nat) : Int) && hasN fin2 ((k % st2.toNat : Nat) : Int))) := Lib.hid rfl
      simp only at hq hr hqb hrb HRG
      obtain ⟨q, hqe⟩ : ∃ q, q = k / st2.toNat := ⟨_, rfl⟩
      obtain ⟨r, hre⟩ : ∃ r, r = k % st2.toNat := ⟨_, rfl⟩
      rw [← hqe] at hq hqb HBP HRG
      rw [← hre] at hr hrb HBP HRG
      clear hqe hre
      obtain ⟨row, hrow⟩ : ∃ row, row = bothRow ⟨st, go, fin, nx⟩ ⟨st2, go2, fin2, nx2⟩ k := ⟨_, rfl⟩
      rw [← hrow] at hrl HRG HBN
      have HRL := Lib.hid hrl
      have HRS := Lib.hid (rst_start wo row)
      have hq0 : (0 : Int) ≤ (q : Int) := by omega
      have hr0 : (0 : Int) ≤ (r : Int) := by omega
      have hkM1 : (k : Int) < (M : Int) := by omega
      have HQB := Lib.hid hqb
      have HRB := Lib.hid hrb
      have hq24 : q < 24 := by omega
      have hr24 : r < 24 := by omega
      clear hst hrow hrl hqb hrb
      go_wp2_with fail
      clear p0 p1 p2 p3 q0 q1 q2 q3
      go_loopw [10, 11] (fun tv b wr => ∃ l : Nat, l ≤ 4 ∧ b = .int .i64 l ∧ RSt wo row l tv wr) (fun _ b _ => 4 - (intOf b).toNat)
      case atStart => exact ⟨0, by omega, rfl, HRS.out⟩
      case round =>
        obtain ⟨l, hl4, rfl, hst⟩ := hrel
        obtain ⟨wu, rfl⟩ : ∃ wu : World, wu = wr := ⟨_, rfl⟩
        have HBU := Lib.hid (HS.out.below.trans (hst.2.mono HS.out.below.size))
        by_cases hl : l < 4
        · obtain ⟨i0, hi, hz0, hz1, hz2⟩ := info_parts Try.info_int64
          have hlr : l < row.length := by rw [HRL.out]; exact hl
          obtain ⟨a, b1, d1, hA, c1, c2, c3, cz0, cz1⟩ := au_load (x := ⟨st, go, fin, nx⟩) HAO.out HNX.out (HNK.out w4 HB4.out) HQB.out hl
          obtain ⟨a2, b2, d2, hA2, e1, e2, e3, ez0, ez1⟩ := au_load (x := ⟨st2, go2, fin2, nx2⟩) HBO.out HNY.out (HNK2.out w4 HB4.out) HRB.out hl
          simp only at c2 c3 cz0 cz1 e2 e3 ez0 ez1
          subst hA hA2
          have hg := HRG.out l hl
          obtain ⟨Av, hAv⟩ : ∃ Av, Av = at2 nx q l := ⟨_, rfl⟩
          obtain ⟨Bv, hBv⟩ : ∃ Bv, Bv = at2 nx2 r l := ⟨_, rfl⟩
          rw [← hAv] at c2 cz0 cz1 hg
          rw [← hBv] at e2 ez0 ez1 hg
          have hpr0 : 0 ≤ Av * st2 := Int.mul_nonneg cz0 (by omega)
          have hpr1 : Av * st2 ≤ 24 * 24 := Int.mul_le_mul (by omega) h24' (by omega) (by omega)
          obtain ⟨pr, hpr⟩ : ∃ pr, pr = Av * st2 := ⟨_, rfl⟩
          rw [← hpr] at hpr0 hpr1 hg
          have hmw : IntKind.i64.wrap (Av * st2) = pr := by rw [← hpr, IntKind.wrap_i64]; omega
          have hmw2 : wrap64 (Av * st2) = pr := by rw [← hpr]; unfold wrap64; omega
          have HLR := Lib.hid hlr
          have HZ : Hid (row[l]'HLR.out = pr + Bv) := Lib.hid (by rw [List.getElem?_eq_getElem hlr] at hg; exact Option.some.inj hg)
          have haw : IntKind.i64.wrap (pr + Bv) = pr + Bv := by rw [IntKind.wrap_i64]; omega
          have HSW : Hid (∀ W, Below w4.heap.size w4 W → W.cell? ⟨w.heap.size, 3, none⟩ = some (.slice (some a) NX cn) ∧ W.cell? (a.add q) = some (.slice (some b1) 4 d1) ∧ W.cell? (b1.add l) = some (.int .i64 Av) ∧ W.cell? ⟨w.heap.size + 1, 0, none⟩ = some (.int .i64 st2) ∧ W.cell? ⟨w.heap.size + 1, 3, none⟩ = some (.slice (some a2) NY cn2) ∧ W.cell? (a2.add r) = some (.slice (some b2) 4 d2) ∧ W.cell? (b2.add l) = some (.int .i64 Bv)) := Lib.hid (fun W hb => ⟨(HPK.out W hb).2.2.2, (hb.cell (lt_of_cell c1)).trans c1, (hb.cell (lt_of_cell c2)).trans c2, (HQK.out W hb).1, (HQK.out W hb).2.2.2, (hb.cell (lt_of_cell e1)).trans e1, (hb.cell (lt_of_cell e2)).trans e2⟩)
          obtain ⟨s0, s1, s2, s3, s4, s5, s6⟩ := HSW.out wu HBU.out
          have HF := Lib.hid (HSW.out wu HBU.out)
          have l0 : (0 : Int) ≤ (l : Int) := by omega
          have l1 : (l : Int) < 4 := by omega
          obtain ⟨A3, c4, hA3⟩ := own_slice hst.1
          rw [List.length_take, Nat.min_eq_left (by omega)] at hA3
          subst hA3
          have HST2 := Lib.hid hst
          have HO : Hid (∀ W, Below wu.heap.size wu W → W.ownsRow wo.heap.size 2 1 (.slice A3 l c4) l (iv (row.take l))) := Lib.hid (fun W hb => by
            have := own_below hst.1 hb (Nat.le_refl _)
            unfold OwnsI at this
            rwa [List.length_take, Nat.min_eq_left (by omega)] at this)
          have hws : wo.heap.size ≤ wu.heap.size := hst.2.size
          have HB8 : Hid (∀ w8 : World, Below wo.heap.size wo w8 → w8.cell? ⟨w.heap.size, 3, none⟩ = some (.slice (some a) NX cn) ∧ w8.cell? (a.add q) = some (.slice (some b1) 4 d1) ∧ w8.cell? (b1.add l) = some (.int .i64 Av) ∧ w8.cell? ⟨w.heap.size + 1, 0, none⟩ = some (.int .i64 st2) ∧ w8.cell? ⟨w.heap.size + 1, 3, none⟩ = some (.slice (some a2) NY cn2) ∧ w8.cell? (a2.add r) = some (.slice (some b2) 4 d2) ∧ w8.cell? (b2.add l) = some (.int .i64 Bv)) := Lib.hid (fun w8 hb => HSW.out w8 (HS.out.below.trans (hb.mono HS.out.below.size)))
          clear hst hg hAv hBv hpr c1 c2 e1 e2 hlr cz0 cz1 ez0 ez1 hpr0 hpr1
          go_upto_region 15 with fail
          go_region_held3 (fun w' => w'.cell? ⟨w.heap.size, 3, none⟩ = some (.slice (some a) NX cn) ∧ w'.cell? (a.add q) = some (.slice (some b1) 4 d1) ∧ w'.cell? (b1.add l) = some (.int .i64 Av) ∧ w'.cell? ⟨w.heap.size + 1, 0, none⟩ = some (.int .i64 st2) ∧ w'.cell? ⟨w.heap.size + 1, 3, none⟩ = some (.slice (some a2) NY cn2) ∧ w'.cell? (a2.add r) = some (.slice (some b2) 4 d2) ∧ w'.cell? (b2.add l) = some (.int .i64 Bv))
            (first | go_keep | exact HS8.out)
            (first
              | (refine step_append_lies _ (by rfl) _ _ 22 (by rfl) wo.heap.size 2 i0 (.int .i64 0) 1 8 Try.underlying22 hi hz0 hz1 hz2 (by rfl) (by decide) (.slice A3 l c4) l (iv (row.take l)) (by rfl) ?_ ⟨wu.heap.size, 0, none⟩ 1 1 [.int .i64 (pr + Bv)] (by rfl) (by rfl) ?_ (one_int _ _) (by decide) ?_ ?_ ?_ (wu.heap.size + 1) ?_ ?_
                 skip
                 (first | exact own_drewN (HO.out _ ((Below.refl _ wu).alloc (Nat.le_refl _) _)) 1 | exact HO.out _ ((Below.refl _ wu).alloc (Nat.le_refl _) _))
                 (first | exact one_newD wu _ _ | exact one_new wu _ _)
                 (unfold maxLen; omega)
                 omega
                 (simp; omega)
                 simp
                 intro g8 c8 w8 hown' hgrow _ _
                 have hG : (wu.alloc (.cells #[.int .i64 (pr + Bv)] 2)).grownBy w8 (Value.slice A3 l c4).ownBlock := by first | exact hgrow | exact grown_undrew hgrow
                 have HN8 := Lib.hid (RSt.append HST2.out HLR.out HZ.out hown' hG)
                 have HS8 := Lib.hid (HB8.out w8 HN8.out.2)
                 clear hG hown' hgrow))
          all_goals
            go_wp2_with fail
            go_roundw
            all_goals first | exact ⟨l + 1, by omega, by go_num, HN8.out⟩ | ((repeat apply Exists.intro); exact ⟨⟨l + 1, by omega, by go_num, HN8.out⟩, rfl⟩) | (simp [intOf]; done) | (simp [intOf]; omega) | omega
        · obtain rfl : l = 4 := by omega
          obtain ⟨j0, hj, hy0, hy1, hy2⟩ := info_parts Try.info_ints
          have hO4 := hst.1
          rw [List.take_of_length_le (by rw [HRL.out]; exact Nat.le_refl _)] at hO4
          have HO4 := Lib.hid hO4
          clear hO4
          have HB4' := Lib.hid hst.2
          obtain ⟨U, ha⟩ := HS.out.own
          have HA := Lib.hid ha
          have hUl : U.length = k := by rw [ha.nx.rows.len, bothNx_len]
          have HUL := Lib.hid hUl
          obtain ⟨An', cn', hAn⟩ := own_slice ha.nx.outer
          rw [hUl] at hAn
          subst hAn
          obtain ⟨Ff, cf', hFf⟩ := own_slice ha.fin
          have hws : wo.heap.size ≤ wu.heap.size := hst.2.size
          have hw4s : w4.heap.size ≤ wo.heap.size := HS.out.below.size
          have HOUT : Hid (∀ o, (wu.alloc o).ownsRow w4.heap.size 22 1 (.slice An' k cn') k U) := Lib.hid (fun o => by
            have := ((ha.nx.kept hst.2).outer.alloc o)
            rwa [hUl] at this)
          have HX9 := Lib.hid (HS.out.out.kept hst.2)
          have hX9 : X < wu.heap.size := HX9.out.lt
          obtain ⟨⟨y0, y1, y2, y3⟩, e0, e1, e2, e3⟩ := blk4_cells HX9.out
          obtain ⟨A9, c9, hA9⟩ := own_slice HO4.out
          rw [HRL.out] at hA9
          subst hA9
          clear hst ha hUl x0 x1 x2 x3
          go_wp2_with (first | (at_builtin; refine wpList_append_own _ rfl _ _ 23 rfl w4.heap.size 22 j0 (.slice none 0 0) 1 24 Try.underlying23 hj hy0 hy1 hy2 rfl (by decide) _ _ _ rfl (HOUT.out _) ⟨wu.heap.size, 0, none⟩ 1 1 [.slice A9 4 c9] rfl rfl (one_new _ _ _) (one_slice _ _ _) (by unfold maxLen; omega) (by omega) (by simp; omega) ?_))
          intro n' w10 hown' hgrow _
          obtain ⟨hb4, hnew⟩ := HSt.row HS.out HA.out HB4'.out HO4.out (by rw [HUL.out]; exact hown') hgrow
          rw [← HBN.out] at hnew
          have HNEW := Lib.hid hnew
          obtain ⟨⟨z0, z1, z2, z3⟩, f0, f1, f2, f3⟩ := blk4_cells hb4
          obtain ⟨An3, cn3, rfl⟩ := own_slice hown'
          clear hown' hgrow hb4 hnew y0 y1 y2 y3 e0 e1 e2 e3
          go_upto_region 17 with fail
          generalize w10.setCell ⟨X, 3, none⟩ (.slice An3 (k + 1) cn3) = w11 at *
          clear z0 z1 z2 z3 f0 f1 f2 f3
          have HC1 := Lib.hid (HH1.out q w11 HNEW.out.below)
          have HC2 := Lib.hid (HH2.out r w11 HNEW.out.below)
          obtain ⟨p0, p1, p2, p3⟩ := HPK.out w11 HNEW.out.below
          obtain ⟨q0, q1, q2, q3⟩ := HQK.out w11 HNEW.out.below
          cases hh1 : hasN fin (q : Int)
          · rw [hh1] at HC1
            have HNX := Lib.hid (finK_no (p := bothP ⟨st, go, fin, nx⟩ ⟨st2, go2, fin2, nx2⟩) (k := k) (by rw [HBP.out, hh1]; rfl))
            clear hh1
            go_wp2_with fail
            refine HC1.out.mono ?_
            rintro e w12 ⟨rfl, rfl⟩
            go_wp2_with fail
            go_roundw
            all_goals first | exact ⟨k + 1, f, _, by omega, by go_num, by rw [HNX.out]; exact HNEW.out⟩ | ((repeat apply Exists.intro); exact ⟨⟨k + 1, f, _, by omega, by go_num, by rw [HNX.out]; exact HNEW.out⟩, rfl⟩) | (simp [intOf]; done) | (simp [intOf]; omega) | omega
          · rw [hh1] at HC1
            cases hh2 : hasN fin2 (r : Int)
            · rw [hh2] at HC2
              have HNX := Lib.hid (finK_no (p := bothP ⟨st, go, fin, nx⟩ ⟨st2, go2, fin2, nx2⟩) (k := k) (by rw [HBP.out, hh1, hh2]; rfl))
              clear hh1 hh2
              go_wp2_with fail
              refine HC1.out.mono ?_
              rintro e w12 ⟨rfl, rfl⟩
              go_wp2_with fail
              refine HC2.out.mono ?_
              rintro e w13 ⟨rfl, rfl⟩
              go_wp2_with fail
              go_roundw
              all_goals first | exact ⟨k + 1, f, _, by omega, by go_num, by rw [HNX.out]; exact HNEW.out⟩ | ((repeat apply Exists.intro); exact ⟨⟨k + 1, f, _, by omega, by go_num, by rw [HNX.out]; exact HNEW.out⟩, rfl⟩) | (simp [intOf]; done) | (simp [intOf]; omega) | omega
            · rw [hh2] at HC2
              have HNX := Lib.hid (finK_yes (p := bothP ⟨st, go, fin, nx⟩ ⟨st2, go2, fin2, nx2⟩) (k := k) (by rw [HBP.out, hh1, hh2]; rfl))
              have hlenf := finK_len (bothP ⟨st, go, fin, nx⟩ ⟨st2, go2, fin2, nx2⟩) k
              obtain ⟨U2, ha2⟩ := HNEW.out.own
              have HA2 := Lib.hid ha2
              have hw11s : w4.heap.size ≤ w11.heap.size := HNEW.out.below.size
              have HX11 := Lib.hid HNEW.out.out
              obtain ⟨⟨z0, z1, z2, z3⟩, f0, f1, f2, f3⟩ := blk4_cells HNEW.out.out
              have HFF := Lib.hid hFf
              rw [hFf] at z2
              obtain ⟨i0, hi, hz0, hz1, hz2⟩ := info_parts Try.info_int64
              have HOF : Hid (∀ o, (w11.alloc o).ownsRow w4.heap.size 2 1 (.slice Ff (finK (bothP ⟨st, go, fin, nx⟩ ⟨st2, go2, fin2, nx2⟩) k).length cf') (finK (bothP ⟨st, go, fin, nx⟩ ⟨st2, go2, fin2, nx2⟩) k).length (iv (finK (bothP ⟨st, go, fin, nx⟩ ⟨st2, go2, fin2, nx2⟩) k))) := Lib.hid (fun o => by
                have := ha2.fin.alloc o
                rwa [hFf] at this)
              generalize finK (bothP ⟨st, go, fin, nx⟩ ⟨st2, go2, fin2, nx2⟩) k = fk at *
              clear hh1 hh2 ha2 hFf
              go_wp2_with fail
              refine HC1.out.mono ?_
              rintro e w12 ⟨rfl, rfl⟩
              go_wp2_with fail
              refine HC2.out.mono ?_
              rintro e w13 ⟨rfl, rfl⟩
              go_wp2_with (first | (at_builtin; refine wpList_append_own_at _ rfl _ _ 22 rfl w4.heap.size 2 i0 (.int .i64 0) 1 8 Try.underlying22 hi hz0 hz1 hz2 rfl (by decide) _ _ _ rfl (HOF.out _) ⟨w13.heap.size, 0, none⟩ 1 1 [.int .i64 (k : Int)] rfl rfl (one_new _ _ _) (one_int _ _) (by unfold maxLen; omega) (by omega) (by simp; omega) ?_))
              intro f' w14 hown2 hg2 _ hat2
              obtain ⟨hb5, hnew2⟩ := HSt.fin (k := (k : Int)) HNEW.out HA2.out hown2 (by rw [HFF.out]; exact hg2) (by rw [HFF.out]; simpa using hat2)
              have HNEW2 := Lib.hid hnew2
              obtain ⟨⟨z0, z1, z2, z3⟩, f0, f1, f2, f3⟩ := blk4_cells hb5
              obtain ⟨Af3, cf3, rfl⟩ := own_slice hown2
              clear hown2 hg2 hat2 hb5 hnew2
              go_wp2_with fail
              go_roundw
              all_goals first | exact ⟨k + 1, _, _, by omega, by go_num, by rw [HNX.out]; exact HNEW2.out⟩ | ((repeat apply Exists.intro); exact ⟨⟨k + 1, _, _, by omega, by go_num, by rw [HNX.out]; exact HNEW2.out⟩, rfl⟩) | (simp [intOf]; done) | (simp [intOf]; omega) | omega
    · obtain rfl : k = M := by omega
      have HR9 := Lib.hid (HR4.out.kept hst.below)
      obtain ⟨⟨r0, r1, r2, r3⟩, g0, g1, g2, g3⟩ := blk4_cells HR9.out
      obtain ⟨U, ha⟩ := hst.own
      obtain ⟨Ff, cf', hFf⟩ := own_slice ha.fin
      obtain ⟨An', cn', hAn⟩ := own_slice ha.nx.outer
      have hUl : U.length = k := by rw [ha.nx.rows.len, bothNx_len]
      rw [hUl] at hAn
      have hfe : finK (bothP ⟨st, go, fin, nx⟩ ⟨st2, go2, fin2, nx2⟩) k = (bothA ⟨st, go, fin, nx⟩ ⟨st2, go2, fin2, nx2⟩).fin := by
        show _ = finK _ (Int.toNat (st * st2))
        rw [HM.out, Int.toNat_natCast]
      have hne : bothNx ⟨st, go, fin, nx⟩ ⟨st2, go2, fin2, nx2⟩ k = (bothA ⟨st, go, fin, nx⟩ ⟨st2, go2, fin2, nx2⟩).nx := by
        show _ = bothNx _ _ (Int.toNat (st * st2))
        rw [HM.out, Int.toNat_natCast]
      have HEST : Hid ((k : Int) = (bothA ⟨st, go, fin, nx⟩ ⟨st2, go2, fin2, nx2⟩).st) := Lib.hid (HM.out.symm)
      have HEGO : Hid (G = (bothA ⟨st, go, fin, nx⟩ ⟨st2, go2, fin2, nx2⟩).go) := Lib.hid HG.out
      have HFE := Lib.hid hfe
      have HNE := Lib.hid hne
      generalize finK (bothP ⟨st, go, fin, nx⟩ ⟨st2, go2, fin2, nx2⟩) k = rf at *
      generalize bothNx ⟨st, go, fin, nx⟩ ⟨st2, go2, fin2, nx2⟩ k = rn at *
      have HE := Lib.hid (blk4_cells (blk4_all (a' := .int .i64 (k : Int)) (b' := .int .i64 G) (c' := .slice Ff rf.length cf') (d' := .slice An' k cn') HR9.out)).1
      have HBW := Lib.hid hst.below
      have HA9 := Lib.hid (hst.ownA HR9.out (.int .i64 (k : Int)) (.int .i64 G) (.slice Ff rf.length cf') (.slice An' k cn'))
      have hXw : w.heap.size + 2 < X := by have h1 := HR4.out.lt; have h2 := HXE.out; omega
      subst hFf hAn
      clear hst hfe hne ha hUl p0 p1 p2 p3 q0 q1 q2 q3
      go_wp2_with fail
      obtain ⟨y0, y1, y2, y3⟩ := HE.out
      obtain ⟨U', hA⟩ := HA9.out
      refine bodyPost_ret (v := .tuple #[.agg #[.int .i64 (k : Int), .int .i64 G, .slice Ff rf.length cf', .slice An' k cn'], .int .i64 0]) (by simp [results, Try.results40, go_sem, y0, y1, y2, y3]) rfl ⟨_, _, U', by rw [← HEST.out, ← HEGO.out], ?_, ?_⟩
      · rw [← HFE.out, ← HNE.out]
        exact hA.lower HB4.out.size
      · have hb9 := HB4.out.trans (HBW.out.mono HB4.out.size)
        exact (((hb9.setCell (by simp; try omega) _).setCell (by simp; try omega) _).setCell (by simp; try omega) _).setCell (by simp; try omega) _
end Go.Proofs.Ytaffachjopjbgaa
namespace Go.Proofs.Ytaffachjopjbgaa
open Go.RowKit
open Wd
set_option linter.unusedVariables false
theorem below_undrewB {B : Nat} {w w' : World} (h : Below B w.drew w') : Below B w w' := ⟨h.os, h.tape, h.output, h.size, fun k hk => h.block k hk⟩
set_option maxRecDepth 100000 in
set_option maxHeartbeats 3200000 in
theorem both1_any (s q r : Nat) (Q1 NP Q2 P1 P2 : Nat) (a0 a1 f n b0 b1 f2 n2 : Value) (fin fin2 : List Int) (st2 : Int) (w : World) (hl : fin.length ≤ 1048576) (hl2 : fin2.length ≤ 1048576) (h1 : B4 w P1 a0 a1 f n 33) (h2 : B4 w P2 b0 b1 f2 n2 33) (hF : IsL w f fin) (hF2 : IsL w f2 fin2)
    (c1 : w.cell? ⟨Q1, 0, none⟩ = some (.func (.func 161) #[] #[.pointer (some ⟨P1, 0, none⟩)])) (c2 : w.cell? ⟨Q2, 0, none⟩ = some (.func (.func 161) #[] #[.pointer (some ⟨P2, 0, none⟩)])) (cn : w.cell? ⟨NP, 0, none⟩ = some (.int .i64 st2))
    (hst : 1 ≤ st2) (hst' : st2 ≤ 24) (hq : (s : Int).tdiv st2 = q) (hr : (s : Int).tmod st2 = r) (hq24 : q < 600) (hr24 : r < 600) (hs : s < 600) :
    Calls Try.prog 109 #[.int .i64 (s : Int), .pointer (some ⟨Q1, 0, none⟩), .pointer (some ⟨NP, 0, none⟩), .pointer (some ⟨Q2, 0, none⟩)] w fun e w' => e = .returned (.bool (hasN fin (q : Int) && hasN fin2 (r : Int))) ∧ Below w.heap.size w w' := by
  have HC1 := Lib.hid (fun m => final_any (q : Int) P1 a0 a1 f n fin (w.drewN m) hl h1 (hF.kept (below_drewN (Below.refl _ w) m)))
  have HC2 := Lib.hid (fun m => final_any (r : Int) P2 b0 b1 f2 n2 fin2 (w.drewN m) hl2 h2 (hF2.kept (below_drewN (Below.refl _ w) m)))
  have hne : ¬ st2 = 0 := by omega
  have hqw : IntKind.i64.wrap (q : Int) = (q : Int) := by rw [IntKind.wrap_i64]; omega
  have hrw : IntKind.i64.wrap (r : Int) = (r : Int) := by rw [IntKind.wrap_i64]; omega
  have HK := Lib.hid (And.intro c1 (And.intro c2 cn))
  clear h1 h2 hF hF2 hl hl2
  cases e1 : hasN fin (q : Int)
  · rw [e1] at HC1
    clear e1
    go_enter Try.func109, Try.ntmps109
    go_wp2_with fail
    go_quiet ((go_at_call_of 161 (Value.pointer (some ⟨P1, 0, none⟩)); exact Calls.quiet_of_same (HC1.out _)))
    all_goals
      go_wp2_with fail
      go_ret
      first | exact ⟨rfl, Below.refl _ _⟩ | exact ⟨rfl, below_drewN (Below.refl _ _) 1⟩ | exact ⟨rfl, below_drewN (Below.refl _ _) _⟩
  · rw [e1] at HC1
    clear e1
    generalize hasN fin2 (r : Int) = b2 at *
    go_enter Try.func109, Try.ntmps109
    go_wp2_with fail
    go_quiet ((first
      | (go_at_call_of 161 (Value.pointer (some ⟨P1, 0, none⟩)); exact Calls.quiet_of_same (HC1.out _))
      | (go_at_call_of 161 (Value.pointer (some ⟨P2, 0, none⟩)); exact Calls.quiet_of_same (HC2.out _))))
    all_goals
      go_wp2_with fail
      go_ret
      first | exact ⟨rfl, Below.refl _ _⟩ | exact ⟨rfl, below_drewN (Below.refl _ _) 1⟩ | exact ⟨rfl, below_drewN (Below.refl _ _) _⟩
set_option maxRecDepth 100000 in
set_option maxHeartbeats 1600000 in
theorem finals_two (Q1 NP Q2 : Nat) (p : Nat → Bool) (m : Nat) (hm : m ≤ 1048576) (w : World) (h : ∀ W, Below w.heap.size w W → ∀ k : Nat, k < m → Calls Try.prog 109 #[.int .i64 (k : Int), .pointer (some ⟨Q1, 0, none⟩), .pointer (some ⟨NP, 0, none⟩), .pointer (some ⟨Q2, 0, none⟩)] W fun e w' => e = .returned (.bool (p k)) ∧ Below W.heap.size W w') :
    Calls Try.prog 108 #[.int .i64 (m : Int), .func (.func 109) #[] #[.pointer (some ⟨Q1, 0, none⟩), .pointer (some ⟨NP, 0, none⟩), .pointer (some ⟨Q2, 0, none⟩)]] w fun e w' => ∃ y, e = .returned y ∧ OwnsI w' w.heap.size y (finK p m) ∧ Below w.heap.size w w' := by
  obtain ⟨i0, hi, hz0, hz1, hz2⟩ := info_parts Try.info_int64
  have hb := (Below.refl _ w).alloc (Nat.le_refl _) (.cells #[] 2)
  have HB := Lib.hid hb
  have HL := Lib.hid (World.ownsRow_lit (base := w.heap.size) (e := 2) (size := 1) w #[] 0 (Nat.le_refl _) (by decide) rfl)
  have HH := Lib.hid h
  clear hb h
  go_enter Try.func108, Try.ntmps108
  go_wp2_with fail
  go_loopw [5, 9] (fun y i wr => ∃ k : Nat, k ≤ m ∧ i = .int .i64 k ∧ OwnsI wr w.heap.size y (finK p k) ∧ Below w.heap.size w wr) (fun _ i _ => m - (intOf i).toNat)
  case atStart => exact ⟨0, Nat.zero_le _, rfl, HL.out, HB.out⟩
  case round =>
    obtain ⟨k, hk, rfl, hown, hB⟩ := hrel
    obtain ⟨wo, rfl⟩ : ∃ wo : World, wo = wr := ⟨_, rfl⟩
    by_cases hlt : k < m
    · have HC := Lib.hid (HH.out wo hB k hlt)
      have HO := Lib.hid hown
      have HBW := Lib.hid hB
      have hlen := finK_len p k
      cases hp : p k
      · rw [hp] at HC
        have HNX := Lib.hid (finK_no hp)
        clear hp hown hB
        go_wp2_with fail
        refine HC.out.mono ?_
        rintro e w5 ⟨rfl, hB5⟩
        have HO := Lib.hid (own_below HO.out hB5 (Nat.le_refl _))
        have HBW := Lib.hid (HBW.out.trans (hB5.mono HBW.out.size))
        clear hB5
        go_wp2_with fail
        go_roundw
        case rel => exact ⟨k + 1, by omega, by go_num, by rw [HNX.out]; exact HO.out, HBW.out⟩
        case measure => simp [intOf]; omega
      · rw [hp] at HC
        have HNX := Lib.hid (finK_yes hp)
        obtain ⟨A2, c2, rfl⟩ := own_slice hown
        generalize hfk : finK p k = fk at *
        clear hp hown hB hfk
        go_wp2_with fail
        refine HC.out.mono ?_
        rintro e w5 ⟨rfl, hB5⟩
        have HO := Lib.hid (own_below HO.out hB5 (Nat.le_refl _))
        have HBW := Lib.hid (HBW.out.trans (hB5.mono HBW.out.size))
        clear hB5
        have hs5 : w.heap.size ≤ w5.heap.size := HBW.out.size
        go_wp2_with (first | (at_builtin; refine wpList_append_own _ rfl _ _ 22 rfl w.heap.size 2 i0 (.int .i64 0) 1 8 Try.underlying22 hi hz0 hz1 hz2 rfl (by decide) _ _ _ rfl (HO.out.alloc _) ⟨w5.heap.size, 0, none⟩ 1 1 [.int .i64 k] rfl rfl (one_new _ _ _) (one_int _ _) (by unfold maxLen; omega) (by omega) (by simp; omega) ?_))
        intro v' w6 hown hg _
        have HO6 : Hid (OwnsI w6 w.heap.size v' (fk ++ [(k : Int)])) := Lib.hid (by
          unfold OwnsI
          rw [List.length_append, iv_app]
          exact hown)
        have HB6 := Lib.hid ((HBW.out.alloc hs5 _).grown hg (by simp; omega) (fun q hq => (HO.out.lt q hq).1))
        clear hown hg
        go_wp2_with fail
        go_roundw
        case rel => exact ⟨k + 1, by omega, by go_num, by rw [HNX.out]; exact HO6.out, HB6.out⟩
        case measure => simp [intOf]; omega
    · obtain rfl : k = m := by omega
      go_wp2_with fail
      go_ret
      exact ⟨_, rfl, hown, hB⟩
end Go.Proofs.Ytaffachjopjbgaa
namespace Go.Proofs.Ytaffachjopjbgaa
open Go.RowKit
open Wd
set_option linter.unusedVariables false
set_option maxRecDepth 100000 in
set_option maxHeartbeats 6400000 in
theorem implBothAuto_bad (av bv : Value) (x y : Au) (w : World) (hf : FewA x) (h : IsAu w av x) (hf2 : FewA y) (h2 : IsAu w bv y) (hbad : ¬ (aOk x = true ∧ aOk y = true ∧ x.st * y.st ≤ 24)) :
    Calls Try.prog 41 #[av, bv] w fun e w' => ∃ f n U, e = .returned (.tuple #[.agg #[.int .i64 (autBothAuto x y).1.st, .int .i64 (autBothAuto x y).1.go, f, n], .int .i64 (autBothAuto x y).2]) ∧ OwnA w' w.heap.size f n U (autBothAuto x y).1.fin (autBothAuto x y).1.nx ∧ Below w.heap.size w w' := by
  have HIS := Lib.hid (fun W (hb : Below w.heap.size w W) => h.kept hb)
  have HIS2 := Lib.hid (fun W (hb : Below w.heap.size w W) => h2.kept hb)
  obtain ⟨st, go, fin, nx⟩ := x
  obtain ⟨st2, go2, fin2, nx2⟩ := y
  obtain ⟨f, n, rfl, hF, hN⟩ := h
  obtain ⟨f2, n2, rfl, hF2, hN2⟩ := h2
  simp only at hF hN hF2 hN2 hbad
  obtain ⟨W3, hW3⟩ : ∃ W3, W3 = (((w.alloc (.cells #[.int .i64 st, .int .i64 go, f, n] 33)).alloc (.cells #[.int .i64 st2, .int .i64 go2, f2, n2] 33)).alloc (.cells #[.int .i64 0, .int .i64 0, .slice none 0 0, .slice none 0 0] 33)) := ⟨_, rfl⟩
  obtain ⟨hPa, hPb, hRb, hb3, hs3⟩ := al3 w (.cells #[.int .i64 st, .int .i64 go, f, n] 33) (.cells #[.int .i64 st2, .int .i64 go2, f2, n2] 33) (.cells #[.int .i64 0, .int .i64 0, .slice none 0 0, .slice none 0 0] 33)
  have hP : B4 _ w.heap.size (.int .i64 st) (.int .i64 go) f n 33 := hPa
  have hQ : B4 _ (w.heap.size + 1) (.int .i64 st2) (.int .i64 go2) f2 n2 33 := hPb
  have hR : B4 _ (w.heap.size + 2) (.int .i64 0) (.int .i64 0) (.slice none 0 0) (.slice none 0 0) 33 := hRb
  have HC := Lib.hid (implValidAuto _ ⟨st, go, fin, nx⟩ _ hf (HIS.out _ hb3))
  have HC2 := Lib.hid (fun W (hb : Below w.heap.size w W) => implValidAuto _ ⟨st2, go2, fin2, nx2⟩ W hf2 (HIS2.out W hb))
  have HB := Lib.hid hb3
  have HP := Lib.hid hP
  have HQ := Lib.hid hQ
  have HR := Lib.hid hR
  obtain ⟨Af, cf, rfl⟩ := hF.shape
  obtain ⟨An, cn, rfl, _⟩ := hN
  obtain ⟨Af2, cf2, rfl⟩ := hF2.shape
  obtain ⟨An2, cn2, rfl, _⟩ := hN2
  clear hb3 hP hQ hR hPa hPb hRb hs3 hF hF2 hf hf2 hW3 HIS HIS2
  unfold autBothAuto
  cases ha : aOk ⟨st, go, fin, nx⟩
  · rw [ha] at HC
    rw [if_neg (by simp)]
    clear ha hbad
    obtain ⟨⟨p0, p1, p2, p3⟩, _⟩ := blk4_cells HP.out
    go_enter Try.func41, Try.ntmps41
    go_wp2_with fail
    refine HC.out.mono ?_
    rintro e w3 ⟨rfl, hD⟩
    have HB3 := Lib.hid (HB.out.trans (hD.mono HB.out.size))
    have HR3 := Lib.hid (HR.out.kept hD)
    obtain ⟨⟨x0, x1, x2, x3⟩, d0, d1, d2, d3⟩ := blk4_cells HR3.out
    have HE := Lib.hid (blk4_cells (blk4_all (a' := .int .i64 0) (b' := .int .i64 0) (c' := .slice none 0 0) (d' := .slice none 0 0) HR3.out)).1
    clear hD
    go_wp2_with fail
    obtain ⟨y0, y1, y2, y3⟩ := HE.out
    refine bodyPost_ret (v := .tuple #[.agg #[.int .i64 0, .int .i64 0, .slice none 0 0, .slice none 0 0], .int .i64 1]) (by simp [results, Try.results41, go_sem, y0, y1, y2, y3]) rfl ⟨_, _, _, rfl, zeroA_own _ _, ?_⟩
    exact (((HB3.out.setCell (by simp; try omega) _).setCell (by simp; try omega) _).setCell (by simp; try omega) _).setCell (by simp; try omega) _
  · rw [ha] at HC
    cases hb : aOk ⟨st2, go2, fin2, nx2⟩
    · rw [if_neg (by simp)]
      have HC2' : Hid (∀ W, Below w.heap.size w W → Calls Try.prog 107 #[.agg #[.int .i64 st2, .int .i64 go2, .slice Af2 fin2.length cf2, .slice An2 nx2.length cn2]] W fun e w' => e = .returned (.bool false) ∧ Below W.heap.size W w') := Lib.hid (fun W hb' => by have := HC2.out W hb'; rwa [hb] at this)
      clear ha hb hbad
      go_enter Try.func41, Try.ntmps41
      go_wp2_with fail
      refine HC.out.mono ?_
      rintro e w3 ⟨rfl, hD⟩
      have HB3 := Lib.hid (HB.out.trans (hD.mono HB.out.size))
      have HR3 := Lib.hid (HR.out.kept hD)
      have HQ3 := Lib.hid (HQ.out.kept hD)
      obtain ⟨⟨s0, s1, s2, s3⟩, _⟩ := blk4_cells HQ3.out
      clear hD
      go_wp2_with fail
      refine (HC2'.out _ HB3.out).mono ?_
      rintro e w4 ⟨rfl, hD⟩
      have HB4 := Lib.hid (HB3.out.trans (hD.mono HB3.out.size))
      have HR4 := Lib.hid (HR3.out.kept hD)
      obtain ⟨⟨x0, x1, x2, x3⟩, d0, d1, d2, d3⟩ := blk4_cells HR4.out
      have HE := Lib.hid (blk4_cells (blk4_all (a' := .int .i64 0) (b' := .int .i64 0) (c' := .slice none 0 0) (d' := .slice none 0 0) HR4.out)).1
      clear hD
      go_wp2_with fail
      obtain ⟨y0, y1, y2, y3⟩ := HE.out
      refine bodyPost_ret (v := .tuple #[.agg #[.int .i64 0, .int .i64 0, .slice none 0 0, .slice none 0 0], .int .i64 1]) (by simp [results, Try.results41, go_sem, y0, y1, y2, y3]) rfl ⟨_, _, _, rfl, zeroA_own _ _, ?_⟩
      exact (((HB4.out.setCell (by simp; try omega) _).setCell (by simp; try omega) _).setCell (by simp; try omega) _).setCell (by simp; try omega) _
    · rw [if_pos ⟨rfl, rfl⟩]
      have hlim : ¬ st * st2 ≤ 24 := fun h => hbad ⟨ha, hb, h⟩
      rw [if_neg hlim]
      obtain ⟨⟨h1, h24⟩, _, _⟩ := aOk_parts ha
      obtain ⟨⟨h1', h24'⟩, _, _⟩ := aOk_parts hb
      simp only at h1 h24 h1' h24'
      have hp0 : 0 ≤ st * st2 := Int.mul_nonneg (by omega) (by omega)
      have hp1 : st * st2 ≤ 24 * 24 := Int.mul_le_mul h24 h24' (by omega) (by omega)
      have hw : IntKind.i64.wrap (st * st2) = st * st2 := by rw [IntKind.wrap_i64]; omega
      have hlt : 24 < st * st2 := by omega
      have HC2' : Hid (∀ W, Below w.heap.size w W → Calls Try.prog 107 #[.agg #[.int .i64 st2, .int .i64 go2, .slice Af2 fin2.length cf2, .slice An2 nx2.length cn2]] W fun e w' => e = .returned (.bool true) ∧ Below W.heap.size W w') := Lib.hid (fun W hb' => by have := HC2.out W hb'; rwa [hb] at this)
      clear ha hb hbad hlim hp0 hp1
      go_enter Try.func41, Try.ntmps41
      go_wp2_with fail
      refine HC.out.mono ?_
      rintro e w3 ⟨rfl, hD⟩
      have HB3 := Lib.hid (HB.out.trans (hD.mono HB.out.size))
      have HR3 := Lib.hid (HR.out.kept hD)
      have HQ3 := Lib.hid (HQ.out.kept hD)
      obtain ⟨⟨s0, s1, s2, s3⟩, _⟩ := blk4_cells HQ3.out
      have HP3 := Lib.hid (HP.out.kept hD)
      clear hD
      go_wp2_with fail
      refine (HC2'.out _ HB3.out).mono ?_
      rintro e w4 ⟨rfl, hD⟩
      have HB4 := Lib.hid (HB3.out.trans (hD.mono HB3.out.size))
      have HR4 := Lib.hid (HR3.out.kept hD)
      have HQ4 := Lib.hid (HQ3.out.kept hD)
      have HP4 := Lib.hid (HP3.out.kept hD)
      clear hD s0 s1 s2 s3
      obtain ⟨⟨p0, p1, p2, p3⟩, _⟩ := blk4_cells HP4.out
      obtain ⟨⟨q0, q1, q2, q3⟩, _⟩ := blk4_cells HQ4.out
      go_upto_region 4 with fail
      clear p0 p1 p2 p3 q0 q1 q2 q3
      have hb5 := (Below.refl _ w4).alloc (Nat.le_refl _) (.cells #[.int .i64 st2] 2)
      have hn5 : (w4.alloc (.cells #[.int .i64 st2] 2)).cell? ⟨w4.heap.size, 0, none⟩ = some (.int .i64 st2) := cell_of_row _ _ 0 _ _ _ (heap_alloc_new w4 (.cells #[.int .i64 st2] 2))
      have hs5 : (w4.alloc (.cells #[.int .i64 st2] 2)).heap.size = w4.heap.size + 1 := by simp
      generalize w4.alloc (.cells #[.int .i64 st2] 2) = w5 at *
      have HB5 := Lib.hid (HB4.out.trans (hb5.mono HB4.out.size))
      have HR5 := Lib.hid (HR4.out.kept hb5)
      have HQ5 := Lib.hid (HQ4.out.kept hb5)
      have HP5 := Lib.hid (HP4.out.kept hb5)
      obtain ⟨NP, hNP⟩ : ∃ NP, NP = w4.heap.size := ⟨_, rfl⟩
      rw [← hNP] at hn5 hs5 ⊢
      have HS5 := Lib.hid hs5
      have HNP := Lib.hid hNP
      clear hb5 hNP hs5
      obtain ⟨⟨p0, p1, p2, p3⟩, _⟩ := blk4_cells HP5.out
      obtain ⟨⟨q0, q1, q2, q3⟩, _⟩ := blk4_cells HQ5.out
      go_upto_region 5 with fail
      have hb6 := (Below.refl _ w5).alloc (Nat.le_refl _) (.cells #[.int .i64 (st * st2), .int .i64 (wrap64 (wrap64 (go * st2) + go2)), .slice none 0 0, .slice none 0 0] 33)
      have hX6 : B4 (w5.alloc (.cells #[.int .i64 (st * st2), .int .i64 (wrap64 (wrap64 (go * st2) + go2)), .slice none 0 0, .slice none 0 0] 33)) w5.heap.size _ _ _ _ _ := B4.new _ _ _ _ _ _
      generalize w5.alloc (.cells #[.int .i64 (st * st2), .int .i64 (wrap64 (wrap64 (go * st2) + go2)), .slice none 0 0, .slice none 0 0] 33) = w6 at *
      have HB6 := Lib.hid (HB5.out.trans (hb6.mono HB5.out.size))
      have HR6 := Lib.hid (HR5.out.kept hb6)
      obtain ⟨⟨z0, z1, z2, z3⟩, _⟩ := blk4_cells hX6
      obtain ⟨⟨x0, x1, x2, x3⟩, d0, d1, d2, d3⟩ := blk4_cells HR6.out
      have HE := Lib.hid (blk4_cells (blk4_all (a' := .int .i64 0) (b' := .int .i64 0) (c' := .slice none 0 0) (d' := .slice none 0 0) HR6.out)).1
      clear hb6 hX6 p0 p1 p2 p3 q0 q1 q2 q3
      go_wp2_with fail
      obtain ⟨y0, y1, y2, y3⟩ := HE.out
      refine bodyPost_ret (v := .tuple #[.agg #[.int .i64 0, .int .i64 0, .slice none 0 0, .slice none 0 0], .int .i64 3]) (by simp [results, Try.results41, go_sem, y0, y1, y2, y3]) rfl ⟨_, _, _, rfl, zeroA_own _ _, ?_⟩
      exact (((HB6.out.setCell (by simp; try omega) _).setCell (by simp; try omega) _).setCell (by simp; try omega) _).setCell (by simp; try omega) _
end Go.Proofs.Ytaffachjopjbgaa
namespace Go.Proofs.Ytaffachjopjbgaa
open Go.RowKit
open Wd
set_option linter.unusedVariables false
theorem bs_drew {u v : World} (h : Below u.heap.size u v) : Below u.heap.size u v.drew := below_drewN h 1
theorem bs_alloc {u v : World} (h : Below u.heap.size u v) (o : Obj) : Below u.heap.size u (v.alloc o) := h.alloc h.size o
/-- the boxes that the two function values stand on -/
structure BClo (w6 : World) (st go st2 go2 : Int) (f n f2 n2 : Value) (P1 P2 Q1 Q2 : Nat) (wx : World) : Prop where
  a : B4 wx P1 (.int .i64 st) (.int .i64 go) f n 33
  b : B4 wx P2 (.int .i64 st2) (.int .i64 go2) f2 n2 33
  qa : wx.cell? ⟨Q1, 0, none⟩ = some (.func (.func 161) #[] #[.pointer (some ⟨P1, 0, none⟩)])
  qb : wx.cell? ⟨Q2, 0, none⟩ = some (.func (.func 161) #[] #[.pointer (some ⟨P2, 0, none⟩)])
  below : Below w6.heap.size w6 wx
theorem clo4 {st go st2 go2 : Int} {f n f2 n2 : Value} (w6 : World) (o0 o1 o2 o3 : Obj) (i1 i2 j1 j2 : Nat) (h1 : [o0, o1, o2, o3][i1]? = some (.cells #[.int .i64 st, .int .i64 go, f, n] 33)) (h2 : [o0, o1, o2, o3][i2]? = some (.cells #[.int .i64 st2, .int .i64 go2, f2, n2] 33))
    (h3 : [o0, o1, o2, o3][j1]? = some (.cells #[.func (.func 161) #[] #[.pointer (some ⟨w6.heap.size + i1, 0, none⟩)]] 118)) (h4 : [o0, o1, o2, o3][j2]? = some (.cells #[.func (.func 161) #[] #[.pointer (some ⟨w6.heap.size + i2, 0, none⟩)]] 118)) :
    BClo w6 st go st2 go2 f n f2 n2 (w6.heap.size + i1) (w6.heap.size + i2) (w6.heap.size + j1) (w6.heap.size + j2) ((((w6.alloc o0).alloc o1).alloc o2).alloc o3).drew := by
  obtain ⟨k0, k1, k2, hb3, hs3⟩ := al3 w6 o0 o1 o2
  have k3 := heap_alloc_new (((w6.alloc o0).alloc o1).alloc o2) o3
  have hb4 := (Below.refl _ (((w6.alloc o0).alloc o1).alloc o2)).alloc (Nat.le_refl _) o3
  rw [hs3] at k3
  have key : ∀ i o, [o0, o1, o2, o3][i]? = some o → ((((w6.alloc o0).alloc o1).alloc o2).alloc o3).heap[w6.heap.size + i]? = some o := by
    intro i o h
    match i, h with
    | 0, h => simp at h; subst h; exact (hb4.block _ (by omega)).trans k0
    | 1, h => simp at h; subst h; exact (hb4.block _ (by omega)).trans k1
    | 2, h => simp at h; subst h; exact (hb4.block _ (by omega)).trans k2
    | 3, h => simp at h; subst h; exact k3
    | i + 4, h => simp at h
  exact ⟨key _ _ h1, key _ _ h2, cell_of_row _ _ 0 _ _ _ (key _ _ h3), cell_of_row _ _ 0 _ _ _ (key _ _ h4), below_drewN (hb3.trans (hb4.mono (by omega))) 1⟩
set_option maxRecDepth 100000 in
set_option maxHeartbeats 12800000 in
theorem implBothAuto_good (av bv : Value) (x y : Au) (w : World) (hf : FewA x) (h : IsAu w av x) (hf2 : FewA y) (h2 : IsAu w bv y) (ha : aOk x = true) (hb : aOk y = true) (hlim : x.st * y.st ≤ 24) :
    Calls Try.prog 41 #[av, bv] w fun e w' => ∃ f n U, e = .returned (.tuple #[.agg #[.int .i64 (bothA x y).st, .int .i64 (bothA x y).go, f, n], .int .i64 0]) ∧ OwnA w' w.heap.size f n U (bothA x y).fin (bothA x y).nx ∧ Below w.heap.size w w' := by
  have HIS := Lib.hid (fun W (hb : Below w.heap.size w W) => h.kept hb)
  have HIS2 := Lib.hid (fun W (hb : Below w.heap.size w W) => h2.kept hb)
  obtain ⟨st, go, fin, nx⟩ := x
  obtain ⟨st2, go2, fin2, nx2⟩ := y
  obtain ⟨f, n, rfl, hF, hN⟩ := h
  obtain ⟨f2, n2, rfl, hF2, hN2⟩ := h2
  simp only at hF hN hF2 hN2 ha hb hlim
  obtain ⟨W3, hW3⟩ : ∃ W3, W3 = (((w.alloc (.cells #[.int .i64 st, .int .i64 go, f, n] 33)).alloc (.cells #[.int .i64 st2, .int .i64 go2, f2, n2] 33)).alloc (.cells #[.int .i64 0, .int .i64 0, .slice none 0 0, .slice none 0 0] 33)) := ⟨_, rfl⟩
  obtain ⟨hPa, hPb, hRb, hb3, hs3⟩ := al3 w (.cells #[.int .i64 st, .int .i64 go, f, n] 33) (.cells #[.int .i64 st2, .int .i64 go2, f2, n2] 33) (.cells #[.int .i64 0, .int .i64 0, .slice none 0 0, .slice none 0 0] 33)
  have hP : B4 _ w.heap.size (.int .i64 st) (.int .i64 go) f n 33 := hPa
  have hQ : B4 _ (w.heap.size + 1) (.int .i64 st2) (.int .i64 go2) f2 n2 33 := hPb
  have hR : B4 _ (w.heap.size + 2) (.int .i64 0) (.int .i64 0) (.slice none 0 0) (.slice none 0 0) 33 := hRb
  have HC := Lib.hid (implValidAuto _ ⟨st, go, fin, nx⟩ _ hf (HIS.out _ hb3))
  have HC2 := Lib.hid (fun W (hb : Below w.heap.size w W) => implValidAuto _ ⟨st2, go2, fin2, nx2⟩ W hf2 (HIS2.out W hb))
  have HFK := Lib.hid (fun W (hb : Below w.heap.size w W) => hF.kept hb)
  have HFK2 := Lib.hid (fun W (hb : Below w.heap.size w W) => hF2.kept hb)
  have HNK := Lib.hid (fun W (hb : Below w.heap.size w W) => hN.kept hb)
  have HNK2 := Lib.hid (fun W (hb : Below w.heap.size w W) => hN2.kept hb)
  have HFW := Lib.hid hf
  have HFW2 := Lib.hid hf2
  have HB := Lib.hid hb3
  have HP := Lib.hid hP
  have HQ := Lib.hid hQ
  have HR := Lib.hid hR
  obtain ⟨Af, cf, rfl⟩ := hF.shape
  obtain ⟨An, cn, rfl, _⟩ := hN
  obtain ⟨Af2, cf2, rfl⟩ := hF2.shape
  obtain ⟨An2, cn2, rfl, _⟩ := hN2
  clear hb3 hP hQ hR hPa hPb hRb hs3 hF hF2 hf hf2 hW3 HIS HIS2
  have HAO := Lib.hid ha
  have HBO := Lib.hid hb
  rw [ha] at HC
  have HC2' : Hid (∀ W, Below w.heap.size w W → Calls Try.prog 107 #[.agg #[.int .i64 st2, .int .i64 go2, .slice Af2 fin2.length cf2, .slice An2 nx2.length cn2]] W fun e w' => e = .returned (.bool true) ∧ Below W.heap.size W w') := Lib.hid (fun W hb' => by have := HC2.out W hb'; rwa [hb] at this)
  obtain ⟨⟨h1, h24⟩, _, _⟩ := aOk_parts ha
  obtain ⟨⟨h1', h24'⟩, _, _⟩ := aOk_parts hb
  simp only at h1 h24 h1' h24'
  have hp0 : 0 ≤ st * st2 := Int.mul_nonneg (by omega) (by omega)
  obtain ⟨M, hM⟩ : ∃ M : Nat, st * st2 = M := ⟨(st * st2).toNat, by omega⟩
  have hM24 : M ≤ 24 := by omega
  have hw : IntKind.i64.wrap (st * st2) = (M : Int) := by rw [hM, IntKind.wrap_i64]; omega
  have hlt : ¬ 24 < (M : Int) := by omega
  have HM := Lib.hid hM
  clear ha hb hlim hp0 hM
  go_enter Try.func41, Try.ntmps41
  go_wp2_with fail
  refine HC.out.mono ?_
  rintro e w3 ⟨rfl, hD⟩
  have HB3 := Lib.hid (HB.out.trans (hD.mono HB.out.size))
  have HR3 := Lib.hid (HR.out.kept hD)
  have HQ3 := Lib.hid (HQ.out.kept hD)
  have HP3 := Lib.hid (HP.out.kept hD)
  obtain ⟨⟨s0, s1, s2, s3⟩, _⟩ := blk4_cells HQ3.out
  clear hD
  go_wp2_with fail
  refine (HC2'.out _ HB3.out).mono ?_
  rintro e w4 ⟨rfl, hD⟩
  have HB4 := Lib.hid (HB3.out.trans (hD.mono HB3.out.size))
  have HR4 := Lib.hid (HR3.out.kept hD)
  have HQ4 := Lib.hid (HQ3.out.kept hD)
  have HP4 := Lib.hid (HP3.out.kept hD)
  clear hD s0 s1 s2 s3
  obtain ⟨⟨p0, p1, p2, p3⟩, _⟩ := blk4_cells HP4.out
  obtain ⟨⟨q0, q1, q2, q3⟩, _⟩ := blk4_cells HQ4.out
  go_upto_region 4 with fail
  clear p0 p1 p2 p3 q0 q1 q2 q3
  have hb5 := (Below.refl _ w4).alloc (Nat.le_refl _) (.cells #[.int .i64 st2] 2)
  have hn5 : (w4.alloc (.cells #[.int .i64 st2] 2)).cell? ⟨w4.heap.size, 0, none⟩ = some (.int .i64 st2) := cell_of_row _ _ 0 _ _ _ (heap_alloc_new w4 (.cells #[.int .i64 st2] 2))
  have hs5 : (w4.alloc (.cells #[.int .i64 st2] 2)).heap.size = w4.heap.size + 1 := by simp
  generalize w4.alloc (.cells #[.int .i64 st2] 2) = w5 at *
  have HB5 := Lib.hid (HB4.out.trans (hb5.mono HB4.out.size))
  have HR5 := Lib.hid (HR4.out.kept hb5)
  have HQ5 := Lib.hid (HQ4.out.kept hb5)
  have HP5 := Lib.hid (HP4.out.kept hb5)
  obtain ⟨NP, hNP⟩ : ∃ NP, NP = w4.heap.size := ⟨_, rfl⟩
  rw [← hNP] at hn5 hs5 ⊢
  have HS5 := Lib.hid hs5
  have HNP := Lib.hid hNP
  clear hb5 hNP hs5
  obtain ⟨⟨p0, p1, p2, p3⟩, _⟩ := blk4_cells HP5.out
  obtain ⟨⟨q0, q1, q2, q3⟩, _⟩ := blk4_cells HQ5.out
  go_upto_region 5 with fail
  obtain ⟨G, hG⟩ : ∃ G, G = wrap64 (wrap64 (go * st2) + go2) := ⟨_, rfl⟩
  have HG : Hid (G = go * st2 + go2) := Lib.hid (hG.trans (both_start HAO.out HBO.out))
  rw [← hG]
  clear hG
  have hb6 := (Below.refl _ w5).alloc (Nat.le_refl _) (.cells #[.int .i64 (M : Int), .int .i64 G, .slice none 0 0, .slice none 0 0] 33)
  have hX6 : B4 (w5.alloc (.cells #[.int .i64 (M : Int), .int .i64 G, .slice none 0 0, .slice none 0 0] 33)) w5.heap.size _ _ _ _ _ := B4.new _ _ _ _ _ _
  generalize w5.alloc (.cells #[.int .i64 (M : Int), .int .i64 G, .slice none 0 0, .slice none 0 0] 33) = w6 at *
  have HB6 := Lib.hid hb6
  have HX6 := Lib.hid hX6
  have HP6 := Lib.hid (HP5.out.kept hb6)
  have HQ6 := Lib.hid (HQ5.out.kept hb6)
  obtain ⟨X, hX⟩ : ∃ X, X = w5.heap.size := ⟨_, rfl⟩
  rw [← hX] at HX6 hX6 ⊢
  have HXE := Lib.hid hX
  obtain ⟨⟨z0, z1, z2, z3⟩, _⟩ := blk4_cells hX6
  clear hb6 hX6 p0 p1 p2 p3 q0 q1 q2 q3 hX hw
  obtain ⟨⟨p0, p1, p2, p3⟩, _⟩ := blk4_cells HP6.out
  obtain ⟨⟨q0, q1, q2, q3⟩, _⟩ := blk4_cells HQ6.out
  go_upto_region 7 with fail
  have hltA : w.heap.size < w6.heap.size := HP6.out.lt
  have hltB : w.heap.size + 1 < w6.heap.size := HQ6.out.lt
  have HF1 := Lib.hid (fun W => isFinal_any (.int .i64 st) (.int .i64 go) (.slice Af fin.length cf) (.slice An nx.length cn) _ _ _ _ _ _ rfl rfl _ _ rfl rfl W)
  have HF2 := Lib.hid (fun W => isFinal_any (.int .i64 st2) (.int .i64 go2) (.slice Af2 fin2.length cf2) (.slice An2 nx2.length cn2) _ _ _ _ _ _ rfl rfl _ _ rfl rfl W)
  have HSK : Hid (∀ W, Below w6.heap.size w6 W → (W.cell? ⟨w.heap.size, 0, none⟩ = some (.int .i64 st) ∧ W.cell? ⟨w.heap.size, 1, none⟩ = some (.int .i64 go) ∧ W.cell? ⟨w.heap.size, 2, none⟩ = some (.slice Af fin.length cf) ∧ W.cell? ⟨w.heap.size, 3, none⟩ = some (.slice An nx.length cn)) ∧ W.cell? ⟨w.heap.size + 1, 0, none⟩ = some (.int .i64 st2) ∧ W.cell? ⟨w.heap.size + 1, 1, none⟩ = some (.int .i64 go2) ∧ W.cell? ⟨w.heap.size + 1, 2, none⟩ = some (.slice Af2 fin2.length cf2) ∧ W.cell? ⟨w.heap.size + 1, 3, none⟩ = some (.slice An2 nx2.length cn2)) := Lib.hid (fun W hb => And.intro (blk4_cells (HP6.out.kept hb)).1 (blk4_cells (HQ6.out.kept hb)).1)
  go_cut [8, 9] (fun s8 s9 wx => ∃ P1 P2 Q1 Q2, s8 = .pointer (some ⟨Q1, 0, none⟩) ∧ s9 = .pointer (some ⟨Q2, 0, none⟩) ∧ BClo w6 st go st2 go2 (.slice Af fin.length cf) (.slice An nx.length cn) (.slice Af2 fin2.length cf2) (.slice An2 nx2.length cn2) P1 P2 Q1 Q2 wx)
  case first =>
    go_region_held3 (fun w' => (w'.cell? ⟨w.heap.size, 0, none⟩ = some (.int .i64 st) ∧ w'.cell? ⟨w.heap.size, 1, none⟩ = some (.int .i64 go) ∧ w'.cell? ⟨w.heap.size, 2, none⟩ = some (.slice Af fin.length cf) ∧ w'.cell? ⟨w.heap.size, 3, none⟩ = some (.slice An nx.length cn)) ∧ w'.cell? ⟨w.heap.size + 1, 0, none⟩ = some (.int .i64 st2) ∧ w'.cell? ⟨w.heap.size + 1, 1, none⟩ = some (.int .i64 go2) ∧ w'.cell? ⟨w.heap.size + 1, 2, none⟩ = some (.slice Af2 fin2.length cf2) ∧ w'.cell? ⟨w.heap.size + 1, 3, none⟩ = some (.slice An2 nx2.length cn2))
      ((refine HSK.out _ ?_; repeat first | exact Below.refl _ _ | refine bs_drew ?_ | refine bs_alloc ?_ _ | refine Below.setCell ?_ (by simp; try omega) _))
      (first
        | (go_at_call_of 99 (Value.agg #[.int .i64 st, .int .i64 go, .slice Af fin.length cf, .slice An nx.length cn])
           refine (HF1.out _).mono ?_
           rintro e w7 ⟨rfl, rfl⟩)
        | (go_at_call_of 99 (Value.agg #[.int .i64 st2, .int .i64 go2, .slice Af2 fin2.length cf2, .slice An2 nx2.length cn2])
           refine (HF2.out _).mono ?_
           rintro e w8 ⟨rfl, rfl⟩))
    all_goals (go_wp2_with fail; go_meet)
    all_goals first | exact ⟨_, _, _, _, rfl, rfl, clo4 w6 _ _ _ _ 0 1 2 3 rfl rfl rfl rfl⟩ | exact ⟨_, _, _, _, rfl, rfl, clo4 w6 _ _ _ _ 0 1 3 2 rfl rfl rfl rfl⟩ | exact ⟨_, _, _, _, rfl, rfl, clo4 w6 _ _ _ _ 0 2 1 3 rfl rfl rfl rfl⟩ | exact ⟨_, _, _, _, rfl, rfl, clo4 w6 _ _ _ _ 0 2 3 1 rfl rfl rfl rfl⟩ | exact ⟨_, _, _, _, rfl, rfl, clo4 w6 _ _ _ _ 0 3 1 2 rfl rfl rfl rfl⟩ | exact ⟨_, _, _, _, rfl, rfl, clo4 w6 _ _ _ _ 0 3 2 1 rfl rfl rfl rfl⟩ | exact ⟨_, _, _, _, rfl, rfl, clo4 w6 _ _ _ _ 1 2 0 3 rfl rfl rfl rfl⟩ | exact ⟨_, _, _, _, rfl, rfl, clo4 w6 _ _ _ _ 1 2 3 0 rfl rfl rfl rfl⟩ | exact ⟨_, _, _, _, rfl, rfl, clo4 w6 _ _ _ _ 1 3 0 2 rfl rfl rfl rfl⟩ | exact ⟨_, _, _, _, rfl, rfl, clo4 w6 _ _ _ _ 1 3 2 0 rfl rfl rfl rfl⟩ | exact ⟨_, _, _, _, rfl, rfl, clo4 w6 _ _ _ _ 2 3 0 1 rfl rfl rfl rfl⟩ | exact ⟨_, _, _, _, rfl, rfl, clo4 w6 _ _ _ _ 2 3 1 0 rfl rfl rfl rfl⟩
  case rest =>
    obtain ⟨P1, P2, Q1, Q2, rfl, rfl, hclo⟩ := hcut
    have hmf : ∀ (fn : Fn) (first cap : Array Value) (w : World), (Instr.makeFunc fn first cap).run Try.prog w = .ok (.func fn first cap) w := fun _ _ _ _ => rfl
    have HB5c := Lib.hid (HB6.out.trans (hclo.below.mono HB6.out.size))
    have HXc := Lib.hid (HX6.out.kept hclo.below)
    have hNlt : NP < w5.heap.size := lt_of_cell hn5
    have HN5 := Lib.hid (fun W (hb : Below w5.heap.size w5 W) => (hb.cell (p := ⟨NP, 0, none⟩) hNlt).trans hn5)
    have HPK := Lib.hid (fun W (hb : Below w5.heap.size w5 W) => (blk4_cells (HP5.out.kept hb)).1)
    have HQK := Lib.hid (fun W (hb : Below w5.heap.size w5 W) => (blk4_cells (HQ5.out.kept hb)).1)
    have HRK := Lib.hid (fun W (hb : Below w5.heap.size w5 W) => HR5.out.kept hb)
    have HFN := Lib.hid (finals_two Q1 NP Q2 (bothP ⟨st, go, fin, nx⟩ ⟨st2, go2, fin2, nx2⟩) M (by omega) wc (fun W hW k hk => by
      obtain ⟨hq, hr, hqb, hrb⟩ := both_split (x := ⟨st, go, fin, nx⟩) (y := ⟨st2, go2, fin2, nx2⟩) HBO.out (s := k) h1 (by have := HM.out; simp only; omega)
      simp only at hq hr hqb hrb
      exact both1_any k (k / st2.toNat) (k % st2.toNat) Q1 NP Q2 P1 P2 _ _ _ _ _ _ _ _ fin fin2 st2 W HFW.out.fin HFW2.out.fin (hclo.a.kept hW) (hclo.b.kept hW)
        (HFK.out W (HB5.out.trans ((HB5c.out.trans (hW.mono HB5c.out.size)).mono HB5.out.size))) (HFK2.out W (HB5.out.trans ((HB5c.out.trans (hW.mono HB5c.out.size)).mono HB5.out.size)))
        ((hW.cell (lt_of_cell hclo.qa)).trans hclo.qa) ((hW.cell (lt_of_cell hclo.qb)).trans hclo.qb) (HN5.out W (HB5c.out.trans (hW.mono HB5c.out.size))) h1' h24' hq hr (by omega) (by omega) (by omega)))
    have HCB := Lib.hid hclo.below
    obtain ⟨⟨x0, x1, x2, x3⟩, e0, e1, e2, e3⟩ := blk4_cells HXc.out
    clear hclo hn5 p0 p1 p2 p3 q0 q1 q2 q3 z0 z1 z2 z3 hltA hltB
    go_wp2_with fail
    refine HFN.out.mono ?_
    rintro e w7 ⟨fv, rfl, ho7, hB7⟩
    have HB57 := Lib.hid (HB5c.out.trans (hB7.mono HB5c.out.size))
    have HX7 := Lib.hid (HXc.out.kept hB7)
    have hXx : w5.heap.size ≤ X := by have := HXE.out; omega
    have HG7 := Lib.hid (GSt.start HX7.out hXx HB57.out ho7 HB5c.out.size)
    obtain ⟨Ff, cf', rfl⟩ := own_slice ho7
    clear x0 x1 x2 x3 e0 e1 e2 e3
    obtain ⟨⟨x0, x1, x2, x3⟩, e0, e1, e2, e3⟩ := blk4_cells HX7.out
    generalize hfk : finK (bothP ⟨st, go, fin, nx⟩ ⟨st2, go2, fin2, nx2⟩) M = fk at *
    have HFKK := Lib.hid hfk
    clear ho7 hB7 hfk HX7 HXc HFN HF1 HF2 HSK HP6 HQ6 HX6 HB6 HC HC2 HC2' HB HP HQ HR HB3 HR3 HQ3 HP3
    go_upto_region 9 with fail
    generalize w7.setCell ⟨X, 2, none⟩ (.slice Ff fk.length cf') = w8 at *
    clear x0 x1 x2 x3 e0 e1 e2 e3
    obtain ⟨⟨x0, x1, x2, x3⟩, _⟩ := blk4_cells HG7.out.out
    go_wp2_with fail
    clear x0 x1 x2 x3
    have hst2 : ¬ st2 = 0 := by omega
    obtain ⟨NX, hNX⟩ : ∃ NX, NX = nx.length := ⟨_, rfl⟩
    obtain ⟨NY, hNY⟩ : ∃ NY, NY = nx2.length := ⟨_, rfl⟩
    rw [← hNX] at HPK HNK ⊢
    rw [← hNY] at HQK HNK2 ⊢
    have HNX := Lib.hid hNX
    have HNY := Lib.hid hNY
    clear hNX hNY HP4 HQ4 HP5 HQ5
    go_loopw [51] (fun i wr => ∃ (k : Nat) (n : Value), k ≤ M ∧ i = .int .i64 k ∧ GSt w5 X (M : Int) G fk (.slice Ff fk.length cf') (bothNx ⟨st, go, fin, nx⟩ ⟨st2, go2, fin2, nx2⟩ k) n wr) (fun i _ => M - (intOf i).toNat)
    case atStart => exact ⟨0, _, Nat.zero_le _, rfl, HG7.out⟩
    case round =>
      obtain ⟨k, n, hk, rfl, hst⟩ := hrel
      obtain ⟨wo, rfl⟩ : ∃ wo : World, wo = wr := ⟨_, rfl⟩
      have HS := Lib.hid hst
      by_cases hkM : k < M
      · obtain ⟨hq, hr, hqb, hrb⟩ := both_split (x := ⟨st, go, fin, nx⟩) (y := ⟨st2, go2, fin2, nx2⟩) HBO.out (s := k) h1 (by have := HM.out; simp only; omega)
        have HBN := Lib.hid (bothNx_succ ⟨st, go, fin, nx⟩ ⟨st2, go2, fin2, nx2⟩ k)
        have hrl := bothRow_len ⟨st, go, fin, nx⟩ ⟨st2, go2, fin2, nx2⟩ k
        have HRG := Lib.hid (fun l (hl : l < 4) => bothRow_get (x := ⟨st, go, fin, nx⟩) (y := ⟨st2, go2, fin2, nx2⟩) (s := k) hl)
        simp only at hq hr hqb hrb HRG
        obtain ⟨q, hqe⟩ : ∃ q, q = k / st2.toNat := ⟨_, rfl⟩
        obtain ⟨r, hre⟩ : ∃ r, r = k % st2.toNat := ⟨_, rfl⟩
        rw [← hqe] at hq hqb HRG
        rw [← hre] at hr hrb HRG
        clear hqe hre
        obtain ⟨row, hrow⟩ : ∃ row, row = bothRow ⟨st, go, fin, nx⟩ ⟨st2, go2, fin2, nx2⟩ k := ⟨_, rfl⟩
        rw [← hrow] at hrl HRG HBN
        have HRL := Lib.hid hrl
        have HRS := Lib.hid (rst_start wo row)
        have hq0 : (0 : Int) ≤ (q : Int) := by omega
        have hr0 : (0 : Int) ≤ (r : Int) := by omega
        have hkM1 : (k : Int) < (M : Int) := by omega
        have HQB := Lib.hid hqb
        have HRB := Lib.hid hrb
        have HHQ := Lib.hid hq
        have HHR := Lib.hid hr
        have hq24 : q < 24 := by omega
        have hr24 : r < 24 := by omega
        clear hst hrow hrl hqb hrb hq hr
        have HRI : Hid (RIt wo row (wo.heap.size + 1) 0 (.slice (some ⟨wo.heap.size, 0, none⟩) 0 0) ((wo.alloc (.cells #[] 2)).alloc (.stringIter ⟨#[97, 98, 99, 100]⟩ 0))) := Lib.hid ⟨HRS.out.kept ((Below.refl _ _).alloc (Nat.le_refl _) _), by
          have := heap_alloc_new (wo.alloc (.cells #[] 2)) (.stringIter ⟨#[97, 98, 99, 100]⟩ 0)
          rwa [show (wo.alloc (.cells #[] 2)).heap.size = wo.heap.size + 1 from by simp] at this⟩
        obtain ⟨I, hI⟩ : ∃ I, I = wo.heap.size + 1 := ⟨_, rfl⟩
        have HIE := Lib.hid hI
        rw [← hI] at HRI
        clear hI
        go_wp2_with fail
        rw [← HIE.out]
        go_loopw [11] (fun tv wr => ∃ l : Nat, l ≤ 4 ∧ RIt wo row I l tv wr) (fun _ wr => 4 - wr.iterPos I)
        case atStart => exact ⟨0, by omega, HRI.out⟩
        case round =>
          obtain ⟨l, hl4, hst⟩ := hrel
          obtain ⟨wu, rfl⟩ : ∃ wu : World, wu = wr := ⟨_, rfl⟩
          have hms := iterPos_of hst.2
          by_cases hl : l < 4
          · obtain ⟨i0, hi, hz0, hz1, hz2⟩ := info_parts Try.info_int64
            have hnx := abcd_nextP wu I l hl hst.2
            have hlr : l < row.length := by rw [HRL.out]; exact hl
            have hb1 := grown_iterAtP wu I ⟨#[97, 98, 99, 100]⟩ (l + 1)
            have hIw : wo.heap.size ≤ I := by have := HIE.out; omega
            obtain ⟨A3, c4, hA3⟩ := own_slice hst.1.1
            rw [List.length_take, Nat.min_eq_left (by omega)] at hA3
            subst hA3
            have HSR : Hid (RSt wo row l (.slice A3 l c4) (wu.iterAt I ⟨#[97, 98, 99, 100]⟩ (l + 1))) := Lib.hid ⟨World.ownsRow.kept hst.1.1 hb1 (.inr (own_iter_neP hst.1.1 hst.2)), Lib.below_iterAt hst.1.2 hIw _ _⟩
            have HIT : Hid ((wu.iterAt I ⟨#[97, 98, 99, 100]⟩ (l + 1)).heap[I]? = some (.stringIter ⟨#[97, 98, 99, 100]⟩ (l + 1))) := Lib.hid (Lib.iterAt_heap wu I _ l (l + 1) hst.2)
            clear hst hb1 hIw
            generalize wu.iterAt I ⟨#[97, 98, 99, 100]⟩ (l + 1) = w1 at *
            have HBU := Lib.hid (HS.out.below.trans (HSR.out.2.mono HS.out.below.size))
            obtain ⟨a, b1, d1, hA, c1, c2, c3, cz0, cz1⟩ := au_load (x := ⟨st, go, fin, nx⟩) HAO.out HNX.out (HNK.out w5 HB5.out) HQB.out hl
            obtain ⟨a2, b2, d2, hA2, e1, e2, e3, ez0, ez1⟩ := au_load (x := ⟨st2, go2, fin2, nx2⟩) HBO.out HNY.out (HNK2.out w5 HB5.out) HRB.out hl
            simp only at c2 c3 cz0 cz1 e2 e3 ez0 ez1
            subst hA hA2
            have hg := HRG.out l hl
            obtain ⟨Av, hAv⟩ : ∃ Av, Av = at2 nx q l := ⟨_, rfl⟩
            obtain ⟨Bv, hBv⟩ : ∃ Bv, Bv = at2 nx2 r l := ⟨_, rfl⟩
            rw [← hAv] at c2 cz0 cz1 hg
            rw [← hBv] at e2 ez0 ez1 hg
            have hpr0 : 0 ≤ Av * st2 := Int.mul_nonneg cz0 (by omega)
            have hpr1 : Av * st2 ≤ 24 * 24 := Int.mul_le_mul (by omega) h24' (by omega) (by omega)
            obtain ⟨pr, hpr⟩ : ∃ pr, pr = Av * st2 := ⟨_, rfl⟩
            rw [← hpr] at hpr0 hpr1 hg
            have hmw : IntKind.i64.wrap (Av * st2) = pr := by rw [← hpr, IntKind.wrap_i64]; omega
            have HLR := Lib.hid hlr
            have HZ : Hid (row[l]'HLR.out = pr + Bv) := Lib.hid (by rw [List.getElem?_eq_getElem hlr] at hg; exact Option.some.inj hg)
            have haw : IntKind.i64.wrap (pr + Bv) = pr + Bv := by rw [IntKind.wrap_i64]; omega
            have HSW : Hid (∀ W, Below w5.heap.size w5 W → W.cell? ⟨w.heap.size, 3, none⟩ = some (.slice (some a) NX cn) ∧ W.cell? ⟨NP, 0, none⟩ = some (.int .i64 st2) ∧ W.cell? (a.add q) = some (.slice (some b1) 4 d1) ∧ W.cell? (b1.add l) = some (.int .i64 Av) ∧ W.cell? ⟨w.heap.size + 1, 3, none⟩ = some (.slice (some a2) NY cn2) ∧ W.cell? (a2.add r) = some (.slice (some b2) 4 d2) ∧ W.cell? (b2.add l) = some (.int .i64 Bv)) := Lib.hid (fun W hb => ⟨(HPK.out W hb).2.2.2, HN5.out W hb, (hb.cell (lt_of_cell c1)).trans c1, (hb.cell (lt_of_cell c2)).trans c2, (HQK.out W hb).2.2.2, (hb.cell (lt_of_cell e1)).trans e1, (hb.cell (lt_of_cell e2)).trans e2⟩)
            obtain ⟨s0, s1, s2, s3, s4, s5, s6⟩ := HSW.out w1 HBU.out
            have l0 : (0 : Int) ≤ (l : Int) := by omega
            have l1 : (l : Int) < 4 := by omega
            have HO : Hid (∀ W, Below w1.heap.size w1 W → W.ownsRow wo.heap.size 2 1 (.slice A3 l c4) l (iv (row.take l))) := Lib.hid (fun W hb => by
              have := own_below HSR.out.1 hb (Nat.le_refl _)
              unfold OwnsI at this
              rwa [List.length_take, Nat.min_eq_left (by rw [HRL.out]; omega)] at this)
            have hws : wo.heap.size ≤ w1.heap.size := HSR.out.2.size
            have HB8 : Hid (∀ w8 : World, Below wo.heap.size wo w8 → w8.cell? ⟨w.heap.size, 3, none⟩ = some (.slice (some a) NX cn) ∧ w8.cell? ⟨NP, 0, none⟩ = some (.int .i64 st2) ∧ w8.cell? (a.add q) = some (.slice (some b1) 4 d1) ∧ w8.cell? (b1.add l) = some (.int .i64 Av) ∧ w8.cell? ⟨w.heap.size + 1, 3, none⟩ = some (.slice (some a2) NY cn2) ∧ w8.cell? (a2.add r) = some (.slice (some b2) 4 d2) ∧ w8.cell? (b2.add l) = some (.int .i64 Bv)) := Lib.hid (fun w8 hb => HSW.out w8 (HS.out.below.trans (hb.mono HS.out.below.size)))
            have HII : Hid (∀ (w8 : World) o, (w1.alloc o).grownBy w8 (Value.slice A3 l c4).ownBlock → w8.heap[I]? = some (.stringIter ⟨#[97, 98, 99, 100]⟩ (l + 1))) := Lib.hid (fun w8 o hgr => by
              have hIl : I < w1.heap.size := (Array.getElem?_eq_some_iff.1 HIT.out).1
              rw [hgr.block I (by simp; omega) (fun e => own_iter_neP HSR.out.1 HIT.out e.symm), ((Below.refl _ w1).alloc (Nat.le_refl _) _).block I hIl]
              exact HIT.out)
            have hq := HHQ.out
            have hr := HHR.out
            have hqw : IntKind.i64.wrap (q : Int) = (q : Int) := by rw [IntKind.wrap_i64]; omega
            have hrw : IntKind.i64.wrap (r : Int) = (r : Int) := by rw [IntKind.wrap_i64]; omega
            clear hg hAv hBv hpr c1 c2 e1 e2 hlr cz0 cz1 ez0 ez1 hpr0 hpr1
            go_upto_region 16 with fail
            go_region_held3 (fun w' => w'.cell? ⟨w.heap.size, 3, none⟩ = some (.slice (some a) NX cn) ∧ w'.cell? ⟨NP, 0, none⟩ = some (.int .i64 st2) ∧ w'.cell? (a.add q) = some (.slice (some b1) 4 d1) ∧ w'.cell? (b1.add l) = some (.int .i64 Av) ∧ w'.cell? ⟨w.heap.size + 1, 3, none⟩ = some (.slice (some a2) NY cn2) ∧ w'.cell? (a2.add r) = some (.slice (some b2) 4 d2) ∧ w'.cell? (b2.add l) = some (.int .i64 Bv))
              (first | go_keep | exact HS8.out)
              (first
                | (refine step_append_lies _ (by rfl) _ _ 22 (by rfl) wo.heap.size 2 i0 (.int .i64 0) 1 8 Try.underlying22 hi hz0 hz1 hz2 (by rfl) (by decide) (.slice A3 l c4) l (iv (row.take l)) (by rfl) ?_ ⟨w1.heap.size, 0, none⟩ 1 1 [.int .i64 (pr + Bv)] (by rfl) (by rfl) ?_ (one_int _ _) (by decide) ?_ ?_ ?_ (w1.heap.size + 1) ?_ ?_
                   skip
                   (first | exact own_drewN (HO.out _ ((Below.refl _ w1).alloc (Nat.le_refl _) _)) 1 | exact HO.out _ ((Below.refl _ w1).alloc (Nat.le_refl _) _))
                   (first | exact one_newD w1 _ _ | exact one_new w1 _ _)
                   (unfold maxLen; omega)
                   omega
                   (simp; omega)
                   simp
                   intro g8 c8 w8 hown' hgrow _ _
                   have hG : (w1.alloc (.cells #[.int .i64 (pr + Bv)] 2)).grownBy w8 (Value.slice A3 l c4).ownBlock := by first | exact hgrow | exact grown_undrew hgrow
                   have HN8 := Lib.hid (RSt.append HSR.out HLR.out HZ.out hown' hG)
                   have HS8 := Lib.hid (HB8.out w8 HN8.out.2)
                   have HI8 := Lib.hid (HII.out w8 _ hG)
                   clear hG hown' hgrow))
            all_goals
              have hm8 := iterPos_of HI8.out
              go_wp2_with fail
              go_roundw
              all_goals first | exact ⟨l + 1, by omega, HN8.out, HI8.out⟩ | ((repeat apply Exists.intro); exact ⟨⟨l + 1, by omega, HN8.out, HI8.out⟩, rfl⟩) | (simp [intOf]; done) | (simp [intOf]; omega) | omega
          · obtain rfl : l = 4 := by omega
            have hnx := abcd_endP wu I 4 (by omega) hst.2
            have hst := hst.1
            obtain ⟨j0, hj, hy0, hy1, hy2⟩ := info_parts Try.info_ints
            have hO4 := hst.1
            rw [List.take_of_length_le (by rw [HRL.out]; exact Nat.le_refl _)] at hO4
            have HO4 := Lib.hid hO4
            clear hO4
            have HBU := Lib.hid hst.2
            obtain ⟨U, B, hown⟩ := HS.out.own
            have HOW := Lib.hid hown
            have hUl : U.length = k := by rw [hown.2.2.2.2.len, bothNx_len]
            have HUL := Lib.hid hUl
            obtain ⟨An', cn', hAn⟩ := own_slice hown.2.2.2.2.outer
            rw [hUl] at hAn
            subst hAn
            have hBs : B ≤ wo.heap.size := hown.2.2.2.1
            have hws : wo.heap.size ≤ wu.heap.size := hst.2.size
            have HOUT : Hid (∀ o, (wu.alloc o).ownsRow B 22 1 (.slice An' k cn') k U) := Lib.hid (fun o => by
              have := ((hown.2.2.2.2.kept hst.2).outer.alloc o)
              rwa [hUl] at this)
            have HX9 := Lib.hid (HS.out.out.kept hst.2)
            have hX9 : X < wu.heap.size := HX9.out.lt
            obtain ⟨⟨y0, y1, y2, y3⟩, d0, d1, d2, d3⟩ := blk4_cells HX9.out
            obtain ⟨A9, c9, hA9⟩ := own_slice HO4.out
            rw [HRL.out] at hA9
            subst hA9
            clear hst hown hUl
            go_wp2_with (first | (at_builtin; refine wpList_append_own _ rfl _ _ 23 rfl B 22 j0 (.slice none 0 0) 1 24 Try.underlying23 hj hy0 hy1 hy2 rfl (by decide) _ _ _ rfl (HOUT.out _) ⟨wu.heap.size, 0, none⟩ 1 1 [.slice A9 4 c9] rfl rfl (one_new _ _ _) (one_slice _ _ _) (by unfold maxLen; omega) (by omega) (by simp; omega) ?_))
            intro n' w10 hown' hgrow _
            obtain ⟨hb4, hnew⟩ := GSt.append HS.out HOW.out HBU.out HO4.out (by rw [HUL.out]; exact hown') hgrow
            rw [← HBN.out] at hnew
            have HNEW := Lib.hid hnew
            obtain ⟨⟨z0, z1, z2, z3⟩, b0, b1, b2, b3⟩ := blk4_cells hb4
            obtain ⟨An3, cn3, rfl⟩ := own_slice hown'
            clear hown' hgrow hb4 hnew y0 y1 y2 y3 d0 d1 d2 d3
            go_wp2_with fail
            go_roundw
            all_goals first | exact ⟨k + 1, _, by omega, by go_num, HNEW.out⟩ | ((repeat apply Exists.intro); exact ⟨⟨k + 1, _, by omega, by go_num, HNEW.out⟩, rfl⟩) | (simp [intOf]; done) | (simp [intOf]; omega) | omega
      · obtain rfl : k = M := by omega
        have HR9 := Lib.hid (HRK.out wo hst.below)
        obtain ⟨U, B, hown⟩ := hst.own
        obtain ⟨An', cn', hAn⟩ := own_slice hown.2.2.2.2.outer
        have hUl : U.length = k := by rw [hown.2.2.2.2.len, bothNx_len]
        rw [hUl] at hAn
        have hfe : finK (bothP ⟨st, go, fin, nx⟩ ⟨st2, go2, fin2, nx2⟩) k = (bothA ⟨st, go, fin, nx⟩ ⟨st2, go2, fin2, nx2⟩).fin := by
          show _ = finK _ (Int.toNat (st * st2))
          rw [HM.out, Int.toNat_natCast]
        have hne : bothNx ⟨st, go, fin, nx⟩ ⟨st2, go2, fin2, nx2⟩ k = (bothA ⟨st, go, fin, nx⟩ ⟨st2, go2, fin2, nx2⟩).nx := by
          show _ = bothNx _ _ (Int.toNat (st * st2))
          rw [HM.out, Int.toNat_natCast]
        have HEST : Hid ((k : Int) = (bothA ⟨st, go, fin, nx⟩ ⟨st2, go2, fin2, nx2⟩).st) := Lib.hid (HM.out.symm)
        have HEGO : Hid (G = (bothA ⟨st, go, fin, nx⟩ ⟨st2, go2, fin2, nx2⟩).go) := Lib.hid HG.out
        rw [HFKK.out] at hfe
        have HFE := Lib.hid hfe
        have HNE := Lib.hid hne
        generalize bothNx ⟨st, go, fin, nx⟩ ⟨st2, go2, fin2, nx2⟩ k = rn at *
        obtain ⟨⟨x0, x1, x2, x3⟩, _⟩ := blk4_cells hst.out
        rw [hAn] at x3
        obtain ⟨⟨r0, r1, r2, r3⟩, g0, g1, g2, g3⟩ := blk4_cells HR9.out
        have HE := Lib.hid (blk4_cells (blk4_all (a' := .int .i64 (k : Int)) (b' := .int .i64 G) (c' := .slice Ff fk.length cf') (d' := .slice An' k cn') HR9.out)).1
        have HBW := Lib.hid hst.below
        have HA9 := Lib.hid (hst.ownA HR9.out (.int .i64 (k : Int)) (.int .i64 G) (.slice Ff fk.length cf') (.slice An' k cn'))
        have hXw : w.heap.size + 2 < X := by have h1 := HR5.out.lt; have h2 := HXE.out; omega
        subst hAn
        clear hown hst hUl hfe hne
        go_wp2_with fail
        obtain ⟨y0, y1, y2, y3⟩ := HE.out
        obtain ⟨U', hA⟩ := HA9.out
        refine bodyPost_ret (v := .tuple #[.agg #[.int .i64 (k : Int), .int .i64 G, .slice Ff fk.length cf', .slice An' k cn'], .int .i64 0]) (by simp [results, Try.results41, go_sem, y0, y1, y2, y3]) rfl ⟨_, _, U', by rw [← HEST.out, ← HEGO.out], ?_, ?_⟩
        · rw [← HFE.out, ← HNE.out]
          exact hA.lower HB5.out.size
        · have hb9 := HB5.out.trans (HBW.out.mono HB5.out.size)
          exact (((hb9.setCell (by simp; try omega) _).setCell (by simp; try omega) _).setCell (by simp; try omega) _).setCell (by simp; try omega) _
end Go.Proofs.Ytaffachjopjbgaa
namespace Go.Proofs.Ytaffachjopjbgaa
open Go.RowKit
open Wd
set_option linter.unusedVariables false
set_option maxRecDepth 100000 in
set_option maxHeartbeats 1600000 in
theorem markAuK (f n : Value) (U : List Value) (x : Au) (lo : Nat) (k : Int) (w : World) (hk0 : 0 ≤ k) (hk1 : k + x.fin.length ≤ 2097152) (hf : FewA x) (h : OwnA w lo f n U x.fin x.nx) :
    Calls Try.prog 36 #[.agg #[.int .i64 x.st, .int .i64 x.go, f, n], .int .i64 k] w fun e w' => e = .returned (.int .i64 (k + auN x)) ∧ OwnA w' lo f n U (marks k x.fin.length) (mkF x.nx.length (k + x.fin.length) x.nx) ∧ OnlyIn (f :: U) w w' := by
  have hb := (Below.refl _ w).alloc (Nat.le_refl _) (.cells #[.int .i64 x.st, .int .i64 x.go, f, n] 33)
  have hP := heap_alloc_new w (.cells #[.int .i64 x.st, .int .i64 x.go, f, n] 33)
  have ha := h.kept hb
  have hfl := hf.fin
  have HF := Lib.hid (markI f x.fin lo k (by omega) (by omega) _ ha.fin hf.fin)
  have HNX : Hid (∀ w', OwnsI w' lo f (marks k x.fin.length) → (w.alloc (.cells #[.int .i64 x.st, .int .i64 x.go, f, n] 33)).grownBy w' f.ownBlock → OwnM w' lo n U x.nx ∧ w'.heap[w.heap.size]? = some (.cells #[.int .i64 x.st, .int .i64 x.go, f, n] 33 (0, 0))) := Lib.hid (fun w' ho hg => by
    have hg' : OnlyIn [f] (w.alloc (.cells #[.int .i64 x.st, .int .i64 x.go, f, n] 33)) w' := OnlyIn.of_grown hg (by simp)
    refine ⟨⟨own_only ha.nx.outer hg' (fun u hu => ?_), ?_⟩, ?_⟩
    · obtain rfl : u = f := by simpa using hu
      exact own_kinds_ne ha.fin ha.nx.outer (by decide)
    · refine ⟨ha.nx.rows.len, fun j u zs h1 h2 => own_only (ha.nx.rows.row j u zs h1 h2) hg' (fun y hy => ?_), ha.nx.rows.ne⟩
      obtain rfl : y = f := by simpa using hy
      exact ha.ne u (List.mem_iff_getElem?.2 ⟨j, h1⟩)
    · rw [hg.block w.heap.size (by simp) (fun e => by have := (h.fin.lt _ e.symm).2; omega)]
      exact hP)
  have HM := Lib.hid (fun W (hW : OwnM W lo n U x.nx) => markLL n U x.nx lo (k + x.fin.length) W hf.nx hf.row (by omega) (by omega) hW)
  have HFIN : Hid (∀ w1 w2, OwnsI w1 lo f (marks k x.fin.length) → (w.alloc (.cells #[.int .i64 x.st, .int .i64 x.go, f, n] 33)).grownBy w1 f.ownBlock → OwnM w2 lo n U (mkF x.nx.length (k + x.fin.length) x.nx) → OnlyIn U w1 w2 → OwnA w2 lo f n U (marks k x.fin.length) (mkF x.nx.length (k + x.fin.length) x.nx) ∧ OnlyIn (f :: U) w w2) := Lib.hid (fun w1 w2 h1 h2 h3 h4 => by
    refine ⟨⟨own_only h1 h4 (fun u hu => ?_), h3, h.ne⟩, ?_⟩
    · rcases h.ne u hu with h5 | h5
      · cases hq : u.ownBlock with
        | none => exact .inl rfl
        | some q => exact .inr (by rw [h5]; simp)
      · exact .inr fun e => h5 e.symm
    · exact ((OnlyIn.of_below hb).trans (OnlyIn.of_grown h2 (by simp))).trans (h4.mono fun u hu => by simp [hu]))
  have hb0 : 0 ≤ (x.fin.length : Int) := by omega
  have hb1 : (x.fin.length : Int) ≤ 1048576 := by omega
  obtain ⟨Af, cf, rfl⟩ := own_slice h.fin
  obtain ⟨An, cn, rfl⟩ := own_slice h.nx.outer
  obtain ⟨⟨p0, p1, p2, p3⟩, _⟩ := blk4_cells hP
  clear hb hP ha hf h hfl
  unfold auN
  generalize x.fin.length = N at *
  go_enter Try.func36, Try.ntmps36
  go_wp2_with fail
  refine HF.out.mono ?_
  rintro e w1 ⟨rfl, ho1, hg1⟩
  have HN1 := Lib.hid (HNX.out w1 ho1 hg1)
  have HF1 := Lib.hid (fun w2 => HFIN.out w1 w2 ho1 hg1)
  clear ho1 hg1 p0 p1 p2 p3
  obtain ⟨⟨p0, p1, p2, p3⟩, _⟩ := blk4_cells HN1.out.2
  go_wp2_with fail
  refine (HM.out _ HN1.out.1).mono ?_
  rintro e w2 ⟨rfl, ho2, hg2⟩
  have HR := Lib.hid (HF1.out w2 ho2 hg2)
  clear ho2 hg2 p0 p1 p2 p3
  go_wp2_with fail
  go_ret
  exact ⟨ret_int (by omega), HR.out.1, HR.out.2⟩
end Go.Proofs.Ytaffachjopjbgaa
namespace Go.Proofs.Ytaffachjopjbgaa
open Go.RowKit
open Wd
set_option linter.unusedVariables false
theorem autBothAuto_ok {x y : Au} (h1 : aOk x = true) (h2 : aOk y = true) (h3 : x.st * y.st ≤ 24) : autBothAuto x y = (bothA x y, 0) := by
  unfold autBothAuto
  rw [if_pos ⟨h1, h2⟩, if_pos h3]
theorem specBothAuto (av bv : Value) (x y : Au) (w : World) (hf : FewA x) (h : IsAu w av x) (hf2 : FewA y) (h2 : IsAu w bv y) :
    Calls Try.prog 40 #[av, bv] w fun e w' => ∃ f n U, e = .returned (.tuple #[.agg #[.int .i64 (autBothAuto x y).1.st, .int .i64 (autBothAuto x y).1.go, f, n], .int .i64 (autBothAuto x y).2]) ∧ OwnA w' w.heap.size f n U (autBothAuto x y).1.fin (autBothAuto x y).1.nx ∧ Below w.heap.size w w' := by
  by_cases hg : aOk x = true ∧ aOk y = true ∧ x.st * y.st ≤ 24
  · rw [autBothAuto_ok hg.1 hg.2.1 hg.2.2]
    exact specBothAuto_good av bv x y w hf h hf2 h2 hg.1 hg.2.1 hg.2.2
  · exact specBothAuto_bad av bv x y w hf h hf2 h2 hg
theorem implBothAuto (av bv : Value) (x y : Au) (w : World) (hf : FewA x) (h : IsAu w av x) (hf2 : FewA y) (h2 : IsAu w bv y) :
    Calls Try.prog 41 #[av, bv] w fun e w' => ∃ f n U, e = .returned (.tuple #[.agg #[.int .i64 (autBothAuto x y).1.st, .int .i64 (autBothAuto x y).1.go, f, n], .int .i64 (autBothAuto x y).2]) ∧ OwnA w' w.heap.size f n U (autBothAuto x y).1.fin (autBothAuto x y).1.nx ∧ Below w.heap.size w w' := by
  by_cases hg : aOk x = true ∧ aOk y = true ∧ x.st * y.st ≤ 24
  · rw [autBothAuto_ok hg.1 hg.2.1 hg.2.2]
    exact implBothAuto_good av bv x y w hf h hf2 h2 hg.1 hg.2.1 hg.2.2
  · exact implBothAuto_bad av bv x y w hf h hf2 h2 hg
theorem OwnA.setLow {w : World} {lo : Nat} {f n : Value} {U : List Value} {fin : List Int} {nx : List (List Int)} (h : OwnA w lo f n U fin nx) (p : Addr) (u : Value) (hp : p.block < lo) : OwnA (w.setCell p u) lo f n U fin nx :=
  ⟨own_setLow h.fin p u hp, h.nx.setLow p u hp, h.ne⟩
theorem bs_call {u v w : World} (h : Below u.heap.size u v) (hc : Below v.heap.size v w) : Below u.heap.size u w := h.trans (hc.mono h.size)
/-- an automaton that a call has answered, in a box of its own -/
structure AuBox (w2 : World) (r : Au) (Wb : Nat) (f n : Value) (wx : World) : Prop where
  box : B4 wx Wb (.int .i64 r.st) (.int .i64 r.go) f n 33
  own : ∃ U, OwnA wx w2.heap.size f n U r.fin r.nx
  below : Below w2.heap.size w2 wx
theorem AuBox.new {w2 w5 : World} {r : Au} {f n : Value} {U : List Value} (h : OwnA w5 w2.heap.size f n U r.fin r.nx) (hb : Below w2.heap.size w2 w5) : AuBox w2 r w5.heap.size f n (w5.alloc (.cells #[.int .i64 r.st, .int .i64 r.go, f, n] 33)) :=
  ⟨B4.new _ _ _ _ _ _, ⟨U, h.kept ((Below.refl _ w5).alloc (Nat.le_refl _) _)⟩, hb.alloc hb.size _⟩
theorem AuBox.old {w2 w5 : World} {r : Au} {f n : Value} {U : List Value} {Wb : Nat} {c0 c1 c2 c3 : Value} (h : OwnA w5 (Wb + 1) f n U r.fin r.nx) (hV : B4 w5 Wb c0 c1 c2 c3 33) (hW : w2.heap.size ≤ Wb) (hb : Below w2.heap.size w2 w5) :
    AuBox w2 r Wb f n ((((w5.setCell ⟨Wb, 0, none⟩ (.int .i64 r.st)).setCell ⟨Wb, 1, none⟩ (.int .i64 r.go)).setCell ⟨Wb, 2, none⟩ f).setCell ⟨Wb, 3, none⟩ n) :=
  ⟨blk4_all hV, ⟨U, ((((h.setLow ⟨Wb, 0, none⟩ _ (Nat.lt_succ_self _)).setLow ⟨Wb, 1, none⟩ _ (Nat.lt_succ_self _)).setLow ⟨Wb, 2, none⟩ _ (Nat.lt_succ_self _)).setLow ⟨Wb, 3, none⟩ _ (Nat.lt_succ_self _)).lower (by omega)⟩, (((hb.setCell hW _).setCell hW _).setCell hW _).setCell hW _⟩
end Go.Proofs.Ytaffachjopjbgaa
