/-
  Walk: impl.ValidEdit.
-/
import Derived.Test.YtcaeihdfljljbaaDoorEdF
import Derived.Test.YtcaeihdfljljbaaDoorEdS
import Derived.Test.YtcaeihdfljljbaaDoorGValid
import Derived.Deep.RegionHeld3
import Derived.Deep.DeepCutAuto
namespace Go.Proofs.YtcaeihdfljljbaaDoor
open Go.RowKit
open Wd
set_option linter.unusedVariables false
theorem blk5_cells {w : World} {R : Nat} {t : TypeId} {a b c d e : Value} (h : w.heap[R]? = some (.cells #[a, b, c, d, e] t (0, 0))) :
    w.cell? ⟨R, 0, none⟩ = some a ∧ w.cell? ⟨R, 1, none⟩ = some b ∧ w.cell? ⟨R, 2, none⟩ = some c ∧ w.cell? ⟨R, 3, none⟩ = some d ∧ w.cell? ⟨R, 4, none⟩ = some e := by
  refine ⟨?_, ?_, ?_, ?_, ?_⟩ <;> (rw [cell_of_row _ _ _ _ _ _ h]; rfl)
theorem blk5_frozen {w : World} {R o : Nat} {t : TypeId} {cs : Array Value} (h : w.heap[R]? = some (.cells cs t (0, 0))) : w.frozen? ⟨R, o, none⟩ = false := by
  simp [World.frozen?, h]
theorem blk5_all {w : World} {R : Nat} {t : TypeId} {a b c d e a' b' c' d' e' : Value} (h : w.heap[R]? = some (.cells #[a, b, c, d, e] t (0, 0))) :
    (((((w.setCell ⟨R, 0, none⟩ a').setCell ⟨R, 1, none⟩ b').setCell ⟨R, 2, none⟩ c').setCell ⟨R, 3, none⟩ d').setCell ⟨R, 4, none⟩ e').heap[R]? = some (.cells #[a', b', c', d', e'] t (0, 0)) := by
  simp [World.setCell, Array.getElem?_modify, h]
theorem below_drewE {B : Nat} {w W : World} (h : Below B w W) : Below B w W.drew := below_drewN h 1
/-- the form's block, behind the edit's own -/
def FmSt (w w3 : World) (F : Nat) (W0 : ByteArray) (b1 b2 b3 b4 : Bool) (wx : World) : Prop :=
  wx.heap[F]? = some (.cells #[.string W0, .bool b1, .bool b2, .bool b3, .bool b4] 99 (0, 0)) ∧ w3.heap.size ≤ F ∧ Below w3.heap.size w3 wx
theorem FmSt.one {w w3 w7 : World} {W0 : ByteArray} {b1 b2 b3 b4 : Bool} (hb : Below w3.heap.size w3 w7) :
    FmSt w w3 w7.heap.size W0 b1 b2 b3 b4 (w7.alloc (.cells #[.string W0, .bool b1, .bool b2, .bool b3, .bool b4] 99)) :=
  ⟨heap_alloc_new _ _, hb.size, hb.alloc hb.size _⟩
theorem FmSt.two {w w3 w7 : World} {F : Nat} {W0 : ByteArray} {b1 b2 b3 b4 : Bool} {a b c d e : Value} (hF : w3.heap.size ≤ F) (hb : Below w3.heap.size w3 w7) (hx : w7.heap[F]? = some (.cells #[a, b, c, d, e] 99 (0, 0))) :
    FmSt w w3 F W0 b1 b2 b3 b4 (((((w7.setCell ⟨F, 0, none⟩ (.string W0)).setCell ⟨F, 1, none⟩ (.bool b1)).setCell ⟨F, 2, none⟩ (.bool b2)).setCell ⟨F, 3, none⟩ (.bool b3)).setCell ⟨F, 4, none⟩ (.bool b4)) :=
  ⟨blk5_all hx, hF, ((((hb.setCell hF _).setCell hF _).setCell hF _).setCell hF _).setCell hF _⟩
theorem FmSt.drewN {w w3 wx : World} {F : Nat} {W0 : ByteArray} {b1 b2 b3 b4 : Bool} (h : FmSt w w3 F W0 b1 b2 b3 b4 wx) (m : Nat) : FmSt w w3 F W0 b1 b2 b3 b4 (wx.drewN m) :=
  ⟨h.1, h.2.1, below_drewN h.2.2 m⟩
theorem index_form1 (w : World) : (Instr.index 100 (.agg #[.string ⟨#[]⟩, .bool false, .bool false, .bool false, .bool false, .string ⟨#[105, 110, 115, 101, 114, 116]⟩, .bool false, .bool false, .bool true, .bool false, .string ⟨#[100, 101, 108, 101, 116, 101]⟩, .bool true, .bool false, .bool false, .bool false, .string ⟨#[99, 111, 112, 121]⟩, .bool true, .bool true, .bool false, .bool false, .string ⟨#[109, 111, 118, 101]⟩, .bool true, .bool true, .bool false, .bool false, .string ⟨#[116, 117, 114, 110]⟩, .bool true, .bool false, .bool false, .bool false, .string ⟨#[114, 101, 112, 101, 97, 116]⟩, .bool true, .bool true, .bool false, .bool false, .string ⟨#[109, 97, 112]⟩, .bool true, .bool false, .bool false, .bool true]) (.int .i64 1)).run Tryd.prog w = .ok (.agg #[.string ⟨#[105, 110, 115, 101, 114, 116]⟩, .bool false, .bool false, .bool true, .bool false]) w := by kernel_rfl
theorem index_form2 (w : World) : (Instr.index 100 (.agg #[.string ⟨#[]⟩, .bool false, .bool false, .bool false, .bool false, .string ⟨#[105, 110, 115, 101, 114, 116]⟩, .bool false, .bool false, .bool true, .bool false, .string ⟨#[100, 101, 108, 101, 116, 101]⟩, .bool true, .bool false, .bool false, .bool false, .string ⟨#[99, 111, 112, 121]⟩, .bool true, .bool true, .bool false, .bool false, .string ⟨#[109, 111, 118, 101]⟩, .bool true, .bool true, .bool false, .bool false, .string ⟨#[116, 117, 114, 110]⟩, .bool true, .bool false, .bool false, .bool false, .string ⟨#[114, 101, 112, 101, 97, 116]⟩, .bool true, .bool true, .bool false, .bool false, .string ⟨#[109, 97, 112]⟩, .bool true, .bool false, .bool false, .bool true]) (.int .i64 2)).run Tryd.prog w = .ok (.agg #[.string ⟨#[100, 101, 108, 101, 116, 101]⟩, .bool true, .bool false, .bool false, .bool false]) w := by kernel_rfl
theorem index_form3 (w : World) : (Instr.index 100 (.agg #[.string ⟨#[]⟩, .bool false, .bool false, .bool false, .bool false, .string ⟨#[105, 110, 115, 101, 114, 116]⟩, .bool false, .bool false, .bool true, .bool false, .string ⟨#[100, 101, 108, 101, 116, 101]⟩, .bool true, .bool false, .bool false, .bool false, .string ⟨#[99, 111, 112, 121]⟩, .bool true, .bool true, .bool false, .bool false, .string ⟨#[109, 111, 118, 101]⟩, .bool true, .bool true, .bool false, .bool false, .string ⟨#[116, 117, 114, 110]⟩, .bool true, .bool false, .bool false, .bool false, .string ⟨#[114, 101, 112, 101, 97, 116]⟩, .bool true, .bool true, .bool false, .bool false, .string ⟨#[109, 97, 112]⟩, .bool true, .bool false, .bool false, .bool true]) (.int .i64 3)).run Tryd.prog w = .ok (.agg #[.string ⟨#[99, 111, 112, 121]⟩, .bool true, .bool true, .bool false, .bool false]) w := by kernel_rfl
theorem index_form4 (w : World) : (Instr.index 100 (.agg #[.string ⟨#[]⟩, .bool false, .bool false, .bool false, .bool false, .string ⟨#[105, 110, 115, 101, 114, 116]⟩, .bool false, .bool false, .bool true, .bool false, .string ⟨#[100, 101, 108, 101, 116, 101]⟩, .bool true, .bool false, .bool false, .bool false, .string ⟨#[99, 111, 112, 121]⟩, .bool true, .bool true, .bool false, .bool false, .string ⟨#[109, 111, 118, 101]⟩, .bool true, .bool true, .bool false, .bool false, .string ⟨#[116, 117, 114, 110]⟩, .bool true, .bool false, .bool false, .bool false, .string ⟨#[114, 101, 112, 101, 97, 116]⟩, .bool true, .bool true, .bool false, .bool false, .string ⟨#[109, 97, 112]⟩, .bool true, .bool false, .bool false, .bool true]) (.int .i64 4)).run Tryd.prog w = .ok (.agg #[.string ⟨#[109, 111, 118, 101]⟩, .bool true, .bool true, .bool false, .bool false]) w := by kernel_rfl
theorem index_form5 (w : World) : (Instr.index 100 (.agg #[.string ⟨#[]⟩, .bool false, .bool false, .bool false, .bool false, .string ⟨#[105, 110, 115, 101, 114, 116]⟩, .bool false, .bool false, .bool true, .bool false, .string ⟨#[100, 101, 108, 101, 116, 101]⟩, .bool true, .bool false, .bool false, .bool false, .string ⟨#[99, 111, 112, 121]⟩, .bool true, .bool true, .bool false, .bool false, .string ⟨#[109, 111, 118, 101]⟩, .bool true, .bool true, .bool false, .bool false, .string ⟨#[116, 117, 114, 110]⟩, .bool true, .bool false, .bool false, .bool false, .string ⟨#[114, 101, 112, 101, 97, 116]⟩, .bool true, .bool true, .bool false, .bool false, .string ⟨#[109, 97, 112]⟩, .bool true, .bool false, .bool false, .bool true]) (.int .i64 5)).run Tryd.prog w = .ok (.agg #[.string ⟨#[116, 117, 114, 110]⟩, .bool true, .bool false, .bool false, .bool false]) w := by kernel_rfl
theorem index_form6 (w : World) : (Instr.index 100 (.agg #[.string ⟨#[]⟩, .bool false, .bool false, .bool false, .bool false, .string ⟨#[105, 110, 115, 101, 114, 116]⟩, .bool false, .bool false, .bool true, .bool false, .string ⟨#[100, 101, 108, 101, 116, 101]⟩, .bool true, .bool false, .bool false, .bool false, .string ⟨#[99, 111, 112, 121]⟩, .bool true, .bool true, .bool false, .bool false, .string ⟨#[109, 111, 118, 101]⟩, .bool true, .bool true, .bool false, .bool false, .string ⟨#[116, 117, 114, 110]⟩, .bool true, .bool false, .bool false, .bool false, .string ⟨#[114, 101, 112, 101, 97, 116]⟩, .bool true, .bool true, .bool false, .bool false, .string ⟨#[109, 97, 112]⟩, .bool true, .bool false, .bool false, .bool true]) (.int .i64 6)).run Tryd.prog w = .ok (.agg #[.string ⟨#[114, 101, 112, 101, 97, 116]⟩, .bool true, .bool true, .bool false, .bool false]) w := by kernel_rfl
theorem index_form7 (w : World) : (Instr.index 100 (.agg #[.string ⟨#[]⟩, .bool false, .bool false, .bool false, .bool false, .string ⟨#[105, 110, 115, 101, 114, 116]⟩, .bool false, .bool false, .bool true, .bool false, .string ⟨#[100, 101, 108, 101, 116, 101]⟩, .bool true, .bool false, .bool false, .bool false, .string ⟨#[99, 111, 112, 121]⟩, .bool true, .bool true, .bool false, .bool false, .string ⟨#[109, 111, 118, 101]⟩, .bool true, .bool true, .bool false, .bool false, .string ⟨#[116, 117, 114, 110]⟩, .bool true, .bool false, .bool false, .bool false, .string ⟨#[114, 101, 112, 101, 97, 116]⟩, .bool true, .bool true, .bool false, .bool false, .string ⟨#[109, 97, 112]⟩, .bool true, .bool false, .bool false, .bool true]) (.int .i64 7)).run Tryd.prog w = .ok (.agg #[.string ⟨#[109, 97, 112]⟩, .bool true, .bool false, .bool false, .bool true]) w := by kernel_rfl
theorem editForms_lit (w : World) :
    Calls Tryd.prog 51 #[] w fun e w' => e = .returned (.agg #[.string ⟨#[]⟩, .bool false, .bool false, .bool false, .bool false, .string ⟨#[105, 110, 115, 101, 114, 116]⟩, .bool false, .bool false, .bool true, .bool false, .string ⟨#[100, 101, 108, 101, 116, 101]⟩, .bool true, .bool false, .bool false, .bool false, .string ⟨#[99, 111, 112, 121]⟩, .bool true, .bool true, .bool false, .bool false, .string ⟨#[109, 111, 118, 101]⟩, .bool true, .bool true, .bool false, .bool false, .string ⟨#[116, 117, 114, 110]⟩, .bool true, .bool false, .bool false, .bool false, .string ⟨#[114, 101, 112, 101, 97, 116]⟩, .bool true, .bool true, .bool false, .bool false, .string ⟨#[109, 97, 112]⟩, .bool true, .bool false, .bool false, .bool true]) ∧ Below w.heap.size w w' := editForms_any w
/-- the form's block of a kind -/
def FmK (w w3 : World) (F : Nat) (k : Int) (wx : World) : Prop := FmSt w w3 F (edW k) (hasJ k) (hasK k) (hasP k) (hasM k) wx
theorem FmK.of {w w3 wx : World} {F : Nat} {k : Int} {W0 : ByteArray} {b1 b2 b3 b4 : Bool} (h : FmSt w w3 F W0 b1 b2 b3 b4 wx) (e0 : edW k = W0) (e1 : hasJ k = b1) (e2 : hasK k = b2) (e3 : hasP k = b3) (e4 : hasM k = b4) : FmK w w3 F k wx := by
  unfold FmK
  rw [e0, e1, e2, e3, e4]
  exact h
set_option maxRecDepth 100000 in
set_option maxHeartbeats 51200000 in
theorem implValidEdit (v : Value) (x : Ed) (w : World) (hf : FewE x) (h : IsEd w v x) :
    Calls Tryd.prog 50 #[v] w fun e w' => e = .returned (.bool (edOk x)) ∧ Below w.heap.size w w' := by
  obtain ⟨u, rfl, hr⟩ := h
  obtain ⟨k, i, j, t, gs, m⟩ := x
  obtain ⟨hf1, hf2⟩ := hf
  simp only at hr hf1 hf2
  have hn := hf1.len
  have HR := Lib.hid (fun W (hb : Below w.heap.size w W) => hr.kept hb)
  obtain ⟨A, c, rfl, _⟩ := hr
  have HG := Lib.hid (fun W (hb : Below w.heap.size w W) => implValidGrammar _ gs W hf1 (HR.out W hb))
  have hb0 := (Below.refl _ w).alloc (Nat.le_refl _) (.cells #[.int .i64 k, .int .i64 i, .int .i64 j, .int .i64 t, .slice A gs.length c, .string m] 46)
  have hP0 := heap_alloc_new w (.cells #[.int .i64 k, .int .i64 i, .int .i64 j, .int .i64 t, .slice A gs.length c, .string m] 46)
  have hs0 : w.heap.size < (w.alloc (.cells #[.int .i64 k, .int .i64 i, .int .i64 j, .int .i64 t, .slice A gs.length c, .string m] 46)).heap.size := by simp
  obtain ⟨R, hR⟩ : ∃ R, R = edOk ⟨k, i, j, t, gs, m⟩ := ⟨_, rfl⟩
  rw [← hR]
  unfold edOk at hR
  simp only at hR
  show Calls Tryd.prog _ #[.agg #[.int .i64 k, .int .i64 i, .int .i64 j, .int .i64 t, .slice A gs.length c, .string m]] _ _
  by_cases hk : 1 ≤ k ∧ k ≤ 7
  case neg =>
    rw [decide_eq_false hk, Bool.false_and] at hR
    subst hR
    have HB0 := Lib.hid hb0
    clear hf1 hf2 hb0 hP0 hs0
    by_cases h1 : k < 1
    · have h1' : decide (k < 1) = true := decide_eq_true h1
      clear hk
      go_enter Tryd.func50, Tryd.ntmps50
      go_wp2_with fail
      go_ret
      exact ⟨rfl, HB0.out⟩
    · have h1' : decide (k < 1) = false := decide_eq_false h1
      have h2' : decide (7 < k) = true := decide_eq_true (by omega)
      clear hk
      go_enter Tryd.func50, Tryd.ntmps50
      go_wp2_with fail
      go_ret
      exact ⟨rfl, HB0.out⟩
  case pos =>
    rw [decide_eq_true hk, Bool.true_and] at hR
    have h1' : decide (k < 1) = false := decide_eq_false (by omega)
    have h2' : decide (7 < k) = false := decide_eq_false (by omega)
    have hk0 : (0 : Int) ≤ k := by omega
    have hk1 : k < 8 := by omega
    have HMS := Lib.hid (fun W => isMap_any m W (by unfold maxLen; omega))
    have HN1 := Lib.hid (fun W => fits_any i true W)
    have HN2 := Lib.hid (fun W => fits_any j (hasJ k) W)
    have HN3 := Lib.hid (fun W => fits_any t (hasK k) W)
    have HB0 := Lib.hid hb0
    have HP0 := Lib.hid hP0
    have HS0 := Lib.hid hs0
    clear hf1 hf2 hb0 hP0 hs0
    go_enter Tryd.func50, Tryd.ntmps50
    go_upto_region 3 with fail
    generalize w.alloc (.cells #[.int .i64 k, .int .i64 i, .int .i64 j, .int .i64 t, .slice A gs.length c, .string m] 46) = w3 at *
    obtain ⟨⟨p0, _⟩, _⟩ := blk6_cells HP0.out
    go_cut [3] (fun s3 wx => ∃ F, s3 = .pointer (some ⟨F, 0, none⟩) ∧ FmK w w3 F k wx)
    case first =>
      have HFM : Hid (∀ W, Below w3.heap.size w3 W → Calls Tryd.prog 51 #[] W fun e w' => e = .returned (.agg #[.string ⟨#[]⟩, .bool false, .bool false, .bool false, .bool false, .string ⟨#[105, 110, 115, 101, 114, 116]⟩, .bool false, .bool false, .bool true, .bool false, .string ⟨#[100, 101, 108, 101, 116, 101]⟩, .bool true, .bool false, .bool false, .bool false, .string ⟨#[99, 111, 112, 121]⟩, .bool true, .bool true, .bool false, .bool false, .string ⟨#[109, 111, 118, 101]⟩, .bool true, .bool true, .bool false, .bool false, .string ⟨#[116, 117, 114, 110]⟩, .bool true, .bool false, .bool false, .bool false, .string ⟨#[114, 101, 112, 101, 97, 116]⟩, .bool true, .bool true, .bool false, .bool false, .string ⟨#[109, 97, 112]⟩, .bool true, .bool false, .bool false, .bool true]) ∧ Below w3.heap.size w3 w' ∧ ∀ b, b < W.heap.size → w'.heap[b]? = W.heap[b]?) := Lib.hid (fun W hb => by
        refine (editForms_lit W).mono ?_
        rintro e w' ⟨he, h2⟩
        exact ⟨he, hb.trans (h2.mono hb.size), fun b hb => h2.block b hb⟩)
      have HPK := Lib.hid (fun W (hb : Below w3.heap.size w3 W) => (hb.cell (p := ⟨w.heap.size, 0, none⟩) HS0.out).trans p0)
      clear HR HG HMS HN1 HN2 HN3 hR HP0
      have HXX : Hid ((∀ W, (Instr.index 100 (.agg #[.string ⟨#[]⟩, .bool false, .bool false, .bool false, .bool false, .string ⟨#[105, 110, 115, 101, 114, 116]⟩, .bool false, .bool false, .bool true, .bool false, .string ⟨#[100, 101, 108, 101, 116, 101]⟩, .bool true, .bool false, .bool false, .bool false, .string ⟨#[99, 111, 112, 121]⟩, .bool true, .bool true, .bool false, .bool false, .string ⟨#[109, 111, 118, 101]⟩, .bool true, .bool true, .bool false, .bool false, .string ⟨#[116, 117, 114, 110]⟩, .bool true, .bool false, .bool false, .bool false, .string ⟨#[114, 101, 112, 101, 97, 116]⟩, .bool true, .bool true, .bool false, .bool false, .string ⟨#[109, 97, 112]⟩, .bool true, .bool false, .bool false, .bool true]) (.int .i64 1)).run Tryd.prog W = .ok (.agg #[.string ⟨#[105, 110, 115, 101, 114, 116]⟩, .bool false, .bool false, .bool true, .bool false]) W) ∧ (∀ W, (Instr.index 100 (.agg #[.string ⟨#[]⟩, .bool false, .bool false, .bool false, .bool false, .string ⟨#[105, 110, 115, 101, 114, 116]⟩, .bool false, .bool false, .bool true, .bool false, .string ⟨#[100, 101, 108, 101, 116, 101]⟩, .bool true, .bool false, .bool false, .bool false, .string ⟨#[99, 111, 112, 121]⟩, .bool true, .bool true, .bool false, .bool false, .string ⟨#[109, 111, 118, 101]⟩, .bool true, .bool true, .bool false, .bool false, .string ⟨#[116, 117, 114, 110]⟩, .bool true, .bool false, .bool false, .bool false, .string ⟨#[114, 101, 112, 101, 97, 116]⟩, .bool true, .bool true, .bool false, .bool false, .string ⟨#[109, 97, 112]⟩, .bool true, .bool false, .bool false, .bool true]) (.int .i64 2)).run Tryd.prog W = .ok (.agg #[.string ⟨#[100, 101, 108, 101, 116, 101]⟩, .bool true, .bool false, .bool false, .bool false]) W) ∧ (∀ W, (Instr.index 100 (.agg #[.string ⟨#[]⟩, .bool false, .bool false, .bool false, .bool false, .string ⟨#[105, 110, 115, 101, 114, 116]⟩, .bool false, .bool false, .bool true, .bool false, .string ⟨#[100, 101, 108, 101, 116, 101]⟩, .bool true, .bool false, .bool false, .bool false, .string ⟨#[99, 111, 112, 121]⟩, .bool true, .bool true, .bool false, .bool false, .string ⟨#[109, 111, 118, 101]⟩, .bool true, .bool true, .bool false, .bool false, .string ⟨#[116, 117, 114, 110]⟩, .bool true, .bool false, .bool false, .bool false, .string ⟨#[114, 101, 112, 101, 97, 116]⟩, .bool true, .bool true, .bool false, .bool false, .string ⟨#[109, 97, 112]⟩, .bool true, .bool false, .bool false, .bool true]) (.int .i64 3)).run Tryd.prog W = .ok (.agg #[.string ⟨#[99, 111, 112, 121]⟩, .bool true, .bool true, .bool false, .bool false]) W) ∧ (∀ W, (Instr.index 100 (.agg #[.string ⟨#[]⟩, .bool false, .bool false, .bool false, .bool false, .string ⟨#[105, 110, 115, 101, 114, 116]⟩, .bool false, .bool false, .bool true, .bool false, .string ⟨#[100, 101, 108, 101, 116, 101]⟩, .bool true, .bool false, .bool false, .bool false, .string ⟨#[99, 111, 112, 121]⟩, .bool true, .bool true, .bool false, .bool false, .string ⟨#[109, 111, 118, 101]⟩, .bool true, .bool true, .bool false, .bool false, .string ⟨#[116, 117, 114, 110]⟩, .bool true, .bool false, .bool false, .bool false, .string ⟨#[114, 101, 112, 101, 97, 116]⟩, .bool true, .bool true, .bool false, .bool false, .string ⟨#[109, 97, 112]⟩, .bool true, .bool false, .bool false, .bool true]) (.int .i64 4)).run Tryd.prog W = .ok (.agg #[.string ⟨#[109, 111, 118, 101]⟩, .bool true, .bool true, .bool false, .bool false]) W) ∧ (∀ W, (Instr.index 100 (.agg #[.string ⟨#[]⟩, .bool false, .bool false, .bool false, .bool false, .string ⟨#[105, 110, 115, 101, 114, 116]⟩, .bool false, .bool false, .bool true, .bool false, .string ⟨#[100, 101, 108, 101, 116, 101]⟩, .bool true, .bool false, .bool false, .bool false, .string ⟨#[99, 111, 112, 121]⟩, .bool true, .bool true, .bool false, .bool false, .string ⟨#[109, 111, 118, 101]⟩, .bool true, .bool true, .bool false, .bool false, .string ⟨#[116, 117, 114, 110]⟩, .bool true, .bool false, .bool false, .bool false, .string ⟨#[114, 101, 112, 101, 97, 116]⟩, .bool true, .bool true, .bool false, .bool false, .string ⟨#[109, 97, 112]⟩, .bool true, .bool false, .bool false, .bool true]) (.int .i64 5)).run Tryd.prog W = .ok (.agg #[.string ⟨#[116, 117, 114, 110]⟩, .bool true, .bool false, .bool false, .bool false]) W) ∧ (∀ W, (Instr.index 100 (.agg #[.string ⟨#[]⟩, .bool false, .bool false, .bool false, .bool false, .string ⟨#[105, 110, 115, 101, 114, 116]⟩, .bool false, .bool false, .bool true, .bool false, .string ⟨#[100, 101, 108, 101, 116, 101]⟩, .bool true, .bool false, .bool false, .bool false, .string ⟨#[99, 111, 112, 121]⟩, .bool true, .bool true, .bool false, .bool false, .string ⟨#[109, 111, 118, 101]⟩, .bool true, .bool true, .bool false, .bool false, .string ⟨#[116, 117, 114, 110]⟩, .bool true, .bool false, .bool false, .bool false, .string ⟨#[114, 101, 112, 101, 97, 116]⟩, .bool true, .bool true, .bool false, .bool false, .string ⟨#[109, 97, 112]⟩, .bool true, .bool false, .bool false, .bool true]) (.int .i64 6)).run Tryd.prog W = .ok (.agg #[.string ⟨#[114, 101, 112, 101, 97, 116]⟩, .bool true, .bool true, .bool false, .bool false]) W) ∧ (∀ W, (Instr.index 100 (.agg #[.string ⟨#[]⟩, .bool false, .bool false, .bool false, .bool false, .string ⟨#[105, 110, 115, 101, 114, 116]⟩, .bool false, .bool false, .bool true, .bool false, .string ⟨#[100, 101, 108, 101, 116, 101]⟩, .bool true, .bool false, .bool false, .bool false, .string ⟨#[99, 111, 112, 121]⟩, .bool true, .bool true, .bool false, .bool false, .string ⟨#[109, 111, 118, 101]⟩, .bool true, .bool true, .bool false, .bool false, .string ⟨#[116, 117, 114, 110]⟩, .bool true, .bool false, .bool false, .bool false, .string ⟨#[114, 101, 112, 101, 97, 116]⟩, .bool true, .bool true, .bool false, .bool false, .string ⟨#[109, 97, 112]⟩, .bool true, .bool false, .bool false, .bool true]) (.int .i64 7)).run Tryd.prog W = .ok (.agg #[.string ⟨#[109, 97, 112]⟩, .bool true, .bool false, .bool false, .bool true]) W)) := Lib.hid ⟨index_form1, index_form2, index_form3, index_form4, index_form5, index_form6, index_form7⟩
      obtain rfl | rfl | rfl | rfl | rfl | rfl | rfl : k = 1 ∨ k = 2 ∨ k = 3 ∨ k = 4 ∨ k = 5 ∨ k = 6 ∨ k = 7 := by omega
      · have hx7 := HXX.out.1
        have HE : Hid (edW 1 = ⟨#[105, 110, 115, 101, 114, 116]⟩ ∧ hasJ 1 = false ∧ hasK 1 = false ∧ hasP 1 = true ∧ hasM 1 = false) := Lib.hid ⟨rfl, rfl, rfl, rfl, rfl⟩
        go_region_held3 (fun w' => w'.cell? ⟨w.heap.size, 0, none⟩ = some (.int .i64 1))
          (first | (with_reducible go_keep) | (with_reducible exact p0) | (with_reducible exact HC7.out) | (with_reducible exact HPK.out _ (HB7.out.alloc HB7.out.size _)) | (with_reducible exact HPK.out _ (((((HB7.out.setCell (Nat.le_refl _) _).setCell (Nat.le_refl _) _).setCell (Nat.le_refl _) _).setCell (Nat.le_refl _) _).setCell (Nat.le_refl _) _)) | go_keep)
          (first
            | (go_at_call 51
               refine (HFM.out _ ?_).mono ?_
               (first | (with_reducible exact (Below.refl _ _).alloc (Nat.le_refl _) _) | (with_reducible exact below_drewE ((Below.refl _ _).alloc (Nat.le_refl _) _)) | (with_reducible exact (below_drewE (Below.refl _ _)).alloc (Nat.le_refl _) _))
               rintro e w7 ⟨rfl, hB7, hK7⟩
               have HX7 : Hid (w7.heap[w3.heap.size]? = some (.cells #[.string ⟨#[]⟩, .bool false, .bool false, .bool false, .bool false] 99 (0, 0))) := Lib.hid ((hK7 _ (by simp)).trans (heap_alloc_new w3 _))
               obtain ⟨x0, x1, x2, x3, x4⟩ := blk5_cells HX7.out
               have e0 := blk5_frozen (o := 0) HX7.out
               have e1 := blk5_frozen (o := 1) HX7.out
               have e2 := blk5_frozen (o := 2) HX7.out
               have e3 := blk5_frozen (o := 3) HX7.out
               have e4 := blk5_frozen (o := 4) HX7.out
               have HB7 := Lib.hid hB7
               have HC7 := Lib.hid (HPK.out w7 hB7)
               clear hB7 hK7)
            | (go_at_call 51
               refine (HFM.out _ ?_).mono ?_
               (first | (with_reducible exact Below.refl _ _) | (with_reducible exact below_drewE (Below.refl _ _)))
               rintro e w7 ⟨rfl, hB7, hK7⟩
               have HB7 := Lib.hid hB7
               have HC7 := Lib.hid (HPK.out w7 hB7)
               clear hB7 hK7))
        all_goals (go_wp2_with fail; go_meet)
        all_goals first
          | (with_reducible exact ⟨_, rfl, FmK.of (FmSt.two (Nat.le_refl _) HB7.out HX7.out) HE.out.1 HE.out.2.1 HE.out.2.2.1 HE.out.2.2.2.1 HE.out.2.2.2.2⟩)
          | (with_reducible exact ⟨_, rfl, FmK.of (FmSt.one HB7.out) HE.out.1 HE.out.2.1 HE.out.2.2.1 HE.out.2.2.2.1 HE.out.2.2.2.2⟩)
          | (with_reducible exact ⟨_, rfl, FmK.of ((FmSt.two (Nat.le_refl _) HB7.out HX7.out).drewN 1) HE.out.1 HE.out.2.1 HE.out.2.2.1 HE.out.2.2.2.1 HE.out.2.2.2.2⟩)
          | (with_reducible exact ⟨_, rfl, FmK.of ((FmSt.one HB7.out).drewN 1) HE.out.1 HE.out.2.1 HE.out.2.2.1 HE.out.2.2.2.1 HE.out.2.2.2.2⟩)
      · have hx7 := HXX.out.2.1
        have HE : Hid (edW 2 = ⟨#[100, 101, 108, 101, 116, 101]⟩ ∧ hasJ 2 = true ∧ hasK 2 = false ∧ hasP 2 = false ∧ hasM 2 = false) := Lib.hid ⟨rfl, rfl, rfl, rfl, rfl⟩
        go_region_held3 (fun w' => w'.cell? ⟨w.heap.size, 0, none⟩ = some (.int .i64 2))
          (first | (with_reducible go_keep) | (with_reducible exact p0) | (with_reducible exact HC7.out) | (with_reducible exact HPK.out _ (HB7.out.alloc HB7.out.size _)) | (with_reducible exact HPK.out _ (((((HB7.out.setCell (Nat.le_refl _) _).setCell (Nat.le_refl _) _).setCell (Nat.le_refl _) _).setCell (Nat.le_refl _) _).setCell (Nat.le_refl _) _)) | go_keep)
          (first
            | (go_at_call 51
               refine (HFM.out _ ?_).mono ?_
               (first | (with_reducible exact (Below.refl _ _).alloc (Nat.le_refl _) _) | (with_reducible exact below_drewE ((Below.refl _ _).alloc (Nat.le_refl _) _)) | (with_reducible exact (below_drewE (Below.refl _ _)).alloc (Nat.le_refl _) _))
               rintro e w7 ⟨rfl, hB7, hK7⟩
               have HX7 : Hid (w7.heap[w3.heap.size]? = some (.cells #[.string ⟨#[]⟩, .bool false, .bool false, .bool false, .bool false] 99 (0, 0))) := Lib.hid ((hK7 _ (by simp)).trans (heap_alloc_new w3 _))
               obtain ⟨x0, x1, x2, x3, x4⟩ := blk5_cells HX7.out
               have e0 := blk5_frozen (o := 0) HX7.out
               have e1 := blk5_frozen (o := 1) HX7.out
               have e2 := blk5_frozen (o := 2) HX7.out
               have e3 := blk5_frozen (o := 3) HX7.out
               have e4 := blk5_frozen (o := 4) HX7.out
               have HB7 := Lib.hid hB7
               have HC7 := Lib.hid (HPK.out w7 hB7)
               clear hB7 hK7)
            | (go_at_call 51
               refine (HFM.out _ ?_).mono ?_
               (first | (with_reducible exact Below.refl _ _) | (with_reducible exact below_drewE (Below.refl _ _)))
               rintro e w7 ⟨rfl, hB7, hK7⟩
               have HB7 := Lib.hid hB7
               have HC7 := Lib.hid (HPK.out w7 hB7)
               clear hB7 hK7))
        all_goals (go_wp2_with fail; go_meet)
        all_goals first
          | (with_reducible exact ⟨_, rfl, FmK.of (FmSt.two (Nat.le_refl _) HB7.out HX7.out) HE.out.1 HE.out.2.1 HE.out.2.2.1 HE.out.2.2.2.1 HE.out.2.2.2.2⟩)
          | (with_reducible exact ⟨_, rfl, FmK.of (FmSt.one HB7.out) HE.out.1 HE.out.2.1 HE.out.2.2.1 HE.out.2.2.2.1 HE.out.2.2.2.2⟩)
          | (with_reducible exact ⟨_, rfl, FmK.of ((FmSt.two (Nat.le_refl _) HB7.out HX7.out).drewN 1) HE.out.1 HE.out.2.1 HE.out.2.2.1 HE.out.2.2.2.1 HE.out.2.2.2.2⟩)
          | (with_reducible exact ⟨_, rfl, FmK.of ((FmSt.one HB7.out).drewN 1) HE.out.1 HE.out.2.1 HE.out.2.2.1 HE.out.2.2.2.1 HE.out.2.2.2.2⟩)
      · have hx7 := HXX.out.2.2.1
        have HE : Hid (edW 3 = ⟨#[99, 111, 112, 121]⟩ ∧ hasJ 3 = true ∧ hasK 3 = true ∧ hasP 3 = false ∧ hasM 3 = false) := Lib.hid ⟨rfl, rfl, rfl, rfl, rfl⟩
        go_region_held3 (fun w' => w'.cell? ⟨w.heap.size, 0, none⟩ = some (.int .i64 3))
          (first | (with_reducible go_keep) | (with_reducible exact p0) | (with_reducible exact HC7.out) | (with_reducible exact HPK.out _ (HB7.out.alloc HB7.out.size _)) | (with_reducible exact HPK.out _ (((((HB7.out.setCell (Nat.le_refl _) _).setCell (Nat.le_refl _) _).setCell (Nat.le_refl _) _).setCell (Nat.le_refl _) _).setCell (Nat.le_refl _) _)) | go_keep)
          (first
            | (go_at_call 51
               refine (HFM.out _ ?_).mono ?_
               (first | (with_reducible exact (Below.refl _ _).alloc (Nat.le_refl _) _) | (with_reducible exact below_drewE ((Below.refl _ _).alloc (Nat.le_refl _) _)) | (with_reducible exact (below_drewE (Below.refl _ _)).alloc (Nat.le_refl _) _))
               rintro e w7 ⟨rfl, hB7, hK7⟩
               have HX7 : Hid (w7.heap[w3.heap.size]? = some (.cells #[.string ⟨#[]⟩, .bool false, .bool false, .bool false, .bool false] 99 (0, 0))) := Lib.hid ((hK7 _ (by simp)).trans (heap_alloc_new w3 _))
               obtain ⟨x0, x1, x2, x3, x4⟩ := blk5_cells HX7.out
               have e0 := blk5_frozen (o := 0) HX7.out
               have e1 := blk5_frozen (o := 1) HX7.out
               have e2 := blk5_frozen (o := 2) HX7.out
               have e3 := blk5_frozen (o := 3) HX7.out
               have e4 := blk5_frozen (o := 4) HX7.out
               have HB7 := Lib.hid hB7
               have HC7 := Lib.hid (HPK.out w7 hB7)
               clear hB7 hK7)
            | (go_at_call 51
               refine (HFM.out _ ?_).mono ?_
               (first | (with_reducible exact Below.refl _ _) | (with_reducible exact below_drewE (Below.refl _ _)))
               rintro e w7 ⟨rfl, hB7, hK7⟩
               have HB7 := Lib.hid hB7
               have HC7 := Lib.hid (HPK.out w7 hB7)
               clear hB7 hK7))
        all_goals (go_wp2_with fail; go_meet)
        all_goals first
          | (with_reducible exact ⟨_, rfl, FmK.of (FmSt.two (Nat.le_refl _) HB7.out HX7.out) HE.out.1 HE.out.2.1 HE.out.2.2.1 HE.out.2.2.2.1 HE.out.2.2.2.2⟩)
          | (with_reducible exact ⟨_, rfl, FmK.of (FmSt.one HB7.out) HE.out.1 HE.out.2.1 HE.out.2.2.1 HE.out.2.2.2.1 HE.out.2.2.2.2⟩)
          | (with_reducible exact ⟨_, rfl, FmK.of ((FmSt.two (Nat.le_refl _) HB7.out HX7.out).drewN 1) HE.out.1 HE.out.2.1 HE.out.2.2.1 HE.out.2.2.2.1 HE.out.2.2.2.2⟩)
          | (with_reducible exact ⟨_, rfl, FmK.of ((FmSt.one HB7.out).drewN 1) HE.out.1 HE.out.2.1 HE.out.2.2.1 HE.out.2.2.2.1 HE.out.2.2.2.2⟩)
      · have hx7 := HXX.out.2.2.2.1
        have HE : Hid (edW 4 = ⟨#[109, 111, 118, 101]⟩ ∧ hasJ 4 = true ∧ hasK 4 = true ∧ hasP 4 = false ∧ hasM 4 = false) := Lib.hid ⟨rfl, rfl, rfl, rfl, rfl⟩
        go_region_held3 (fun w' => w'.cell? ⟨w.heap.size, 0, none⟩ = some (.int .i64 4))
          (first | (with_reducible go_keep) | (with_reducible exact p0) | (with_reducible exact HC7.out) | (with_reducible exact HPK.out _ (HB7.out.alloc HB7.out.size _)) | (with_reducible exact HPK.out _ (((((HB7.out.setCell (Nat.le_refl _) _).setCell (Nat.le_refl _) _).setCell (Nat.le_refl _) _).setCell (Nat.le_refl _) _).setCell (Nat.le_refl _) _)) | go_keep)
          (first
            | (go_at_call 51
               refine (HFM.out _ ?_).mono ?_
               (first | (with_reducible exact (Below.refl _ _).alloc (Nat.le_refl _) _) | (with_reducible exact below_drewE ((Below.refl _ _).alloc (Nat.le_refl _) _)) | (with_reducible exact (below_drewE (Below.refl _ _)).alloc (Nat.le_refl _) _))
               rintro e w7 ⟨rfl, hB7, hK7⟩
               have HX7 : Hid (w7.heap[w3.heap.size]? = some (.cells #[.string ⟨#[]⟩, .bool false, .bool false, .bool false, .bool false] 99 (0, 0))) := Lib.hid ((hK7 _ (by simp)).trans (heap_alloc_new w3 _))
               obtain ⟨x0, x1, x2, x3, x4⟩ := blk5_cells HX7.out
               have e0 := blk5_frozen (o := 0) HX7.out
               have e1 := blk5_frozen (o := 1) HX7.out
               have e2 := blk5_frozen (o := 2) HX7.out
               have e3 := blk5_frozen (o := 3) HX7.out
               have e4 := blk5_frozen (o := 4) HX7.out
               have HB7 := Lib.hid hB7
               have HC7 := Lib.hid (HPK.out w7 hB7)
               clear hB7 hK7)
            | (go_at_call 51
               refine (HFM.out _ ?_).mono ?_
               (first | (with_reducible exact Below.refl _ _) | (with_reducible exact below_drewE (Below.refl _ _)))
               rintro e w7 ⟨rfl, hB7, hK7⟩
               have HB7 := Lib.hid hB7
               have HC7 := Lib.hid (HPK.out w7 hB7)
               clear hB7 hK7))
        all_goals (go_wp2_with fail; go_meet)
        all_goals first
          | (with_reducible exact ⟨_, rfl, FmK.of (FmSt.two (Nat.le_refl _) HB7.out HX7.out) HE.out.1 HE.out.2.1 HE.out.2.2.1 HE.out.2.2.2.1 HE.out.2.2.2.2⟩)
          | (with_reducible exact ⟨_, rfl, FmK.of (FmSt.one HB7.out) HE.out.1 HE.out.2.1 HE.out.2.2.1 HE.out.2.2.2.1 HE.out.2.2.2.2⟩)
          | (with_reducible exact ⟨_, rfl, FmK.of ((FmSt.two (Nat.le_refl _) HB7.out HX7.out).drewN 1) HE.out.1 HE.out.2.1 HE.out.2.2.1 HE.out.2.2.2.1 HE.out.2.2.2.2⟩)
          | (with_reducible exact ⟨_, rfl, FmK.of ((FmSt.one HB7.out).drewN 1) HE.out.1 HE.out.2.1 HE.out.2.2.1 HE.out.2.2.2.1 HE.out.2.2.2.2⟩)
      · have hx7 := HXX.out.2.2.2.2.1
        have HE : Hid (edW 5 = ⟨#[116, 117, 114, 110]⟩ ∧ hasJ 5 = true ∧ hasK 5 = false ∧ hasP 5 = false ∧ hasM 5 = false) := Lib.hid ⟨rfl, rfl, rfl, rfl, rfl⟩
        go_region_held3 (fun w' => w'.cell? ⟨w.heap.size, 0, none⟩ = some (.int .i64 5))
          (first | (with_reducible go_keep) | (with_reducible exact p0) | (with_reducible exact HC7.out) | (with_reducible exact HPK.out _ (HB7.out.alloc HB7.out.size _)) | (with_reducible exact HPK.out _ (((((HB7.out.setCell (Nat.le_refl _) _).setCell (Nat.le_refl _) _).setCell (Nat.le_refl _) _).setCell (Nat.le_refl _) _).setCell (Nat.le_refl _) _)) | go_keep)
          (first
            | (go_at_call 51
               refine (HFM.out _ ?_).mono ?_
               (first | (with_reducible exact (Below.refl _ _).alloc (Nat.le_refl _) _) | (with_reducible exact below_drewE ((Below.refl _ _).alloc (Nat.le_refl _) _)) | (with_reducible exact (below_drewE (Below.refl _ _)).alloc (Nat.le_refl _) _))
               rintro e w7 ⟨rfl, hB7, hK7⟩
               have HX7 : Hid (w7.heap[w3.heap.size]? = some (.cells #[.string ⟨#[]⟩, .bool false, .bool false, .bool false, .bool false] 99 (0, 0))) := Lib.hid ((hK7 _ (by simp)).trans (heap_alloc_new w3 _))
               obtain ⟨x0, x1, x2, x3, x4⟩ := blk5_cells HX7.out
               have e0 := blk5_frozen (o := 0) HX7.out
               have e1 := blk5_frozen (o := 1) HX7.out
               have e2 := blk5_frozen (o := 2) HX7.out
               have e3 := blk5_frozen (o := 3) HX7.out
               have e4 := blk5_frozen (o := 4) HX7.out
               have HB7 := Lib.hid hB7
               have HC7 := Lib.hid (HPK.out w7 hB7)
               clear hB7 hK7)
            | (go_at_call 51
               refine (HFM.out _ ?_).mono ?_
               (first | (with_reducible exact Below.refl _ _) | (with_reducible exact below_drewE (Below.refl _ _)))
               rintro e w7 ⟨rfl, hB7, hK7⟩
               have HB7 := Lib.hid hB7
               have HC7 := Lib.hid (HPK.out w7 hB7)
               clear hB7 hK7))
        all_goals (go_wp2_with fail; go_meet)
        all_goals first
          | (with_reducible exact ⟨_, rfl, FmK.of (FmSt.two (Nat.le_refl _) HB7.out HX7.out) HE.out.1 HE.out.2.1 HE.out.2.2.1 HE.out.2.2.2.1 HE.out.2.2.2.2⟩)
          | (with_reducible exact ⟨_, rfl, FmK.of (FmSt.one HB7.out) HE.out.1 HE.out.2.1 HE.out.2.2.1 HE.out.2.2.2.1 HE.out.2.2.2.2⟩)
          | (with_reducible exact ⟨_, rfl, FmK.of ((FmSt.two (Nat.le_refl _) HB7.out HX7.out).drewN 1) HE.out.1 HE.out.2.1 HE.out.2.2.1 HE.out.2.2.2.1 HE.out.2.2.2.2⟩)
          | (with_reducible exact ⟨_, rfl, FmK.of ((FmSt.one HB7.out).drewN 1) HE.out.1 HE.out.2.1 HE.out.2.2.1 HE.out.2.2.2.1 HE.out.2.2.2.2⟩)
      · have hx7 := HXX.out.2.2.2.2.2.1
        have HE : Hid (edW 6 = ⟨#[114, 101, 112, 101, 97, 116]⟩ ∧ hasJ 6 = true ∧ hasK 6 = true ∧ hasP 6 = false ∧ hasM 6 = false) := Lib.hid ⟨rfl, rfl, rfl, rfl, rfl⟩
        go_region_held3 (fun w' => w'.cell? ⟨w.heap.size, 0, none⟩ = some (.int .i64 6))
          (first | (with_reducible go_keep) | (with_reducible exact p0) | (with_reducible exact HC7.out) | (with_reducible exact HPK.out _ (HB7.out.alloc HB7.out.size _)) | (with_reducible exact HPK.out _ (((((HB7.out.setCell (Nat.le_refl _) _).setCell (Nat.le_refl _) _).setCell (Nat.le_refl _) _).setCell (Nat.le_refl _) _).setCell (Nat.le_refl _) _)) | go_keep)
          (first
            | (go_at_call 51
               refine (HFM.out _ ?_).mono ?_
               (first | (with_reducible exact (Below.refl _ _).alloc (Nat.le_refl _) _) | (with_reducible exact below_drewE ((Below.refl _ _).alloc (Nat.le_refl _) _)) | (with_reducible exact (below_drewE (Below.refl _ _)).alloc (Nat.le_refl _) _))
               rintro e w7 ⟨rfl, hB7, hK7⟩
               have HX7 : Hid (w7.heap[w3.heap.size]? = some (.cells #[.string ⟨#[]⟩, .bool false, .bool false, .bool false, .bool false] 99 (0, 0))) := Lib.hid ((hK7 _ (by simp)).trans (heap_alloc_new w3 _))
               obtain ⟨x0, x1, x2, x3, x4⟩ := blk5_cells HX7.out
               have e0 := blk5_frozen (o := 0) HX7.out
               have e1 := blk5_frozen (o := 1) HX7.out
               have e2 := blk5_frozen (o := 2) HX7.out
               have e3 := blk5_frozen (o := 3) HX7.out
               have e4 := blk5_frozen (o := 4) HX7.out
               have HB7 := Lib.hid hB7
               have HC7 := Lib.hid (HPK.out w7 hB7)
               clear hB7 hK7)
            | (go_at_call 51
               refine (HFM.out _ ?_).mono ?_
               (first | (with_reducible exact Below.refl _ _) | (with_reducible exact below_drewE (Below.refl _ _)))
               rintro e w7 ⟨rfl, hB7, hK7⟩
               have HB7 := Lib.hid hB7
               have HC7 := Lib.hid (HPK.out w7 hB7)
               clear hB7 hK7))
        all_goals (go_wp2_with fail; go_meet)
        all_goals first
          | (with_reducible exact ⟨_, rfl, FmK.of (FmSt.two (Nat.le_refl _) HB7.out HX7.out) HE.out.1 HE.out.2.1 HE.out.2.2.1 HE.out.2.2.2.1 HE.out.2.2.2.2⟩)
          | (with_reducible exact ⟨_, rfl, FmK.of (FmSt.one HB7.out) HE.out.1 HE.out.2.1 HE.out.2.2.1 HE.out.2.2.2.1 HE.out.2.2.2.2⟩)
          | (with_reducible exact ⟨_, rfl, FmK.of ((FmSt.two (Nat.le_refl _) HB7.out HX7.out).drewN 1) HE.out.1 HE.out.2.1 HE.out.2.2.1 HE.out.2.2.2.1 HE.out.2.2.2.2⟩)
          | (with_reducible exact ⟨_, rfl, FmK.of ((FmSt.one HB7.out).drewN 1) HE.out.1 HE.out.2.1 HE.out.2.2.1 HE.out.2.2.2.1 HE.out.2.2.2.2⟩)
      · have hx7 := HXX.out.2.2.2.2.2.2
        have HE : Hid (edW 7 = ⟨#[109, 97, 112]⟩ ∧ hasJ 7 = true ∧ hasK 7 = false ∧ hasP 7 = false ∧ hasM 7 = true) := Lib.hid ⟨rfl, rfl, rfl, rfl, rfl⟩
        go_region_held3 (fun w' => w'.cell? ⟨w.heap.size, 0, none⟩ = some (.int .i64 7))
          (first | (with_reducible go_keep) | (with_reducible exact p0) | (with_reducible exact HC7.out) | (with_reducible exact HPK.out _ (HB7.out.alloc HB7.out.size _)) | (with_reducible exact HPK.out _ (((((HB7.out.setCell (Nat.le_refl _) _).setCell (Nat.le_refl _) _).setCell (Nat.le_refl _) _).setCell (Nat.le_refl _) _).setCell (Nat.le_refl _) _)) | go_keep)
          (first
            | (go_at_call 51
               refine (HFM.out _ ?_).mono ?_
               (first | (with_reducible exact (Below.refl _ _).alloc (Nat.le_refl _) _) | (with_reducible exact below_drewE ((Below.refl _ _).alloc (Nat.le_refl _) _)) | (with_reducible exact (below_drewE (Below.refl _ _)).alloc (Nat.le_refl _) _))
               rintro e w7 ⟨rfl, hB7, hK7⟩
               have HX7 : Hid (w7.heap[w3.heap.size]? = some (.cells #[.string ⟨#[]⟩, .bool false, .bool false, .bool false, .bool false] 99 (0, 0))) := Lib.hid ((hK7 _ (by simp)).trans (heap_alloc_new w3 _))
               obtain ⟨x0, x1, x2, x3, x4⟩ := blk5_cells HX7.out
               have e0 := blk5_frozen (o := 0) HX7.out
               have e1 := blk5_frozen (o := 1) HX7.out
               have e2 := blk5_frozen (o := 2) HX7.out
               have e3 := blk5_frozen (o := 3) HX7.out
               have e4 := blk5_frozen (o := 4) HX7.out
               have HB7 := Lib.hid hB7
               have HC7 := Lib.hid (HPK.out w7 hB7)
               clear hB7 hK7)
            | (go_at_call 51
               refine (HFM.out _ ?_).mono ?_
               (first | (with_reducible exact Below.refl _ _) | (with_reducible exact below_drewE (Below.refl _ _)))
               rintro e w7 ⟨rfl, hB7, hK7⟩
               have HB7 := Lib.hid hB7
               have HC7 := Lib.hid (HPK.out w7 hB7)
               clear hB7 hK7))
        all_goals (go_wp2_with fail; go_meet)
        all_goals first
          | (with_reducible exact ⟨_, rfl, FmK.of (FmSt.two (Nat.le_refl _) HB7.out HX7.out) HE.out.1 HE.out.2.1 HE.out.2.2.1 HE.out.2.2.2.1 HE.out.2.2.2.2⟩)
          | (with_reducible exact ⟨_, rfl, FmK.of (FmSt.one HB7.out) HE.out.1 HE.out.2.1 HE.out.2.2.1 HE.out.2.2.2.1 HE.out.2.2.2.2⟩)
          | (with_reducible exact ⟨_, rfl, FmK.of ((FmSt.two (Nat.le_refl _) HB7.out HX7.out).drewN 1) HE.out.1 HE.out.2.1 HE.out.2.2.1 HE.out.2.2.2.1 HE.out.2.2.2.2⟩)
          | (with_reducible exact ⟨_, rfl, FmK.of ((FmSt.one HB7.out).drewN 1) HE.out.1 HE.out.2.1 HE.out.2.2.1 HE.out.2.2.2.1 HE.out.2.2.2.2⟩)
    case rest =>
      obtain ⟨F, rfl, hst⟩ := hcut
      unfold FmK at hst
      unfold mapOk at hR
      clear hk hk0 hk1
      generalize numOk i true = n1 at *
      generalize numOk j (hasJ k) = n2 at *
      generalize numOk t (hasK k) = n3 at *
      generalize hasJ k = b1 at *
      generalize hasK k = b2 at *
      generalize hasP k = b3 at *
      generalize hasM k = b4 at *
      generalize edW k = W0 at *
      obtain ⟨hF, hF2, hB⟩ := hst
      have hP4 := (hB.block w.heap.size HS0.out).trans HP0.out
      have HB4 := Lib.hid (HB0.out.trans (hB.mono (Nat.le_of_lt HS0.out)))
      obtain ⟨⟨q0, q1, q2, q3, q4, q5⟩, _⟩ := blk6_cells hP4
      obtain ⟨f0, f1, f2, f3, f4⟩ := blk5_cells hF
      have HF := Lib.hid hF
      have HP4 := Lib.hid hP4
      have HSZ : Hid (w.heap.size < wc.heap.size ∧ F < wc.heap.size) := Lib.hid ⟨Nat.lt_of_lt_of_le HS0.out hB.size, by
        rcases Nat.lt_or_ge F wc.heap.size with h | h
        · exact h
        · rw [Array.getElem?_eq_none h] at hF; cases hF⟩
      clear hF hF2 hB hP4 p0 h1' h2' HB0 HP0 HS0
      go_wp2_with fail
      refine (HN1.out _).mono ?_
      rintro e w4 ⟨rfl, rfl⟩
      cases n1
      · rw [Bool.false_and, Bool.false_and] at hR
        subst hR
        go_wp2_with fail
        go_ret
        exact ⟨rfl, HB4.out⟩
      go_wp2_with fail
      refine (HN2.out _).mono ?_
      rintro e w5 ⟨rfl, rfl⟩
      cases n2
      · rw [Bool.false_and, Bool.and_false, Bool.false_and] at hR
        subst hR
        go_wp2_with fail
        go_ret
        exact ⟨rfl, HB4.out⟩
      go_wp2_with fail
      refine (HN3.out _).mono ?_
      rintro e w6 ⟨rfl, rfl⟩
      cases n3
      · rw [Bool.and_false, Bool.and_false, Bool.false_and] at hR
        subst hR
        go_wp2_with fail
        go_ret
        exact ⟨rfl, HB4.out⟩
      by_cases hij : j < i ∧ b1 = true
      · obtain ⟨hij, rfl⟩ := hij
        rw [decide_eq_true hij, Bool.and_true, Bool.not_true, Bool.false_and, Bool.and_false] at hR
        subst hR
        go_wp2_with fail
        go_ret
        exact ⟨rfl, HB4.out⟩
      have hR' : R = ((decide (0 < gs.length) == b3) && (gOk gs && if b4 = true then decide (m.size = 4) && okL m.data.toList else decide (m.size = 0))) := by
        rw [hR]
        cases b1
        · simp
        · have : ¬ j < i := fun h => hij ⟨h, rfl⟩
          simp [this]
      have hij' : b1 = true → decide (j < i) = false := fun h => decide_eq_false (fun h' => hij ⟨h', h⟩)
      clear hR hij
      cases b1
      case' true => have hij := hij' rfl
      all_goals
        clear hij'
        by_cases h0 : 0 < gs.length
        · have hx : decide ((0 : Int) < (gs.length : Int)) = true := by simpa using h0
          have hx2 : decide (0 < gs.length) = true := by simpa using h0
          rw [decide_eq_true h0] at hR'
          clear h0
          cases b3
          · rw [show (true == false) = false from rfl, Bool.false_and] at hR'
            subst hR'
            go_wp2_with fail
            go_ret
            exact ⟨rfl, HB4.out⟩
          · go_wp2_with fail
            refine (HG.out _ HB4.out).mono ?_
            rintro e w7 ⟨rfl, hB7⟩
            have hB8 := hB7
            have HB8 := Lib.hid (HB4.out.trans (hB7.mono HB4.out.size))
            have g4 := (hB7.cell (p := ⟨F, 4, none⟩) HSZ.out.2).trans f4
            have g5 := (hB7.cell (p := ⟨w.heap.size, 5, none⟩) HSZ.out.1).trans q5
            clear hB7 hB8 q0 q1 q2 q3 q4 q5 f0 f1 f2 f3 f4
            cases hg : gOk gs
            · rw [hg, Bool.false_and, Bool.and_false] at hR'
              subst hR'
              go_wp2_with fail
              go_ret
              exact ⟨rfl, HB8.out⟩
            · rw [hg, Bool.true_and, show (true == true) = true from rfl, Bool.true_and] at hR'
              clear hg
              cases b4
              · rw [if_neg (by decide)] at hR'
                by_cases hm : m.size = 0
                · obtain rfl := bytes_empty hm
                  rw [decide_eq_true hm] at hR'
                  subst hR'
                  go_wp2_with fail
                  go_ret
                  exact ⟨by first | rfl | simp, HB8.out⟩
                · rw [decide_eq_false hm] at hR'
                  subst hR'
                  have hme := bytes_ne hm
                  go_wp2_with fail
                  go_ret
                  exact ⟨by first | rfl | (simp; rw [ByteArray.toList_eq]; intro h; rw [h] at hme; cases hme), HB8.out⟩
              · rw [if_pos rfl] at hR'
                have hq := HMS.out
                rw [← hR'] at hq
                have HQ := Lib.hid hq
                clear hq hR'
                cases R
                all_goals
                  go_wp2_with fail
                  refine (HQ.out _).mono ?_
                  rintro e w10 ⟨rfl, rfl⟩
                  go_wp2_with fail
                  go_ret
                  exact ⟨rfl, HB8.out⟩
        · have hx : decide ((0 : Int) < (gs.length : Int)) = false := by simpa using h0
          have hx2 : decide (0 < gs.length) = false := by simpa using h0
          rw [decide_eq_false h0] at hR'
          clear h0
          cases b3
          · go_wp2_with fail
            refine (HG.out _ HB4.out).mono ?_
            rintro e w7 ⟨rfl, hB7⟩
            have hB8 := hB7
            have HB8 := Lib.hid (HB4.out.trans (hB7.mono HB4.out.size))
            have g4 := (hB7.cell (p := ⟨F, 4, none⟩) HSZ.out.2).trans f4
            have g5 := (hB7.cell (p := ⟨w.heap.size, 5, none⟩) HSZ.out.1).trans q5
            clear hB7 hB8 q0 q1 q2 q3 q4 q5 f0 f1 f2 f3 f4
            cases hg : gOk gs
            · rw [hg, Bool.false_and, Bool.and_false] at hR'
              subst hR'
              go_wp2_with fail
              go_ret
              exact ⟨rfl, HB8.out⟩
            · rw [hg, Bool.true_and, show (false == false) = true from rfl, Bool.true_and] at hR'
              clear hg
              cases b4
              · rw [if_neg (by decide)] at hR'
                by_cases hm : m.size = 0
                · obtain rfl := bytes_empty hm
                  rw [decide_eq_true hm] at hR'
                  subst hR'
                  go_wp2_with fail
                  go_ret
                  exact ⟨by first | rfl | simp, HB8.out⟩
                · rw [decide_eq_false hm] at hR'
                  subst hR'
                  have hme := bytes_ne hm
                  go_wp2_with fail
                  go_ret
                  exact ⟨by first | rfl | (simp; rw [ByteArray.toList_eq]; intro h; rw [h] at hme; cases hme), HB8.out⟩
              · rw [if_pos rfl] at hR'
                have hq := HMS.out
                rw [← hR'] at hq
                have HQ := Lib.hid hq
                clear hq hR'
                cases R
                all_goals
                  go_wp2_with fail
                  refine (HQ.out _).mono ?_
                  rintro e w10 ⟨rfl, rfl⟩
                  go_wp2_with fail
                  go_ret
                  exact ⟨rfl, HB8.out⟩
          · rw [show (false == true) = false from rfl, Bool.false_and] at hR'
            subst hR'
            go_wp2_with fail
            go_ret
            exact ⟨rfl, HB4.out⟩
end Go.Proofs.YtcaeihdfljljbaaDoor
