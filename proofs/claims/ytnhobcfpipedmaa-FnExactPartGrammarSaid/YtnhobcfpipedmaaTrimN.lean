/-
  Rows of truth values; the rules of TrimGrammar by the numbers of first ones.
-/
import Derived.Test.YtnhobcfpipedmaaTrimM
import Derived.Test.YtnhobcfpipedmaaOwnK
namespace Go.Proofs.Ytnhobcfpipedmaa
open Go.RowKit
open Wd
set_option linter.unusedVariables false
theorem Try.info_bool : (Try.prog.info? 4).map (fun i => (i.zero, i.size, i.bytes)) = some (some (.bool false), 1, 1) := by kernel_rfl
namespace Wd
def tv (l : List Bool) : List Value := l.map Value.bool
theorem tv_len (l : List Bool) : (tv l).length = l.length := by simp [tv]
theorem tv_at (l : List Bool) (k : Nat) (h : k < l.length) : (tv l)[k]? = some (.bool (l.getD k false)) := by
  simp [tv, h, List.getD_eq_getElem?_getD]
theorem tv_set (l : List Bool) (k : Nat) (b : Bool) : tv (l.set k b) = (tv l).set k (.bool b) := by simp [tv, List.map_set]
theorem nxT_pair {gs : List Rl} {k : Nat} (hok : fits gs = true) (hk : k < gs.length) (h0 : (nxT gs k).L.size = 0) :
    ∃ a b : Nat, a < k ∧ b < k ∧ nxT gs k = ⟨⟨#[]⟩, (a : Int), (b : Int)⟩ := by
  have hf := fits_at hok k hk
  have hn : nxT gs k = redR (fT gs k) gs[k] := by unfold nxT; rw [List.getD_eq_getElem?_getD, List.getElem?_eq_getElem hk, Option.getD_some]
  by_cases hz : gs[k].L.size = 0
  · have hb := (ok_pair hz).1 hf
    have h1 := fT_le gs k gs[k].l.toNat (by omega)
    have h2 := fT_le gs k gs[k].r.toNat (by omega)
    refine ⟨(fT gs k).getD gs[k].l.toNat 0, (fT gs k).getD gs[k].r.toNat 0, by omega, by omega, ?_⟩
    rw [hn]
    unfold redR
    rw [if_pos hz]
  · rw [hn] at h0
    unfold redR at h0
    rw [if_neg hz] at h0
    exact absurd h0 hz
theorem nxT_letter {gs : List Rl} {k : Nat} (hok : fits gs = true) (hk : k < gs.length) (h0 : (nxT gs k).L.size ≠ 0) : ∃ (c : UInt8) (l r : Int), nxT gs k = ⟨⟨#[c]⟩, l, r⟩ := by
  have hf := fits_at hok k hk
  have hn : nxT gs k = redR (fT gs k) gs[k] := by unfold nxT; rw [List.getD_eq_getElem?_getD, List.getElem?_eq_getElem hk, Option.getD_some]
  by_cases hz : gs[k].L.size = 0
  · rw [hn] at h0
    unfold redR at h0
    rw [if_pos hz] at h0
    exact absurd rfl h0
  · obtain ⟨c, hL, _⟩ := letter_byte hz hf
    refine ⟨c, gs[k].l, gs[k].r, ?_⟩
    rw [hn]
    unfold redR
    rw [if_neg hz, ← hL]
theorem kT_at {gs : List Rl} {n k : Nat} (hk : k < n) : (kT gs n).getD k zeroR = nxT gs k := by
  rw [List.getD_eq_getElem?_getD, kT_pre gs k n hk, Option.getD_some]
end Wd
theorem made_bool (n : Nat) : (madeCells #[.bool false] n).toList = tv (List.replicate n false) := by
  apply List.ext_getElem
  · simp [madeCells, tv]
  · intro i h1 h2
    simp [madeCells, tv, Nat.mod_one]
theorem b_store {w : World} {B e M n c : Nat} {l : List Bool} (h : w.ownsRow B e 1 (.slice (some ⟨M, 0, none⟩) n c) n (tv l)) (k : Nat) (b : Bool) : (w.setCell ⟨M, k, none⟩ (.bool b)).ownsRow B e 1 (.slice (some ⟨M, 0, none⟩) n c) n (tv (l.set k b)) := by
  rw [tv_set]
  exact (h.stored k (.bool b)).1
end Go.Proofs.Ytnhobcfpipedmaa
