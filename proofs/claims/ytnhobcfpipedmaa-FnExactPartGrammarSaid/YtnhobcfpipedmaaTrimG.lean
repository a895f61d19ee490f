/-
  What is needed and what is left, by the rules themselves.
-/
import Derived.Test.YtnhobcfpipedmaaTrimF
namespace Go.Proofs.Ytnhobcfpipedmaa
open Go.RowKit Go.Maps
open Wd
set_option linter.unusedVariables false
namespace Wd
theorem fT_getD {gs : List Rl} {j k n : Nat} (h : j < k) (h2 : j < n) : (fT gs k).getD j 0 = (fT gs n).getD j 0 := by
  rw [List.getD_eq_getElem?_getD, List.getD_eq_getElem?_getD, fT_pre gs j k h, fT_pre gs j n h2]
/-- the number of the first one that is equal -/
def F1 (gs : List Rl) (i : Int) : Nat := (fT gs gs.length).getD i.toNat 0
theorem F1_le (gs : List Rl) {i : Int} (h : i.toNat < gs.length) : F1 gs i ≤ i.toNat := fT_le gs _ _ h
theorem nx_at {gs : List Rl} {k : Nat} (hk : k < gs.length) : nxT gs k = redR (fT gs k) gs[k] := by
  unfold nxT; rw [List.getD_eq_getElem?_getD, List.getElem?_eq_getElem hk, Option.getD_some]
theorem nx_pair {gs : List Rl} (hok : fits gs = true) {k : Nat} (hk : k < gs.length) (hz : gs[k].L.size = 0) :
    nxT gs k = ⟨⟨#[]⟩, (F1 gs gs[k].l : Nat), (F1 gs gs[k].r : Nat)⟩ := by
  have hb := (ok_pair hz).1 (fits_at hok k hk)
  rw [nx_at hk]
  unfold redR F1
  rw [if_pos hz, fT_getD (n := gs.length) (show gs[k].l.toNat < k by omega) (by omega), fT_getD (n := gs.length) (show gs[k].r.toNat < k by omega) (by omega)]
theorem nx_letter {gs : List Rl} {k : Nat} (hk : k < gs.length) (hz : gs[k].L.size ≠ 0) : nxT gs k = gs[k] := by
  rw [nx_at hk]
  unfold redR
  rw [if_neg hz]
theorem nd_pair {gs : List Rl} (hok : fits gs = true) {k : Nat} (hk : k < gs.length) (hz : gs[k].L.size = 0) (nd : List Bool) :
    ndStep (kT gs gs.length) nd k = if nd.getD k false = true then (nd.set (F1 gs gs[k].l) true).set (F1 gs gs[k].r) true else nd := by
  unfold ndStep
  rw [kT_at hk, nx_pair hok hk hz]
  by_cases h : nd.getD k false = true
  · rw [if_pos ⟨h, rfl⟩, if_pos h]
    rfl
  · rw [if_neg (fun c => h c.1), if_neg h]
theorem nd_letter {gs : List Rl} {k : Nat} (hk : k < gs.length) (hz : gs[k].L.size ≠ 0) (nd : List Bool) : ndStep (kT gs gs.length) nd k = nd := by
  unfold ndStep
  rw [kT_at hk, nx_letter hk hz, if_neg (fun c => hz c.2)]
/-- what a rule becomes when it is left -/
def leftR (gs : List Rl) (P : List Nat) (x : Rl) : Rl := if x.L.size = 0 then ⟨⟨#[]⟩, (P.getD (F1 gs x.l) 0 : Nat), (P.getD (F1 gs x.r) 0 : Nat)⟩ else x
theorem out_yes {gs : List Rl} (hok : fits gs = true) {k : Nat} (hk : k < gs.length) (nd : List Bool) (h : nd.getD k false = true) :
    outT (kT gs gs.length) nd (k + 1) = ((outT (kT gs gs.length) nd k).1.set k (outT (kT gs gs.length) nd k).2.length, (outT (kT gs gs.length) nd k).2 ++ [leftR gs (outT (kT gs gs.length) nd k).1 gs[k]]) := by
  rw [outT, if_pos h, kT_at hk]
  congr 3
  by_cases hz : gs[k].L.size = 0
  · have hb := (ok_pair hz).1 (fits_at hok k hk)
    have h1 := F1_le gs (i := gs[k].l) (by omega)
    have h2 := F1_le gs (i := gs[k].r) (by omega)
    rw [nx_pair hok hk hz]
    unfold redR leftR
    rw [if_pos (show (⟨⟨#[]⟩, (F1 gs gs[k].l : Nat), (F1 gs gs[k].r : Nat)⟩ : Rl).L.size = 0 from rfl), if_pos hz]
    simp only [Int.toNat_natCast, List.getD_eq_getElem?_getD]
    rw [List.getElem?_set_ne (by omega), List.getElem?_set_ne (by omega)]
  · rw [nx_letter hk hz]
    unfold redR leftR
    rw [if_neg hz, if_neg hz]
theorem out_no {gs : List Rl} {k : Nat} (nd : List Bool) (h : nd.getD k false = false) : outT (kT gs gs.length) nd (k + 1) = outT (kT gs gs.length) nd k := by
  rw [outT, if_neg (by rw [h]; decide)]
end Wd
end Go.Proofs.Ytnhobcfpipedmaa
