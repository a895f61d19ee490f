/-
  The automaton of a pattern as lists. Nothing of the program.
-/
import Derived.Test.YtaffachjopjbgaaAuOk2
namespace Go.Proofs.Ytaffachjopjbgaa
open Go.RowKit
open Wd
set_option linter.unusedVariables false
namespace Wd
/-- the letter with a number -/
def ltB (l : Nat) : UInt8 := UInt8.ofNat (97 + l)
/-- the greatest number up to m of first letters of a pattern with which a word ends -/
def fitL (p w : List UInt8) : Nat → Nat
  | 0 => 0
  | m + 1 => if (p.take (m + 1)).isSuffixOf w = true then m + 1 else fitL p w m
def fitN (p w : List UInt8) : Nat := fitL p w (min p.length w.length)
def patRow (p : List UInt8) (n : Nat) : List Int := (List.range 4).map fun l => ((fitN p (p.take n ++ [ltB l]) : Nat) : Int)
def patNx (p : List UInt8) : List (List Int) := (List.range (p.length + 1)).map (patRow p)
/-- the automaton of a pattern -/
def patA (p : List UInt8) : Au := ⟨(p.length : Int) + 1, 0, [(p.length : Int)], patNx p⟩
end Wd
theorem ltB_nat {l : Nat} (h : l < 4) : (ltB l).toNat = 97 + l := by unfold ltB; simp; omega
theorem fitL_le (p w : List UInt8) : ∀ m, fitL p w m ≤ m
  | 0 => Nat.le_refl _
  | m + 1 => by
    rw [fitL]
    split
    · exact Nat.le_refl _
    · exact Nat.le_succ_of_le (fitL_le p w m)
theorem fitN_le (p w : List UInt8) : fitN p w ≤ p.length := Nat.le_trans (fitL_le p w _) (Nat.min_le_left _ _)
theorem fitL_yes {p w : List UInt8} {m : Nat} (h : (p.take (m + 1)).isSuffixOf w = true) : fitL p w (m + 1) = m + 1 := by rw [fitL, if_pos h]
theorem fitL_no {p w : List UInt8} {m : Nat} (h : (p.take (m + 1)).isSuffixOf w = false) : fitL p w (m + 1) = fitL p w m := by rw [fitL, if_neg (by rw [h]; simp)]
theorem suffix_drop {p w : List UInt8} {m : Nat} (h1 : m ≤ p.length) (h2 : m ≤ w.length) : (p.take m).isSuffixOf w = decide (w.drop (w.length - m) = p.take m) := by
  have hl : (p.take m).length = m := by rw [List.length_take]; omega
  rw [Bool.eq_iff_iff, List.isSuffixOf_iff_suffix, decide_eq_true_iff, List.suffix_iff_eq_drop, hl]
  exact eq_comm
theorem suffix_nil (w : List UInt8) : ([] : List UInt8).isSuffixOf w = true := by rw [List.isSuffixOf_iff_suffix]; exact List.nil_suffix
theorem patRow_len (p : List UInt8) (n : Nat) : (patRow p n).length = 4 := by simp [patRow]
theorem patNx_len (p : List UInt8) : (patNx p).length = p.length + 1 := by simp [patNx]
theorem patNx_get {p : List UInt8} {n : Nat} (h : n < (patNx p).length) : (patNx p)[n] = patRow p n := by simp [patNx]
theorem patRow_get {p : List UInt8} {n l : Nat} (h : l < (patRow p n).length) : (patRow p n)[l] = ((fitN p (p.take n ++ [ltB l]) : Nat) : Int) := by simp [patRow]
theorem patRow_ok (p : List UInt8) (n : Nat) : rowOk ((p.length : Int) + 1) (patRow p n) = true := by
  unfold rowOk
  rw [patRow_len, Bool.and_eq_true]
  refine ⟨rfl, List.all_eq_true.2 fun x hx => ?_⟩
  unfold patRow at hx
  obtain ⟨l, _, rfl⟩ := List.mem_map.1 hx
  have := fitN_le p (p.take n ++ [ltB l])
  rw [decide_eq_true_iff]
  omega
theorem patNx_ok (p : List UInt8) : (patNx p).all (rowOk ((p.length : Int) + 1)) = true := by
  refine List.all_eq_true.2 fun r hr => ?_
  unfold patNx at hr
  obtain ⟨n, _, rfl⟩ := List.mem_map.1 hr
  exact patRow_ok p n
theorem patA_ok {p : List UInt8} (h : p.length ≤ 20) : aOk (patA p) = true := by
  unfold aOk patA
  simp only [Bool.and_eq_true, decide_eq_true_iff]
  refine ⟨⟨⟨⟨by omega, by omega⟩, by omega, by omega⟩, ?_⟩, patNx_ok p, by rw [patNx_len]; omega⟩
  unfold risesL
  rw [decide_eq_true_iff]
  intro k hk
  have hk0 : k = 0 := by simpa using hk
  subst hk0
  unfold goodAt
  refine ⟨⟨?_, ?_⟩, fun h => by omega⟩
  · show (0 : Int) ≤ (p.length : Int); omega
  · show (p.length : Int) ≤ (p.length : Int) + 1 - 1; omega
theorem patA_few {p : List UInt8} (h : p.length ≤ 2000) : FewA (patA p) := by
  refine ⟨?_, ?_, fun r hr => ?_⟩
  · show (1 : Nat) ≤ 1048576; omega
  · show (patNx p).length ≤ 1048576; rw [patNx_len]; omega
  · unfold patA patNx at hr
    obtain ⟨n, _, rfl⟩ := List.mem_map.1 hr
    rw [patRow_len]; omega
end Go.Proofs.Ytaffachjopjbgaa
