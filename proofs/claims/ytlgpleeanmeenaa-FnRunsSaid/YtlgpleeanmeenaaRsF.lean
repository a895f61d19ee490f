/-
  The runs of a word give it back. Nothing of the program.
-/
import Derived.Test.YtlgpleeanmeenaaRsM
import Derived.Test.YtlgpleeanmeenaaRuN
import Derived.Test.YtlgpleeanmeenaaTimes
namespace Go.Proofs.Ytlgpleeanmeenaa
open Go.RowKit
set_option linter.unusedVariables false
namespace Wd
/-- letters beside each other differ -/
def AdjP (ls : List ByteArray) : Prop := ∀ j a b, ls[j]? = some a → ls[j + 1]? = some b → b ≠ a
theorem AdjP.snoc {ls : List ByteArray} {c : ByteArray} (h : AdjP ls) (hc : ∀ d, ls.getLast? = some d → c ≠ d) : AdjP (ls ++ [c]) := by
  intro j a b ha hb
  by_cases hj : j + 1 < ls.length
  · rw [List.getElem?_append_left hj] at hb
    rw [List.getElem?_append_left (by omega)] at ha
    exact h j a b ha hb
  · have hl : j + 1 < (ls ++ [c]).length := (List.getElem?_eq_some_iff.1 hb).1
    have hj2 : j + 1 = ls.length := by simp at hl; omega
    rw [List.getElem?_append_right (by omega), hj2, Nat.sub_self] at hb
    simp at hb
    subst hb
    rw [List.getElem?_append_left (by omega)] at ha
    refine hc a ?_
    rw [List.getLast?_eq_getElem?, show ls.length - 1 = j from by omega]
    exact ha
structure RGood (l : List UInt8) (k : Nat) (rs : List Ru) : Prop where
  one : ∀ x ∈ rs, ∃ c ∈ l, x.L = oneB c
  cnt : ∀ x ∈ rs, 1 ≤ x.l
  word : wordU rs = l.take k
  tot : totU rs = k
  adj : AdjP (rs.map (·.L))
  last : 0 < k → (rs.map (·.L)).getLast? = some (oneB (l.getD (k - 1) 0))
theorem oneB_inj {a b : UInt8} (h : oneB a = oneB b) : a = b := by
  unfold oneB at h
  injection h with h
  simpa using h
theorem rgood (l : List UInt8) : ∀ k, k ≤ l.length → RGood l k (rsK l k)
  | 0, _ => ⟨by simp [rsK], by simp [rsK], by simp [rsK, wordU], by simp [rsK, totU], by intro j a b ha hb; simp [rsK] at ha, fun h => by omega⟩
  | k + 1, hk => by
    have ih := rgood l k (by omega)
    have hkl : k < l.length := by omega
    have hgk : l.getD k 0 = l[k] := by rw [List.getD_eq_getElem?_getD, List.getElem?_eq_getElem hkl, Option.getD_some]
    have htk : l.take (k + 1) = l.take k ++ [l[k]] := List.take_succ_eq_append_getElem hkl
    have hcnt := rsK_cnt l (k + 1)
    unfold rsK
    split
    · next h =>
      obtain ⟨h0, heq⟩ := h
      have hp := rsK_pos l k h0
      have hlast := ih.last h0
      rcases List.eq_nil_or_concat (rsK l k) with hn | ⟨init, x, hx⟩
      · rw [hn] at hp; simp at hp
      · rw [List.concat_eq_append] at hx
        have i1 := ih.one
        have i2 := ih.cnt
        have i3 := ih.word
        have i4 := ih.tot
        have i5 := ih.adj
        rw [hx] at i1 i2 i3 i4 i5 hlast ⊢
        rw [incL_snoc]
        have hxl := i2 x (by simp)
        have hxL : x.L = oneB l[k] := by
          rw [List.map_append, List.map_cons, List.map_nil, List.getLast?_append] at hlast
          simp at hlast
          rw [hlast, ← hgk, heq, List.getD_eq_getElem?_getD]
        have hmap : (init ++ [(⟨x.L, x.l + 1⟩ : Ru)]).map (fun y : Ru => y.L) = (init ++ [x]).map (fun y : Ru => y.L) := by simp
        refine ⟨fun y hy => ?_, fun y hy => ?_, ?_, ?_, ?_, fun _ => ?_⟩
        · rcases List.mem_append.1 hy with hy | hy
          · exact i1 y (List.mem_append_left _ hy)
          · simp at hy
            subst hy
            exact ⟨l[k], List.getElem_mem hkl, hxL⟩
        · rcases List.mem_append.1 hy with hy | hy
          · exact i2 y (List.mem_append_left _ hy)
          · simp at hy
            subst hy
            simp only
            omega
        · rw [wordU_app, wordU_one] at i3 ⊢
          rw [htk, ← i3]
          simp only
          rw [show (x.l + 1).toNat = x.l.toNat + 1 from by omega, repeatL_snoc, List.append_assoc]
          congr 1
          congr 1
          rw [hxL]
          rfl
        · rw [totU_app, totU_one] at i4 ⊢
          simp only
          omega
        · rw [hmap]; exact i5
        · rw [hmap]
          rw [Nat.add_sub_cancel, hgk, List.map_append, List.map_cons, List.map_nil, List.getLast?_append]
          simp [hxL]
    · next h =>
      refine ⟨fun y hy => ?_, fun y hy => ?_, ?_, ?_, ?_, fun _ => ?_⟩
      · rcases List.mem_append.1 hy with hy | hy
        · exact ih.one y hy
        · simp at hy
          subst hy
          exact ⟨l[k], List.getElem_mem hkl, by simp only; rw [← hgk, List.getD_eq_getElem?_getD]⟩
      · rcases List.mem_append.1 hy with hy | hy
        · exact ih.cnt y hy
        · simp at hy
          subst hy
          simp
      · rw [wordU_app, wordU_one, htk, ih.word, hgk]
        simp [Lib.repeatL, oneB]
      · rw [totU_app, totU_one, ih.tot]
        simp
      · rw [List.map_append]
        refine ih.adj.snoc (fun d hd => ?_)
        intro e
        rcases Nat.eq_zero_or_pos k with h0 | h0
        · subst h0
          simp [rsK] at hd
        · rw [ih.last h0] at hd
          injection hd with hd
          rw [← hd] at e
          exact h ⟨h0, oneB_inj e⟩
      · rw [Nat.add_sub_cancel, List.map_append, List.getLast?_append]
        simp
theorem rs_all (l : List UInt8) : RGood l l.length (rsK l l.length) := rgood l l.length (Nat.le_refl _)
/-- the word of the runs of a word is the word -/
theorem runs_back {s : ByteArray} (h : okL s.data.toList = true) : ruA (rsK s.data.toList s.size) = (s.data.toList, 0) := by
  have hs : s.size = s.data.toList.length := by simp
  have hg := rs_all s.data.toList
  rw [hs]
  have hs2 : s.data.toList.length ≤ 2000 := by
    rcases Nat.lt_or_ge 2000 s.data.toList.length with h' | h'
    · rw [okL_long h'] at h; cases h
    · exact h'
  have h1 : ∀ j (hj : j < (rsK s.data.toList s.data.toList.length).length), runL (rsK s.data.toList s.data.toList.length)[j] = true := fun j hj => by
    obtain ⟨c, hc, hL⟩ := hg.one _ (List.getElem_mem hj)
    unfold runL
    rw [hL]
    have hlt : lt c = true := by
      simp only [okL, Bool.and_eq_true, List.all_eq_true] at h
      exact h.2 c hc
    simp [oneB, okL, hlt]
    rfl
  have h2 : ∀ j (hj : j < (rsK s.data.toList s.data.toList.length).length), runC (rsK s.data.toList s.data.toList.length)[j] = true := fun j hj => decide_eq_true (hg.cnt _ (List.getElem_mem hj))
  have h3 : ∀ j (hj : j < (rsK s.data.toList s.data.toList.length).length), 0 < j → ((rsK s.data.toList s.data.toList.length)[j].L.toList == (rsK s.data.toList s.data.toList.length)[j - 1].L.toList) = false := fun j hj h0 => by
    rw [beq_eq_false_iff_ne, ByteArray.toList_eq, ByteArray.toList_eq]
    intro e
    have := hg.adj (j - 1) (rsK s.data.toList s.data.toList.length)[j - 1].L (rsK s.data.toList s.data.toList.length)[j].L (by rw [List.getElem?_map, List.getElem?_eq_getElem (by omega)]; rfl) (by rw [show j - 1 + 1 = j from by omega, List.getElem?_map, List.getElem?_eq_getElem hj]; rfl)
    exact this (ByteArray.ext (Array.toList_inj.1 e))
  unfold ruA
  rw [if_pos (ruF_none h1 h2 h3), hg.tot, if_pos (by omega), hg.word, List.take_length]
end Wd
end Go.Proofs.Ytlgpleeanmeenaa
