/-
  A coder that came in, opened.
-/
import Derived.Test.YtddjcgaejjldbaaAuArg
import Derived.Test.YtddjcgaejjldbaaCoM
import Derived.Deep.Strs
namespace Go.Proofs.Ytddjcgaejjldbaa
open Go.ChangeShapes Go.WideShapes Go.Deep Go.Joins Go.RowKit
open Wd
set_option linter.unusedVariables false
section
variable {H : Type} {enc : TypeId × Value → H} {w : World} {base b0 : Nat} {r : Reach} {held : Bool}
/-- a cell that is a slice of texts -/
theorem isSL_of {n : Nat} {v : Value} {x : DataW H × List MemPlace} (hC : Try.prog.cellsOf 9 = 1) (h : DataW.trod enc Try.prog w base (fun _ => true) held n 82 [v] = some x) :
    ∃ zs, IsSL w v zs ∧ zs.length ≤ maxLen ∧ ∀ s ∈ zs, s.size ≤ maxLen := by
  rcases open_strs Try.underlying82 Try.underlying9 hC h with ⟨hcs, _⟩ | ⟨a, len, cap, m, Sx, hcs, _, hl, hm, hmm, _, hcell⟩
  · injection hcs with hcs
    subst hcs
    exact ⟨[], ⟨none, 0, rfl, .inl rfl⟩, by simp [maxLen], by simp⟩
  · injection hcs with hcs
    subst hcs
    simp only [if_true] at hmm
    subst hmm
    refine ⟨(List.range len).map Sx, ⟨some a, m, by simp, .inr ⟨a, rfl, fun j hj => ?_⟩⟩, by simp; omega, fun s hs => ?_⟩
    · have hj' : j < len := by simpa using hj
      simp only [List.getElem_map, List.getElem_range]
      exact (hcell j (by omega)).1
    · obtain ⟨j, hj, rfl⟩ := List.mem_map.1 hs
      have hj' : j < len := List.mem_range.1 hj
      exact (hcell j (by omega)).2
set_option maxRecDepth 100000 in
theorem open_coder {v : Value} {d : DataW H} {p : List MemPlace} (hv : Value.okWide Try.prog w r b0 25 v) (h : DataW.Trod enc Try.prog w base (fun _ => true) held 25 v d p) :
    ∃ x : Co, IsCo w v x ∧ MaxC x := by
  obtain ⟨cs, rfl, hsz⟩ := okWide_struct Try.underlying25 hv
  have hC : Try.prog.cellsOf 25 = 4 := by kernel_rfl
  obtain ⟨l⟩ := cs
  match l, hsz.trans hC with
  | [c0, c1, c2, c3], _ =>
    obtain ⟨fuel, hf⟩ := h
    obtain ⟨xs, n, _, hx, _, hlen, hg⟩ := DataW.trod_struct Try.underlying25 hf
    have h0 := hg 0 _ rfl
    have h1 := hg 1 _ rfl
    have h2 := hg 2 _ rfl
    have h3 := hg 3 _ rfl
    have hCi : Try.prog.cellsOf 2 = 1 := by kernel_rfl
    have hCt : Try.prog.cellsOf 9 = 1 := by kernel_rfl
    have hCs : Try.prog.cellsOf 35 = 1 := by kernel_rfl
    have hCm : Try.prog.cellsOf 22 = 1 := by kernel_rfl
    have hCst : Try.prog.cellsOf 82 = 1 := by kernel_rfl
    have hCmt : Try.prog.cellsOf 23 = 1 := by kernel_rfl
    match xs, hlen with
    | [x0, x1, x2, x3], _ =>
      have h0 : DataW.trod enc Try.prog w base (fun _ => true) held n 2 [c0] = some x0 := by simpa [Value.cells, hCi] using h0
      have h1 : DataW.trod enc Try.prog w base (fun _ => true) held n 2 [c1] = some x1 := by simpa [Value.cells, hCi] using h1
      have h2 : DataW.trod enc Try.prog w base (fun _ => true) held n 22 [c2] = some x2 := by simpa [Value.cells, hCm] using h2
      have h3 : DataW.trod enc Try.prog w base (fun _ => true) held n 23 [c3] = some x3 := by simpa [Value.cells, hCmt] using h3
      obtain ⟨st, e0, _, _⟩ := DataW.trod_int Try.underlying2 h0
      obtain ⟨go, e1, _, _⟩ := DataW.trod_int Try.underlying2 h1
      injection e0 with e0
      injection e1 with e1
      subst e0 e1
      have hnx : ∃ xss, IsLL w c2 xss ∧ xss.length ≤ maxLen ∧ ∀ q ∈ xss, q.length ≤ maxLen := by
        rcases open_int_rows Try.underlying22 Try.underlying35 Try.underlying2 hCs hCi h2 with ⟨hcs, _⟩ | ⟨a, len, cap, A, L, C, Z, hcs, _, hl, hm, _, hrow⟩
        · injection hcs with hcs
          subst hcs
          exact ⟨[], ⟨none, 0, rfl, .inl rfl⟩, by simp [maxLen], by simp⟩
        · injection hcs with hcs
          subst hcs
          refine ⟨(List.range len).map fun q => (Z q).take (L q), ⟨some a, cap, by simp, .inr ⟨a, rfl, fun j hj => ?_⟩⟩, by simp; omega, ?_⟩
          · have hj' : j < len := by simpa using hj
            obtain ⟨g1, g2, g3, g4, g5, g6, g7⟩ := hrow j (by omega)
            refine ⟨_, g1, ?_⟩
            simp only [List.getElem_map, List.getElem_range]
            exact isL_of g2 g4 g6 (fun a' ha c hc => (g7 a' ha).2 c hc)
          · intro q hq
            obtain ⟨j, hj, rfl⟩ := List.mem_map.1 hq
            have hj' : j < len := List.mem_range.1 hj
            obtain ⟨g1, g2, g3, g4, _⟩ := hrow j (by omega)
            rw [List.length_take]
            omega
      have hou : ∃ xss, IsSLL w c3 xss ∧ xss.length ≤ maxLen ∧ (∀ q ∈ xss, q.length ≤ maxLen) ∧ ∀ q ∈ xss, ∀ s ∈ q, s.size ≤ maxLen := by
        rcases open_slice1 Try.underlying23 hCst h3 with ⟨hcs, _⟩ | ⟨a, len, cap, m, n', V, D, Pl, hcs, _, hl, hm, hmm, _, hrow⟩
        · injection hcs with hcs
          subst hcs
          exact ⟨[], ⟨none, 0, rfl, .inl rfl⟩, by simp [maxLen], by simp, by simp⟩
        · injection hcs with hcs
          subst hcs
          simp only [if_true] at hmm
          subst hmm
          have each : ∀ i, i < len → ∃ zs, w.cell? (a.add i) = some (V i) ∧ IsSL w (V i) zs ∧ zs.length ≤ maxLen ∧ ∀ s ∈ zs, s.size ≤ maxLen := fun i hi => by
            obtain ⟨zs, g⟩ := isSL_of hCt (hrow i (by omega)).2
            exact ⟨zs, (hrow i (by omega)).1, g⟩
          obtain ⟨Z, hZ⟩ := choose_lt each
          refine ⟨(List.range len).map Z, ⟨some a, m, by simp, .inr ⟨a, rfl, fun j hj => ?_⟩⟩, by simp; omega, ?_, ?_⟩
          · have hj' : j < len := by simpa using hj
            obtain ⟨g1, g2, _⟩ := hZ j hj'
            refine ⟨_, g1, ?_⟩
            simp only [List.getElem_map, List.getElem_range]
            exact g2
          · intro q hq
            obtain ⟨j, hj, rfl⟩ := List.mem_map.1 hq
            exact (hZ j (List.mem_range.1 hj)).2.2.1
          · intro q hq
            obtain ⟨j, hj, rfl⟩ := List.mem_map.1 hq
            exact (hZ j (List.mem_range.1 hj)).2.2.2
      obtain ⟨xss, hx1, hx2, hx3⟩ := hnx
      obtain ⟨yss, hy1, hy2, hy3, hy4⟩ := hou
      exact ⟨⟨st, go, xss, yss⟩, ⟨c2, c3, rfl, hx1, hy1⟩, ⟨hx2, hx3, hy2, hy3, hy4⟩⟩
end
end Go.Proofs.Ytddjcgaejjldbaa
