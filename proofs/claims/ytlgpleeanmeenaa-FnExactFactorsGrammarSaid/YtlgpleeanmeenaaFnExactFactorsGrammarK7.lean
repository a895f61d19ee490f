/-
  PlainM, FgM, FgP, FgI, CutS, GramLen, CutT, in one text.
-/
import Derived.Test.YtlgpleeanmeenaaFnExactFactorsGrammarK3
import Derived.Test.YtlgpleeanmeenaaFnExactFactorsGrammarK5
import Derived.Test.YtlgpleeanmeenaaFnExactFactorsGrammarK6
import Derived.Test.YtlgpleeanmeenaaFacM
import Derived.Test.YtlgpleeanmeenaaFnExactFactorsGrammarK4
import Derived.Test.YtlgpleeanmeenaaFnExactFactorsGrammarK1
import Derived.Deep.RegionHeld3
import Derived.Deep.RegionLaw
import Derived.Deep.AppendLies
namespace Go.Proofs.Ytlgpleeanmeenaa
open Go.RowKit
set_option linter.unusedVariables false
namespace Wd
/-- the letter with a number -/
def ltC (k : Nat) : UInt8 := UInt8.ofNat (97 + k)
/-- the number of a letter -/
def noC (c : UInt8) : Nat := c.toNat - 97
theorem noC_lt {c : UInt8} (h : lt c = true) : noC c < 4 := by have := of_lt h; unfold noC; omega
theorem ltC_noC {c : UInt8} (h : lt c = true) : ltC (noC c) = c := by
  have := of_lt h
  unfold ltC noC
  apply UInt8.toNat_inj.1
  simp
  omega
theorem ltC_toNat {k : Nat} (h : k < 4) : (ltC k).toNat = 97 + k := by
  unfold ltC
  simp
  omega
def hasC (l : List UInt8) (k : Nat) : Bool := decide (ltC k ∈ l)
/-- the rule of a letter -/
def letR (k : Nat) : Rl := ⟨⟨#[ltC k]⟩, 0, 0⟩
/-- the rules of the letters up to a number -/
def letG (l : List UInt8) : Nat → List Rl
  | 0 => []
  | k + 1 => if hasC l k then letG l k ++ [letR k] else letG l k
theorem letG_len (l : List UInt8) : ∀ k, (letG l k).length ≤ k
  | 0 => Nat.le_refl _
  | k + 1 => by
    have := letG_len l k
    rw [letG]
    split
    · rw [List.length_append, List.length_singleton]; omega
    · omega
theorem letG_sum (l : List UInt8) : ∀ k, sumL (letG l k) ≤ k
  | 0 => Nat.le_refl _
  | k + 1 => by
    have := letG_sum l k
    rw [letG]
    split
    · rw [sumL_app, show sumL [letR k] = 1 from rfl]; omega
    · omega
/-- the number of a letter's rule -/
def idxC (l : List UInt8) (k : Nat) : Nat := (letG l k).length
/-- the pairs, so many of them -/
def prsG (l : List UInt8) (m : Nat) : Nat → List Rl
  | 0 => []
  | t + 1 => prsG l m t ++ [pairR (if t = 0 then idxC l (noC (l.getD 0 97)) else m + t - 1) (idxC l (noC (l.getD (t + 1) 97)))]
theorem prsG_len (l : List UInt8) (m : Nat) : ∀ t, (prsG l m t).length = t
  | 0 => rfl
  | t + 1 => by rw [prsG, List.length_append, prsG_len l m t, List.length_singleton]
theorem prsG_sum (l : List UInt8) (m : Nat) : ∀ t, sumL (prsG l m t) = 0
  | 0 => rfl
  | t + 1 => by rw [prsG, sumL_app, prsG_sum l m t]; rfl
def plainG (l : List UInt8) : List Rl := letG l 4 ++ prsG l (letG l 4).length (l.length - 1)
theorem plainG_few {l : List UInt8} (h : l.length ≤ 2000) : FewR (plainG l) := by
  have h1 := letG_len l 4
  have h2 := letG_sum l 4
  unfold FewR plainG
  rw [List.length_append, prsG_len, sumL_app, prsG_sum]
  omega
theorem plainG_long {l : List UInt8} (h0 : okL l = true) (h : 400 < l.length) : gOk (plainG l) = false := by
  apply gOk_long
  have h1 : 0 < (letG l 4).length := by
    have hc := okL_at h0 (i := 0) (by omega)
    have hm : ltC (noC l[0]) ∈ l := by rw [ltC_noC hc]; exact List.getElem_mem _
    have hk := noC_lt hc
    have : ∀ k, noC l[0] < k → 0 < (letG l k).length := by
      intro k
      induction k with
      | zero => intro h; omega
      | succ k ih =>
        intro h
        rw [letG]
        by_cases e : noC l[0] = k
        · rw [if_pos (by unfold hasC; rw [← e]; exact decide_eq_true hm), List.length_append, List.length_singleton]; omega
        · have := ih (by omega)
          split
          · rw [List.length_append]; omega
          · exact this
    exact this 4 hk
  unfold plainG
  rw [List.length_append, prsG_len]
  omega
/-- the answer -/
def gramPlainGrammar (s : ByteArray) : List Rl × Int := if okL s.data.toList then (limG (plainG s.data.toList), limC (plainG s.data.toList)) else ([], 1)
theorem gramPlainGrammar_len (s : ByteArray) : (gramPlainGrammar s).1.length ≤ 1048576 := by
  unfold gramPlainGrammar
  split
  · rename_i h
    show (limG _).length ≤ _
    unfold limG
    split
    · exact (plainG_few (okL_len h)).len
    · simp
  · simp
end Wd
end Go.Proofs.Ytlgpleeanmeenaa
namespace Go.Proofs.Ytlgpleeanmeenaa
open Go.RowKit
set_option linter.unusedVariables false
namespace Wd
/-- the grammar of a factor, behind those before it -/
def fgPc (fs : List Rl) (k : Nat) (g : List Rl) : List Rl × Int :=
  match fs[k]? with
  | some x => if x.L.size = 0 then gramPartGrammar g x.l (x.l + x.r) else gramPlainGrammar x.L
  | none => ([], 0)
/-- the grammar so far has the word of the factors before -/
def fgInv (fs : List Rl) (k : Nat) (g : List Rl) : Prop := facF (fs.drop k) (wordLen g) = some (facN fs)
/-- the answer of FactorsGrammar -/
def gramFactorsGrammar (fs : List Rl) : List Rl × Int := if facOk fs = true then jpF (fgPc fs) fs.length 0 [] else ([], 1)
theorem fg_start {fs : List Rl} (h : facOk fs = true) : fgInv fs 0 [] := by
  unfold fgInv
  rw [wordLen_zero rfl]
  unfold facOk at h
  unfold facN
  rw [Option.isSome_iff_exists] at h
  obtain ⟨m, hm⟩ := h
  rw [hm]
  unfold facR at hm
  split at hm
  · exact hm
  · cases hm
theorem lim_yes {z : List Rl} (h : limC z = 0) : gOk z = true ∧ limG z = z := by
  unfold limC limG at *
  split at h
  · next h0 => exact ⟨h0, by rw [if_pos h0]⟩
  · cases h
/-- one factor's step: it fits, and what its grammar is -/
theorem fg_step {fs : List Rl} {k : Nat} {g : List Rl} (hk : k < fs.length) (hin : fgInv fs k g) : facFits fs[k] (wordLen g) = true ∧ wordLen g + facLn fs[k] ≤ 1000000000000000 ∧ facF (fs.drop (k + 1)) (wordLen g + facLn fs[k]) = some (facN fs) := by
  unfold fgInv at hin
  rw [facF_drop _ hk] at hin
  split at hin
  · next h1 =>
    split at hin
    · next h2 => exact ⟨h1, h2, hin⟩
    · cases hin
  · cases hin
theorem fg_pair {fs : List Rl} {k : Nat} {g : List Rl} (hk : k < fs.length) (hin : fgInv fs k g) (h0 : fs[k].L.size = 0) : 0 ≤ fs[k].l ∧ 1 ≤ fs[k].r ∧ fs[k].l + fs[k].r ≤ wordLen g := by
  have h := (fg_step hk hin).1
  unfold facFits at h
  rw [if_pos h0] at h
  simp only [Bool.and_eq_true, decide_eq_true_iff] at h
  omega
theorem fg_let {fs : List Rl} {k : Nat} {g : List Rl} (hk : k < fs.length) (hin : fgInv fs k g) (h0 : fs[k].L.size ≠ 0) : fs[k].L.size = 1 ∧ okL fs[k].L.data.toList = true := by
  have h := (fg_step hk hin).1
  unfold facFits at h
  rw [if_neg h0] at h
  simp only [Bool.and_eq_true, decide_eq_true_iff, isL] at h
  exact h.1
/-- the grammar of a letter is that letter -/
theorem plain_one {L : ByteArray} (h1 : L.size = 1) (h2 : okL L.data.toList = true) : plainG L.data.toList = [⟨L, 0, 0⟩] := by
  obtain ⟨⟨l⟩⟩ := L
  match l, h1 with
  | [c], _ =>
    have hc : lt c = true := by
      simp only [okL, Bool.and_eq_true] at h2
      simpa using h2.2
    have hd := of_lt hc
    obtain ⟨d, hd1, hd2⟩ : ∃ d : Nat, d < 4 ∧ c = UInt8.ofNat (97 + d) := ⟨c.toNat - 97, by omega, by
      rw [show 97 + (c.toNat - 97) = c.toNat from by omega]; simp⟩
    subst hd2
    match d, hd1 with
    | 0, _ => rfl
    | 1, _ => rfl
    | 2, _ => rfl
    | 3, _ => rfl
theorem fg_gOk {fs : List Rl} {k : Nat} {g : List Rl} (hk : k < fs.length) (hok : gOk g = true) (hin : fgInv fs k g) (hc : (fgPc fs k g).2 = 0) : gOk (fgPc fs k g).1 = true ∧ wordLen (fgPc fs k g).1 = facLn fs[k] := by
  unfold fgPc at *
  rw [List.getElem?_eq_getElem hk] at *
  simp only at *
  by_cases h0 : fs[k].L.size = 0
  · obtain ⟨p1, p2, p3⟩ := fg_pair hk hin h0
    rw [if_pos h0] at *
    have hp : inPart fs[k].l (fs[k].l + fs[k].r) (wordLen g) = true := inPart_iff.2 ⟨p1, by omega, p3⟩
    unfold gramPartGrammar at *
    rw [if_pos hok, if_pos hp] at *
    simp only at *
    obtain ⟨a, b⟩ := lim_yes hc
    have hg : 0 < g.length := by
      rcases Nat.eq_zero_or_pos g.length with h | h
      · rw [wordLen_zero h] at p3; omega
      · exact h
    rw [b]
    refine ⟨a, ?_⟩
    rw [(trim_word (cut_fits hok hg _ _)).2.2, cut_wordLen hok p1 (by omega) p3]
    unfold facLn
    rw [if_pos h0]
    omega
  · obtain ⟨l1, l2⟩ := fg_let hk hin h0
    rw [if_neg h0] at *
    unfold gramPlainGrammar at *
    rw [if_pos l2] at *
    simp only at *
    obtain ⟨a, b⟩ := lim_yes hc
    rw [b]
    refine ⟨a, ?_⟩
    rw [plain_one l1 l2]
    unfold facLn
    rw [if_neg h0]
    have : (lens [(⟨fs[k].L, 0, 0⟩ : Rl)]).getD 0 0 = 1 := vals_letter (fun a b => a + b) [(⟨fs[k].L, 0, 0⟩ : Rl)] 0 (by simp) h0
    exact this
theorem join_word {g h : List Rl} (hg : gOk g = true) (hh : gOk h = true) : wordLen (joinG g h) = wordLen g + wordLen h := by
  unfold joinG
  split
  · next h0 => rw [wordLen_zero h0]; omega
  · split
    · next h1 => rw [wordLen_zero h1]; omega
    · next h0 h1 => exact jn_wordLen (gOk_iff.1 hg).2.1 (gOk_iff.1 hh).2.1 (by omega) (by omega)
theorem fg_next {fs : List Rl} {k : Nat} {g : List Rl} (hk : k < fs.length) (hok : gOk g = true) (hin : fgInv fs k g) (hc : (fgPc fs k g).2 = 0) (hj : gOk (joinG g (fgPc fs k g).1) = true) : fgInv fs (k + 1) (trimG (joinG g (fgPc fs k g).1)) := by
  obtain ⟨a, b⟩ := fg_gOk hk hok hin hc
  unfold fgInv
  rw [(trim_ok hj).2, join_word hok a, b]
  exact (fg_step hk hin).2.2
/-- a join is valid where it has few rules -/
theorem fg_join {fs : List Rl} {k : Nat} {g : List Rl} (hk : k < fs.length) (hok : gOk g = true) (hin : fgInv fs k g) (hc : (fgPc fs k g).2 = 0) : gOk (joinG g (fgPc fs k g).1) = decide ((joinG g (fgPc fs k g).1).length ≤ 400) := by
  obtain ⟨a, b⟩ := fg_gOk hk hok hin hc
  have hs := (fg_step hk hin).2.1
  generalize (fgPc fs k g).1 = nx at *
  by_cases hl : (joinG g nx).length ≤ 400
  · rw [decide_eq_true hl]
    unfold joinG at hl ⊢
    split
    · exact a
    · split
      · exact hok
      · next h0 h1 =>
        refine jn_ok hok a (by omega) (by omega) (by omega) ?_
        rw [if_neg h0, if_neg h1] at hl
        simp at hl
        omega
  · rw [decide_eq_false hl]
    exact gOk_long (by omega)
end Wd
end Go.Proofs.Ytlgpleeanmeenaa
namespace Go.Proofs.Ytlgpleeanmeenaa
open Go.RowKit
open Wd
set_option linter.unusedVariables false
set_option maxRecDepth 100000 in
set_option maxHeartbeats 6400000 in
theorem fgPiece_any (p gf c n k : Nat) (x : Rl) (g : List Rl) (v : Value) (ans : List Rl × Int) (W : World) (hvp : W.cell? ⟨p, 0, none⟩ = some (.slice (some ⟨gf, 0, none⟩) n c)) (hk : k < n)
    (a0 : W.cell? ⟨gf, k * 3, none⟩ = some (.string x.L)) (a1 : W.cell? ⟨gf, k * 3 + 1, none⟩ = some (.int .i64 x.l)) (a2 : W.cell? ⟨gf, k * 3 + 2, none⟩ = some (.int .i64 x.r))
    (hb : x.L.size = 0 → 0 ≤ x.l ∧ 0 ≤ x.r ∧ x.l + x.r ≤ 1000000000000000) (hr : RulesC W v g)
    (hpl : x.L.size ≠ 0 → ∀ W', Below W.heap.size W W' → Calls Try.prog 24 #[.string x.L] W' fun e w' => ∃ y, e = .returned (.tuple #[.agg #[y], .int .i64 ans.2]) ∧ OwnsR w' W'.heap.size y ans.1 ∧ Below W'.heap.size W' w')
    (hpa : x.L.size = 0 → ∀ W', Below W.heap.size W W' → Calls Try.prog 72 #[.agg #[v], .int .i64 x.l, .int .i64 (x.l + x.r)] W' fun e w' => ∃ y, e = .returned (.tuple #[.agg #[y], .int .i64 ans.2]) ∧ OwnsR w' W'.heap.size y ans.1 ∧ Below W'.heap.size W' w') :
    Calls Try.prog 71 #[.int .i64 k, .agg #[v], .pointer (some ⟨p, 0, none⟩)] W fun e w' => ∃ y, e = .returned (.tuple #[.agg #[y], .int .i64 ans.2]) ∧ OwnsR w' W.heap.size y ans.1 ∧ Below W.heap.size W w' := by
  obtain ⟨A, cg, rfl, _⟩ := hr.1
  have hb2 : Below W.heap.size W ((W.alloc (.cells #[.slice A g.length cg] 26)).alloc (.cells #[.slice none 0 0] 26)) := ((Below.refl _ W).alloc (Nat.le_refl _) _).alloc (by simp) _
  have hv0 : Var ((W.alloc (.cells #[.slice A g.length cg] 26)).alloc (.cells #[.slice none 0 0] 26)) W.heap.size (.slice A g.length cg) 26 := (Var.new W (.slice A g.length cg) 26).kept ((Below.refl _ _).alloc (Nat.le_refl _) _)
  have hv : Var ((W.alloc (.cells #[.slice A g.length cg] 26)).alloc (.cells #[.slice none 0 0] 26)) (W.heap.size + 1) (.slice none 0 0) 26 := by
    have := Var.new (W.alloc (.cells #[.slice A g.length cg] 26)) (.slice none 0 0) 26
    rwa [show (W.alloc (.cells #[.slice A g.length cg] 26)).heap.size = W.heap.size + 1 from by simp] at this
  have p2 := (hb2.cell (p := ⟨p, 0, none⟩) (lt_of_cell hvp)).trans hvp
  have c0 := (hb2.cell (p := ⟨gf, k * 3, none⟩) (lt_of_cell a0)).trans a0
  have c1 := (hb2.cell (p := ⟨gf, k * 3 + 1, none⟩) (lt_of_cell a1)).trans a1
  have c2 := (hb2.cell (p := ⟨gf, k * 3 + 2, none⟩) (lt_of_cell a2)).trans a2
  have hb3 := (Below.refl _ ((W.alloc (.cells #[.slice A g.length cg] 26)).alloc (.cells #[.slice none 0 0] 26))).alloc (Nat.le_refl _) (.cells #[.string x.L, .int .i64 x.l, .int .i64 x.r] 92)
  have hB3 := hb2.trans (hb3.mono hb2.size)
  have hv3 := hv.kept hb3
  have hv03 := (hv0.kept hb3).cell.1
  have hX := heap_alloc_new ((W.alloc (.cells #[.slice A g.length cg] 26)).alloc (.cells #[.slice none 0 0] 26)) (.cells #[.string x.L, .int .i64 x.l, .int .i64 x.r] 92)
  have q0 : (((W.alloc (.cells #[.slice A g.length cg] 26)).alloc (.cells #[.slice none 0 0] 26)).alloc (.cells #[.string x.L, .int .i64 x.l, .int .i64 x.r] 92)).cell? ⟨((W.alloc (.cells #[.slice A g.length cg] 26)).alloc (.cells #[.slice none 0 0] 26)).heap.size, 0, none⟩ = some (.string x.L) := by rw [cell_of_row _ _ _ _ _ _ hX]; rfl
  have q1 : (((W.alloc (.cells #[.slice A g.length cg] 26)).alloc (.cells #[.slice none 0 0] 26)).alloc (.cells #[.string x.L, .int .i64 x.l, .int .i64 x.r] 92)).cell? ⟨((W.alloc (.cells #[.slice A g.length cg] 26)).alloc (.cells #[.slice none 0 0] 26)).heap.size, 1, none⟩ = some (.int .i64 x.l) := by rw [cell_of_row _ _ _ _ _ _ hX]; rfl
  have q2 : (((W.alloc (.cells #[.slice A g.length cg] 26)).alloc (.cells #[.slice none 0 0] 26)).alloc (.cells #[.string x.L, .int .i64 x.l, .int .i64 x.r] 92)).cell? ⟨((W.alloc (.cells #[.slice A g.length cg] 26)).alloc (.cells #[.slice none 0 0] 26)).heap.size, 2, none⟩ = some (.int .i64 x.r) := by rw [cell_of_row _ _ _ _ _ _ hX]; rfl
  have HB3 := Lib.hid hB3
  have HV3 := Lib.hid hv3
  have k0 : (0 : Int) ≤ (k : Int) := by omega
  have k1 : (k : Int) < (n : Int) := by omega
  have hsz : W.heap.size + 1 < (((W.alloc (.cells #[.slice A g.length cg] 26)).alloc (.cells #[.slice none 0 0] 26)).alloc (.cells #[.string x.L, .int .i64 x.l, .int .i64 x.r] 92)).heap.size := hv3.lt
  by_cases h0 : x.L.size = 0
  · have hL : x.L = ⟨#[]⟩ := empty_arr h0
    have HPA := Lib.hid (hpa h0 _ hB3)
    obtain ⟨b1, b2, b3⟩ := hb h0
    have hw : IntKind.i64.wrap (x.l + x.r) = x.l + x.r := by rw [IntWalk.i64_in _ (by omega)]
    rw [hL] at c0 q0 q1 q2 hv03 HPA HV3 HB3 hsz
    clear hpl hpa hb2 hv0 hv hb3 hB3 hv3 hX a0 a1 a2 hvp hb hr
    go_enter Try.func71, Try.ntmps71
    go_wp2_with fail
    refine HPA.out.mono ?_
    rintro e w1 ⟨y, rfl, ho, hB1⟩
    obtain ⟨Ay, cy, rfl⟩ := own_slice ho
    obtain ⟨x0, x1⟩ := (HV3.out.kept hB1).cell
    have HB1 := Lib.hid (HB3.out.trans (hB1.mono HB3.out.size))
    have HNE : Hid ((Value.slice Ay ans.1.length cy).ownBlock ≠ some (W.heap.size + 1)) := Lib.hid (fun e => by have := (ho.lt _ e).1; omega)
    have HO := Lib.hid (own_lower ho (show W.heap.size ≤ _ by omega))
    clear hB1 ho
    go_wp2_with fail
    refine bodyPost_ret (v := .tuple #[.agg #[.slice Ay ans.1.length cy], .int .i64 ans.2]) (by simp [results, Try.results71, go_sem, x0]) rfl ⟨_, rfl, ?_, HB1.out.setCell (by simp) _⟩
    exact World.ownsRow.kept HO.out (only_setCell (World.grownBy.refl w1 (some (W.heap.size + 1))) (p := ⟨W.heap.size + 1, 0, none⟩) (.inl rfl) _) (.inr HNE.out)
  · have he := full_list (L := x.L) h0
    have HPL := Lib.hid (hpl h0 _ hB3)
    clear hpl hpa hb2 hv0 hv hb3 hB3 hv3 hX a0 a1 a2 hvp hb hr
    go_enter Try.func71, Try.ntmps71
    go_wp2_with fail
    refine HPL.out.mono ?_
    rintro e w1 ⟨y, rfl, ho, hB1⟩
    obtain ⟨Ay, cy, rfl⟩ := own_slice ho
    obtain ⟨x0, x1⟩ := (HV3.out.kept hB1).cell
    have HB1 := Lib.hid (HB3.out.trans (hB1.mono HB3.out.size))
    have HNE : Hid ((Value.slice Ay ans.1.length cy).ownBlock ≠ some (W.heap.size + 1)) := Lib.hid (fun e => by have := (ho.lt _ e).1; omega)
    have HO := Lib.hid (own_lower ho (show W.heap.size ≤ _ by omega))
    clear hB1 ho
    go_wp2_with fail
    refine bodyPost_ret (v := .tuple #[.agg #[.slice Ay ans.1.length cy], .int .i64 ans.2]) (by simp [results, Try.results71, go_sem, x0]) rfl ⟨_, rfl, ?_, HB1.out.setCell (by simp) _⟩
    exact World.ownsRow.kept HO.out (only_setCell (World.grownBy.refl w1 (some (W.heap.size + 1))) (p := ⟨W.heap.size + 1, 0, none⟩) (.inl rfl) _) (.inr HNE.out)
end Go.Proofs.Ytlgpleeanmeenaa
namespace Go.Proofs.Ytlgpleeanmeenaa
open Go.RowKit
open Wd
set_option linter.unusedVariables false
set_option maxRecDepth 100000 in
set_option maxHeartbeats 6400000 in
theorem implFactorsGrammar_by (v : Value) (fs : List Rl) (w : World) (hf : FewR fs) (hr : Rules w v fs)
    (hvf : ∀ W, Rules W v fs → Calls Try.prog 26 #[v] W fun e w' => e = .returned (.bool (facOk fs)) ∧ Below W.heap.size W w')
    (hpl : ∀ (s : ByteArray) W, s.size ≤ maxLen → Calls Try.prog 24 #[.string s] W fun e w' => ∃ y, e = .returned (.tuple #[.agg #[y], .int .i64 (gramPlainGrammar s).2]) ∧ OwnsR w' W.heap.size y (gramPlainGrammar s).1 ∧ Below W.heap.size W w') :
    Calls Try.prog 17 #[v] w fun e w' => ∃ y, e = .returned (.tuple #[.agg #[y], .int .i64 (gramFactorsGrammar fs).2]) ∧ OwnsR w' w.heap.size y (gramFactorsGrammar fs).1 ∧ Below w.heap.size w w' := by
  have hn := hf.len
  have HVF := Lib.hid hvf
  have HRU := Lib.hid hr
  obtain ⟨A, c, rfl, hrr⟩ := hr
  have hb2 : Below w.heap.size w ((w.alloc (.cells #[.slice A fs.length c] 29)).alloc (.cells #[.slice none 0 0] 26)) := ((Below.refl _ w).alloc (Nat.le_refl _) _).alloc (by simp) _
  have hv0 : Var ((w.alloc (.cells #[.slice A fs.length c] 29)).alloc (.cells #[.slice none 0 0] 26)) w.heap.size (.slice A fs.length c) 29 := (Var.new w (.slice A fs.length c) 29).kept ((Below.refl _ _).alloc (Nat.le_refl _) _)
  have hv : Var ((w.alloc (.cells #[.slice A fs.length c] 29)).alloc (.cells #[.slice none 0 0] 26)) (w.heap.size + 1) (.slice none 0 0) 26 := by
    have := Var.new (w.alloc (.cells #[.slice A fs.length c] 29)) (.slice none 0 0) 26
    rwa [show (w.alloc (.cells #[.slice A fs.length c] 29)).heap.size = w.heap.size + 1 from by simp] at this
  have HB := Lib.hid hb2
  have HV := Lib.hid hv
  have HV0 := Lib.hid hv0
  have v0 := hv0.cell.1
  have HV1 := Lib.hid (HVF.out _ (HRU.out.kept hb2))
  unfold gramFactorsGrammar
  cases hok : facOk fs
  · rw [hok] at HV1
    rw [if_neg (by decide)]
    clear hb2 hv0 hv hok hvf hpl
    go_enter Try.func17, Try.ntmps17
    go_wp2_with fail
    refine HV1.out.mono ?_
    rintro e w1 ⟨rfl, hB1⟩
    obtain ⟨x0, x1⟩ := (HV.out.kept hB1).cell
    have HB1 := Lib.hid (HB.out.trans (hB1.mono HB.out.size))
    clear hB1
    go_wp2_with fail
    refine bodyPost_ret (v := .tuple #[.agg #[.slice none 0 0], .int .i64 1]) (by simp [results, Try.results17, go_sem, x0]) rfl ⟨_, rfl, World.ownsRow_nil _ _ _ _, HB1.out.setCell (by simp) _⟩
  · rw [hok] at HV1
    rw [if_pos rfl]
    have hlen : fs.length ≤ 120 := by
      rcases Nat.lt_or_ge 120 fs.length with h | h
      · exfalso
        have := (fac_no (facR_long h)).1
        rw [hok] at this
        cases this
      · exact h
    have HJP : Hid (∀ W, Below w.heap.size w W → W.cell? ⟨w.heap.size, 0, none⟩ = some (.slice A fs.length c) → Calls Try.prog 70 #[.int .i64 fs.length, .func (.func 71) #[] #[.pointer (some ⟨w.heap.size, 0, none⟩)]] W fun e w' => ∃ y, e = .returned (.tuple #[.agg #[y], .int .i64 (jpF (fgPc fs) fs.length 0 []).2]) ∧ OwnsR w' W.heap.size y (jpF (fgPc fs) fs.length 0 []).1 ∧ Below W.heap.size W w') := Lib.hid (fun W hB hc => by
      refine joinedPieces_any (fgPc fs) (fgInv fs) (.pointer (some ⟨w.heap.size, 0, none⟩)) fs.length W (by omega) ?_ (fun k g hk ho hi h => (fg_gOk hk ho hi h).1) (fun k g hk ho hi h hj => fg_next hk ho hi h hj) (fg_start hok)
      intro k g v' W' hk ho hi hrc hB'
      have hBB := hB.trans (hB'.mono hB.size)
      have hc' := (hB'.cell (p := ⟨w.heap.size, 0, none⟩) (lt_of_cell hc)).trans hc
      rcases hrr with h | ⟨gf, rfl, hgl, hcc⟩
      · rw [h] at hk; simp at hk
      obtain ⟨a0, a1, a2⟩ := rules_cells hcc hk
      have e : fgPc fs k g = if fs[k].L.size = 0 then gramPartGrammar g fs[k].l (fs[k].l + fs[k].r) else gramPlainGrammar fs[k].L := by
        unfold fgPc
        rw [List.getElem?_eq_getElem hk]
      have hfw := few_ok ho
      have hwl := wordLen_bd' ho
      refine fgPiece_any w.heap.size gf c fs.length k fs[k] g v' (fgPc fs k g) W' hc' hk ((hBB.cell (p := ⟨gf, k * 3, none⟩) hgl).trans a0) ((hBB.cell (p := ⟨gf, k * 3 + 1, none⟩) hgl).trans a1) ((hBB.cell (p := ⟨gf, k * 3 + 2, none⟩) hgl).trans a2) (fun h0 => ?_) hrc (fun h0 W2 hb => ?_) (fun h0 W2 hb => ?_)
      · have := fg_pair hk hi h0; omega
      · rw [e, if_neg h0]
        have := fg_let hk hi h0
        exact hpl _ _ (by unfold maxLen; omega)
      · rw [e, if_pos h0]
        have := fg_pair hk hi h0
        exact implPartGrammar v' g fs[k].l (fs[k].l + fs[k].r) W2 hfw (hrc.kept hb) (by omega) (by omega))
    generalize jpF (fgPc fs) fs.length 0 [] = an at *
    clear hb2 hv0 hv hok hvf hpl hrr
    go_enter Try.func17, Try.ntmps17
    go_wp2_with fail
    refine HV1.out.mono ?_
    rintro e w1 ⟨rfl, hB1⟩
    have HVa := Lib.hid (HV.out.kept hB1)
    have z0 := (HV0.out.kept hB1).cell.1
    have HB1 := Lib.hid (HB.out.trans (hB1.mono HB.out.size))
    have hs1 : w.heap.size + 1 < w1.heap.size := HVa.out.lt
    clear hB1
    go_wp2_with fail
    refine (HJP.out _ HB1.out z0).mono ?_
    rintro e w2 ⟨y, rfl, ho, hB2⟩
    obtain ⟨Ay, cy, rfl⟩ := own_slice ho
    obtain ⟨x0, x1⟩ := (HVa.out.kept hB2).cell
    have HB2 := Lib.hid (HB1.out.trans (hB2.mono HB1.out.size))
    have HNE : Hid ((Value.slice Ay an.1.length cy).ownBlock ≠ some (w.heap.size + 1)) := Lib.hid (fun e => by have := (ho.lt _ e).1; omega)
    have HO := Lib.hid (own_lower ho (show w.heap.size ≤ w1.heap.size by omega))
    clear hB2 ho
    go_wp2_with fail
    refine bodyPost_ret (v := .tuple #[.agg #[.slice Ay an.1.length cy], .int .i64 an.2]) (by simp [results, Try.results17, go_sem, x0]) rfl ⟨_, rfl, ?_, HB2.out.setCell (by simp) _⟩
    exact World.ownsRow.kept HO.out (only_setCell (World.grownBy.refl w2 (some (w.heap.size + 1))) (p := ⟨w.heap.size + 1, 0, none⟩) (.inl rfl) _) (.inr HNE.out)
end Go.Proofs.Ytlgpleeanmeenaa
namespace Go.Proofs.Ytlgpleeanmeenaa
open Go.RowKit
open Wd
set_option linter.unusedVariables false
theorem mn_any (a b : Int) (w : World) : Calls Try.prog 200 #[.int .i64 a, .int .i64 b] w fun e w' => e = .returned (.int .i64 (min a b)) ∧ w' = w := by
  by_cases h : a < b
  · have HM := Lib.hid (show min a b = a by omega)
    go_enter Try.func200, Try.ntmps200
    go_wp2
    go_ret
    exact ⟨ret_int HM.out.symm, rfl⟩
  · have HM := Lib.hid (show min a b = b by omega)
    go_enter Try.func200, Try.ntmps200
    go_wp2
    go_ret
    exact ⟨ret_int HM.out.symm, rfl⟩
theorem mx_any (a b : Int) (w : World) : Calls Try.prog 177 #[.int .i64 a, .int .i64 b] w fun e w' => e = .returned (.int .i64 (max a b)) ∧ w' = w := by
  by_cases h : b < a
  · have HM := Lib.hid (show max a b = a by omega)
    go_enter Try.func177, Try.ntmps177
    go_wp2
    go_ret
    exact ⟨ret_int HM.out.symm, rfl⟩
  · have HM := Lib.hid (show max a b = b by omega)
    go_enter Try.func177, Try.ntmps177
    go_wp2
    go_ret
    exact ⟨ret_int HM.out.symm, rfl⟩
/-- where the rules and the lengths lie, below a number -/
def CvSt (B p L : Nat) (A : Option Addr) (c : Nat) (gs : List Rl) (w : World) : Prop :=
  (p < B ∧ w.cell? ⟨p, 0, none⟩ = some (.slice A gs.length c)) ∧ (gs = [] ∨ ∃ g, A = some ⟨g, 0, none⟩ ∧ g < B ∧ ∀ j u, (rv gs)[j]? = some u → w.cell? ⟨g, j, none⟩ = some u) ∧ (L < B ∧ ∀ k, k < gs.length → w.cell? ⟨L, k, none⟩ = some (.int .i64 ((lens gs).getD k 0)))
theorem CvSt.below {B p L : Nat} {A : Option Addr} {c : Nat} {gs : List Rl} {w w' : World} (h : CvSt B p L A c gs w) (hb : Below B w w') : CvSt B p L A c gs w' := by
  have hc : ∀ b o v, b < B → w.cell? ⟨b, o, none⟩ = some v → w'.cell? ⟨b, o, none⟩ = some v := fun b o v hlt hv => by
    rw [World.cell?_of_block (a := ⟨b, o, none⟩) (hb.block b hlt)]; exact hv
  obtain ⟨⟨h1, h2⟩, h3, h4, h5⟩ := h
  refine ⟨⟨h1, hc _ _ _ h1 h2⟩, ?_, h4, fun k hk => hc _ _ _ h4 (h5 k hk)⟩
  rcases h3 with h3 | ⟨g, hA, hg, hcc⟩
  · exact .inl h3
  · exact .inr ⟨g, hA, hg, fun j u hu => hc _ _ _ hg (hcc j u hu)⟩
set_option maxRecDepth 100000 in
set_option maxHeartbeats 6400000 in
theorem l02Cover_any (B p L : Nat) (A : Option Addr) (c cl : Nat) (gs : List Rl) (hok : gOk gs = true) : ∀ f k, k < f → k < gs.length → ∀ (i j : Int) (ov : Value) (done : List Int) (W : World), 0 ≤ i → i ≤ 1000000000000000 → j ≤ (lens gs).getD k 0 → -1000000000000000 ≤ j →
    CvSt B p L A c gs W → W.ownsRow B 2 1 ov done.length (iv done) → done.length + (cutF gs f k i j).length ≤ 2000 → B ≤ W.heap.size →
    Calls Try.prog 182 #[.pointer (some ⟨p, 0, none⟩), .slice (some ⟨L, 0, none⟩) gs.length cl, .int .i64 k, .int .i64 i, .int .i64 j, ov] W fun e w' => ∃ y, e = .returned y ∧ w'.ownsRow B 2 1 y (done ++ cutF gs f k i j).length (iv (done ++ cutF gs f k i j)) ∧ Below B W w'
  | 0, k, h, _ => by omega
  | f + 1, k, h, hk => by
    intro i j ov done W hi0 hi1 hj hj1 hst hown hfew hBW
    obtain ⟨i0, hi, hz0, hz1, hz2⟩ := info_parts Try.info_i64
    have hn := gOk_len hok
    have hsm := small_at (gOk_iff.1 hok).2.2 k hk
    have hp := lens_pos hk fun q hq _ => fits_at (gOk_iff.1 hok).2.1 q hq
    have HW := Lib.hid hown
    have HST := Lib.hid hst
    obtain ⟨Ao, co, rfl⟩ := own_slice hown
    obtain ⟨⟨p1, p2⟩, hrr, L1, L2⟩ := hst
    have lk := L2 k hk
    have t1 : (0 : Int) ≤ (k : Int) := by omega
    have t2 : (k : Int) < (gs.length : Int) := by omega
    by_cases hji : j ≤ i
    · rw [cut_none hji, List.append_nil]
      clear hown hrr L2
      go_enter Try.func182, Try.ntmps182
      go_wp2
      go_ret
      exact ⟨_, rfl, HW.out, Below.refl _ _⟩
    · by_cases hwh : i = 0 ∧ j = (lens gs).getD k 0
      · rw [cut_whole hji hwh] at hfew ⊢
        obtain ⟨rfl, hjl⟩ := hwh
        rw [← hjl] at lk
        have hHF := Lib.hid hfew
        have HBW := Lib.hid hBW
        have hlen : done.length ≤ 2000 := by omega
        clear hown hrr L2 hjl hsm hp hj hfew
        go_enter Try.func182, Try.ntmps182
        go_wp2_with (first | (at_builtin; refine wpList_append_own _ rfl _ _ 82 rfl B 2 i0 (.int .i64 0) 1 8 Try.underlying82 hi hz0 hz1 hz2 rfl (by decide) _ _ _ rfl (World.ownsRow.alloc HW.out _) ⟨W.heap.size, 0, none⟩ 1 1 [.int .i64 k] rfl rfl (one_new _ _ _) (one_int _ _) (by unfold maxLen; omega) (by omega) (by simp; omega) ?_))
        intro v' w2 hown' hgrow _
        have HF : Hid (w2.ownsRow B 2 1 v' (done ++ [(k : Int)]).length (iv (done ++ [(k : Int)]))) := Lib.hid (by rw [List.length_append, iv_app]; exact hown')
        have HB := Lib.hid (((Below.refl B W).alloc HBW.out (.cells #[.int .i64 (k : Int)] 2)).grown hgrow (by have := HBW.out; simp; omega) (fun q hq => (HW.out.lt q hq).1))
        clear hown' hgrow
        go_wp2_with fail
        go_ret
        exact ⟨_, rfl, HF.out, HB.out⟩
      · have h0 : gs[k].L.size = 0 := by
          by_cases h0 : gs[k].L.size = 0
          · exact h0
          · have h1 : (lens gs).getD k 0 = 1 := vals_letter _ gs k hk h0
            exfalso
            apply hwh
            omega
        obtain ⟨a, b, ha, hb, hak, hbk, hs2, pa1, pa2, pb1, pb2⟩ := pair_parts hok hk h0
        rw [cut_two hk ha hb hji hwh] at hfew ⊢
        rcases hrr with hrr | ⟨g, rfl, hg, hcc⟩
        · rw [hrr] at hk; simp at hk
        obtain ⟨a0, a1, a2⟩ := rules_cells hcc hk
        rw [ha] at a1
        rw [hb] at a2
        have la := L2 a (by omega)
        have ha2 : (a : Int) < (gs.length : Int) := by omega
        have ha3 : (0 : Int) ≤ (a : Int) := by omega
        have hgd : (i == 0) = true → (j == (lens gs).getD k 0) = false := fun h => by
          rw [beq_eq_false_iff_ne]
          intro e
          exact hwh ⟨by simpa using h, e⟩
        obtain ⟨la', hla'⟩ : ∃ q, q = (lens gs).getD a 0 := ⟨_, rfl⟩
        have IHA := fun m => l02Cover_any B p L (some ⟨g, 0, none⟩) c cl gs hok f a (by omega) (by omega) i (min j la') (.slice Ao done.length co) done (W.drewN m) hi0 hi1 (by rw [hla']; omega) (by omega) HST.out HW.out (by rw [List.length_append] at hfew; rw [hla']; omega) hBW
        have IHB := fun y W' (hB : Below B W W') h1 => l02Cover_any B p L (some ⟨g, 0, none⟩) c cl gs hok f b (by omega) (by omega) (max (i - la') 0) (j - la') y (done ++ cutF gs f a i (min j la')) W' (by omega) (by omega) (by omega) (by omega) (HST.out.below hB) h1 (by rw [List.length_append] at hfew ⊢; rw [hla']; omega) (Nat.le_trans hBW hB.size)
        rw [← hla'] at la ⊢
        have HA := Lib.hid IHA
        have HB := Lib.hid IHB
        have HMN := Lib.hid (fun W => mn_any j la' W)
        have HMX := Lib.hid (fun W => mx_any (i - la') 0 W)
        have hw1 : IntKind.i64.wrap (i - la') = i - la' := IntWalk.i64_in _ (by omega)
        have hw2 : IntKind.i64.wrap (j - la') = j - la' := IntWalk.i64_in _ (by omega)
        have HA2 := Lib.hid (And.intro hg a2)
        generalize cutF gs f a i (min j la') = ca at *
        generalize cutF gs f b (max (i - la') 0) (j - la') = cb at *
        generalize (lens gs).getD k 0 = lk' at *
        clear IHA IHB hown L2 hcc hla' hs2 hsm hfew
        have HKEY : Hid (∀ w', Below B W w' → w'.cell? ⟨g, k * 3 + 1, none⟩ = some (.int .i64 a) ∧ w'.cell? ⟨g, k * 3 + 2, none⟩ = some (.int .i64 b)) := Lib.hid (fun w' hb => ⟨(World.cell?_of_block (a := ⟨g, k * 3 + 1, none⟩) (hb.block g hg)).trans a1, (World.cell?_of_block (a := ⟨g, k * 3 + 2, none⟩) (hb.block g hg)).trans a2⟩)
        have hqq : ((i == 0) = true ∧ (j == lk') = false) ∨ (i == 0) = false := by
          by_cases hi00 : i = 0
          · have q1 : (i == 0) = true := by rw [beq_iff_eq]; exact hi00
            exact .inl ⟨q1, hgd q1⟩
          · exact .inr (by rw [beq_eq_false_iff_ne]; exact hi00)
        clear hgd hwh
        rcases hqq with ⟨q1, q2⟩ | q1
        all_goals
          go_enter Try.func182, Try.ntmps182
          go_wp2_with fail
          go_region_held3 (fun w' => w'.cell? ⟨g, k * 3 + 1, none⟩ = some (.int .i64 a)) (first | go_keep | exact HS5.out)
            (first
              | (go_at_call 200; refine (HMN.out _).mono ?_; rintro e w4 ⟨rfl, rfl⟩)
              | (go_at_call 182; refine (HA.out _).mono ?_; rintro e w5 ⟨y, rfl, hy, hB5⟩; have HY5 := Lib.hid hy; have HB5 := Lib.hid (below_undrew hB5); have HS5 := Lib.hid (HKEY.out _ HB5.out).1; clear hy hB5))
          have hy5 := HY5.out
          obtain ⟨N5, hN5⟩ : ∃ n : Nat, n = (done ++ ca).length := ⟨_, rfl⟩
          rw [← hN5] at hy5
          obtain ⟨Ay, cy, rfl⟩ := own_slice hy5
          have HN5 := Lib.hid hN5
          have HZ5 := Lib.hid hy5
          clear hN5 hy5 HY5
          have b2 := (HKEY.out _ HB5.out).2
          have HBm := Lib.hid (fun m => HB.out (.slice Ay N5 cy) (w5.drewN m) (below_drewN HB5.out m) (by rw [← HN5.out]; exact own_drewN HZ5.out m))
          clear a1 a2
          go_wp2_with fail
          go_region_held3 (fun w' => w'.cell? ⟨g, k * 3 + 2, none⟩ = some (.int .i64 b)) (first | go_keep | exact HS6.out)
            (first
              | (go_at_call 177; refine (HMX.out _).mono ?_; rintro e w4 ⟨rfl, rfl⟩)
              | (go_at_call 182; refine (HBm.out _).mono ?_; rintro e w6 ⟨y2, rfl, hy2, hB6⟩; have HY6 := Lib.hid hy2; have HB6 := Lib.hid (HB5.out.trans (below_undrew hB6)); have HS6 := Lib.hid (HKEY.out _ HB6.out).2; clear hy2 hB6))
          have hy6 := HY6.out
          rw [List.append_assoc] at hy6
          have HYF := Lib.hid hy6
          clear b2 hy6
          go_wp2_with fail
          go_ret
          exact ⟨_, rfl, HYF.out, HB6.out⟩
end Go.Proofs.Ytlgpleeanmeenaa
namespace Go.Proofs.Ytlgpleeanmeenaa
open Go.RowKit
open Wd
set_option linter.unusedVariables false

set_option maxHeartbeats 800000 in
/-- spec.l02Length of a grammar whose rules are right -/
theorem l02Length_any (p : Nat) (gs : List Rl) (w : World) (hf : FewR gs) (h : GP w p gs) (hok : (fits gs && small gs) = true) :
    Calls Try.prog 155 #[.pointer (some ⟨p, 0, none⟩)] w fun e w' => e = .returned (.int .i64 (wordLen gs)) ∧ Below w.heap.size w w' := by
  have HC := Lib.hid (sizes_any p gs w hf h)
  have hn := hf.len
  clear h hf
  have HK := Lib.hid hok
  clear hok
  go_enter Try.func155, Try.ntmps155
  go_wp2_with fail
  refine HC.out.mono ?_
  rintro e w' ⟨x, rfl, ho, hB⟩
  rw [HK.out]
  have ho := ho HK.out
  by_cases h0 : gs.length = 0
  · have hz := wordLen_zero h0
    have hl : (lens gs).length = 0 := by rw [lens_len]; exact h0
    obtain ⟨A, c, rfl⟩ := own_slice ho
    rw [hl]
    have HZ := Lib.hid hz
    clear ho h0 hz hl
    go_wp2
    go_ret
    exact ⟨ret_int HZ.out.symm, hB⟩
  · obtain ⟨m, hm⟩ : ∃ m, gs.length = m + 1 := ⟨gs.length - 1, by omega⟩
    have hl : (lens gs).length = m + 1 := by rw [lens_len]; exact hm
    rcases ho.shape with ⟨_, h'⟩ | ⟨g, cap, rfl, _⟩
    · rw [h'] at hl; simp at hl
    have hc := ho.cell m (by omega)
    have hw : wordLen gs = (lens gs)[m] := by
      unfold wordLen
      rw [hm, Nat.add_sub_cancel, List.getD_eq_getElem?_getD, List.getElem?_eq_getElem (by omega), Option.getD_some]
    rw [← hw] at hc
    rw [hl]
    have hm' : m ≤ 1048576 := by omega
    clear ho h0 hw hl hm hn
    go_wp2
    go_ret
    exact ⟨rfl, hB⟩
end Go.Proofs.Ytlgpleeanmeenaa
namespace Go.Proofs.Ytlgpleeanmeenaa
open Go.RowKit
open Wd
set_option linter.unusedVariables false
/-- what holds between two pairs -/
def CutRel (gs : List Rl) (cov : List Int) (w : World) (V BC : Nat) (yc : Value) (M : Nat) (pv at_ : Value) (wr : World) : Prop :=
  ∃ (t : Nat) (yv : Value), t + 1 ≤ M ∧ pv = .int .i64 (if t = 0 then cov.getD 0 0 else ((gs.length + t : Nat) : Int) - 1) ∧ at_ = .int .i64 ((t : Int) + 1) ∧ JSt w (w.heap.size + 1) V w.heap.size (gs ++ chK gs.length cov t) yv wr ∧ wr.ownsRow BC 2 1 yc M (iv cov)

set_option maxRecDepth 100000 in
set_option maxHeartbeats 12800000 in
theorem l02Cut_any (p : Nat) (v : Value) (gs : List Rl) (i j : Int) (w : World) (hf : FewR gs) (hvp : w.cell? ⟨p, 0, none⟩ = some v) (hrc : RulesC w v gs) (hok : gOk gs = true) (hp : inPart i j (wordLen gs) = true) (b1 : -9223372036854775808 ≤ i ∧ i ≤ 9223372036854775807) (b2 : -9223372036854775808 ≤ j ∧ j ≤ 9223372036854775807) :
    Calls Try.prog 129 #[.pointer (some ⟨p, 0, none⟩), .int .i64 i, .int .i64 j] w fun e w' => ∃ y, e = .returned (.agg #[y]) ∧ OwnsR w' w.heap.size y (cutG gs i j) ∧ Below w.heap.size w w' := by
  obtain ⟨i0, hi, hz0, hz1, hz2⟩ := info_parts Try.info_rule
  have hb : Below w.heap.size w (w.alloc (.cells #[.slice none 0 0] 26)) := (Below.refl _ w).alloc (Nat.le_refl _) _
  have HB := Lib.hid hb
  have HVR := Lib.hid (Var.new w (.slice none 0 0) 26)
  obtain ⟨p1, p2, p3⟩ := inPart_iff.1 hp
  have hpl : p < w.heap.size := lt_of_cell hvp
  by_cases hij : i = j
  · have hij' : (i == j) = true := by rw [beq_iff_eq]; exact hij
    have he : cutG gs i j = [] := by unfold cutG; rw [if_pos hij]
    rw [he]
    obtain ⟨x0, x1⟩ := HVR.out.cell
    clear hb hp hij he hvp hrc
    go_enter Try.func129, Try.ntmps129
    go_wp2_with fail
    refine bodyPost_ret (v := .agg #[.slice none 0 0]) (by simp [results, Try.results129, go_sem, x0]) rfl ⟨_, rfl, World.ownsRow_nil _ _ _ _, HB.out⟩
  · have hij' : (i == j) = false := by rw [beq_eq_false_iff_ne]; exact hij
    have hg0 : 0 < gs.length := by
      rcases Nat.eq_zero_or_pos gs.length with h | h
      · rw [wordLen_zero h] at p3; omega
      · exact h
    have hwl : wordLen gs = (lens gs).getD (gs.length - 1) 0 := rfl
    have hwb : wordLen gs ≤ 1000000000000000 := by have := small_at (gOk_iff.1 hok).2.2 (gs.length - 1) (by omega); omega
    have hn400 := gOk_len hok
    have hcv : cutF gs gs.length (gs.length - 1) i j = covA gs i j := cutA_eq hok hg0 p1 (by omega) (by omega)
    have hcb : (covA gs i j).length ≤ 2000 := by
      have := cover_bd hok i j gs.length (gs.length - 1) 0 (by omega) (by omega)
      unfold covA
      omega
    have hlt := covA_lt hok hg0 i j
    have hG : GP w p gs := ⟨v, hvp, hrc.1⟩
    obtain ⟨hr, hcap⟩ := hrc
    have HRW := Lib.hid hr
    obtain ⟨A, c, rfl, _⟩ := hr
    replace hcap := hcap _ _ _ rfl
    obtain ⟨ga, rfl⟩ := rules_addr HRW.out hg0
    have HGA : Hid (ga < w.heap.size ∧ ∀ j u, (rv gs)[j]? = some u → w.cell? ⟨ga, j, none⟩ = some u) := Lib.hid (by
      obtain ⟨A', c', e, h⟩ := HRW.out
      injection e with e1 e2 e3
      subst e1
      rcases h with h | ⟨g, hA, hg, hc⟩
      · rw [h] at hg0; simp at hg0
      · injection hA with hA
        injection hA with hA1 hA2 hA3
        subst hA1
        exact ⟨hg, hc⟩)
    have HLN := Lib.hid (fun W (hW : GP W p gs) => (lengths_any p gs W hf hW).mono (R' := fun e w' => ∃ x, e = .returned (.tuple #[x, .bool true]) ∧ OwnsI w' W.heap.size x (lens gs) ∧ Below W.heap.size W w') (by
      rintro e w' ⟨x, rfl, ho, hB⟩
      rw [hok]
      exact ⟨x, rfl, ho hok, hB⟩))
    have hkN : ((gs.length - 1 : Nat) : Int) = (gs.length : Int) - 1 := by omega
    have HCV : Hid (∀ B L cl W, CvSt B p L (some ⟨ga, 0, none⟩) c gs W → W.ownsRow B 2 1 (.slice (some ⟨B, 0, none⟩) 0 0) 0 [] → B ≤ W.heap.size →
        Calls Try.prog 182 #[.pointer (some ⟨p, 0, none⟩), .slice (some ⟨L, 0, none⟩) gs.length cl, .int .i64 ((gs.length : Int) - 1), .int .i64 i, .int .i64 j, .slice (some ⟨B, 0, none⟩) 0 0] W fun e w' => ∃ y, e = .returned y ∧ w'.ownsRow B 2 1 y (covA gs i j).length (iv (covA gs i j)) ∧ Below B W w') := Lib.hid (fun B L cl W h1 h2 h3 => by
      have := l02Cover_any B p L (some ⟨ga, 0, none⟩) c cl gs hok gs.length (gs.length - 1) (by omega) (by omega) i j (.slice (some ⟨B, 0, none⟩) 0 0) [] W p1 (by omega) (by omega) (by omega) h1 h2 (by rw [hcv]; simpa using hcb) h3
      rw [hcv, hkN, List.nil_append] at this
      exact this)
    have hsub : IntKind.i64.wrap ((gs.length : Int) - 1) = (gs.length : Int) - 1 := by rw [IntKind.wrap_i64]; omega
    have HP := Lib.hid hpl
    have HG := Lib.hid (hG.kept hb)
    have HCP := Lib.hid hvp
    by_cases h1c : (covA gs i j).length = 1
    · have hce : cutG gs i j = gs.take (((covA gs i j).headD 0).toNat + 1) := by unfold cutG; rw [if_neg hij, if_pos h1c]
      rw [hce]
      obtain ⟨q, hq, hcq⟩ : ∃ q : Nat, q < gs.length ∧ covA gs i j = [(q : Int)] := by
        match hcv : covA gs i j, h1c with
        | [x], _ =>
          have := hlt x (by rw [hcv]; simp)
          exact ⟨x.toNat, by omega, by rw [show ((x.toNat : Nat) : Int) = x from by omega]⟩
      rw [hcq] at HCV ⊢
      rw [show (([(q : Int)] : List Int).headD 0).toNat = q from by simp]
      have HRT : Hid (∀ u ∈ rv (gs.take (q + 1)), u.oneCell' = true) := Lib.hid (rv_cell _)
      have HRV : Hid (∀ W : World, Below w.heap.size w W → ∀ k u, (rv (gs.take (q + 1)))[k]? = some u → W.cell? ((⟨ga, 0, none⟩ : Addr).add k) = some u) := Lib.hid (fun W hB k u hu => by
        have h3 : (rv gs)[k]? = some u := by
          have : rv gs = rv (gs.take (q + 1)) ++ rv (gs.drop (q + 1)) := by rw [← rv_app, List.take_append_drop]
          rw [this, List.getElem?_append_left (List.getElem?_eq_some_iff.1 hu).1]
          exact hu
        have h4 := (hB.cell (p := ⟨ga, k, none⟩) HGA.out.1).trans (HGA.out.2 k u h3)
        unfold Addr.add
        split
        · subst_vars; exact h4
        · simpa using h4)
      have HRL : Hid ((rv (gs.take (q + 1))).length = (q + 1) * 3) := Lib.hid (by rw [rv_len, List.length_take, Nat.min_eq_left (by omega)])
      have HTL : Hid ((gs.take (q + 1)).length = q + 1) := Lib.hid (by rw [List.length_take, Nat.min_eq_left (by omega)])
      have t3 : (q : Int) + 1 ≤ (c : Int) := by omega
      have t4 : (0 : Int) ≤ (q : Int) + 1 := by omega
      have t5 : ((q : Int) + 1).toNat = q + 1 := by omega
      have t1 : IntKind.i64.wrap ((q : Int) + 1) = (q : Int) + 1 := by rw [IntWalk.i64_in _ (by omega)]
      generalize gs.take (q + 1) = ts at *
      generalize wordLen gs = WL at *
      clear hb hp hij hce hcq h1c hcv hcb hlt hG hok hvp hwl hwb hkN p3
      go_enter Try.func129, Try.ntmps129
      go_wp2_with fail
      refine (HLN.out _ HG.out).mono ?_
      rintro e w2 ⟨x, rfl, hx, hB2⟩
      unfold OwnsI at hx
      rw [lens_len] at hx
      obtain ⟨Ax, cx, rfl⟩ := own_slice hx
      obtain ⟨L, rfl, _, hL⟩ := own_addr hx hg0
      have HR2 := Lib.hid (HVR.out.kept hB2)
      have HB2 := Lib.hid (HB.out.trans (hB2.mono (by simp)))
      have cp2 := (HB2.out.cell (p := ⟨p, 0, none⟩) HP.out).trans HCP.out
      have hb3 := (Below.refl _ w2).alloc (Nat.le_refl _) (.cells #[] 2)
      have HLI : Hid ((w2.alloc (.cells #[] 2)).ownsRow w2.heap.size 2 1 (.slice (some ⟨w2.heap.size, 0, none⟩) 0 0) 0 []) := Lib.hid (World.ownsRow_lit (base := w2.heap.size) (e := 2) (size := 1) w2 #[] 0 (Nat.le_refl _) (by decide) rfl)
      have HCS : Hid (CvSt w2.heap.size p L (some ⟨ga, 0, none⟩) c gs (w2.alloc (.cells #[] 2))) := Lib.hid
        ⟨⟨lt_of_cell cp2, (hb3.cell (p := ⟨p, 0, none⟩) (lt_of_cell cp2)).trans cp2⟩, .inr ⟨ga, rfl, Nat.lt_of_lt_of_le HGA.out.1 HB2.out.size, fun k u hu => (hb3.cell (p := ⟨ga, k, none⟩) (Nat.lt_of_lt_of_le HGA.out.1 HB2.out.size)).trans ((HB2.out.cell (p := ⟨ga, k, none⟩) HGA.out.1).trans (HGA.out.2 k u hu))⟩, hL, fun k hk => by
          rw [hb3.cell (p := ⟨L, k, none⟩) hL, hx.cellAt k (by omega)]; exact iv_at (by rw [lens_len]; exact hk)⟩
      have hs2 : w.heap.size < w2.heap.size := HR2.out.lt
      have HB3 := Lib.hid (HB2.out.trans (hb3.mono HB2.out.size))
      have HR3 := Lib.hid (HR2.out.kept hb3)
      have hs3 : w2.heap.size ≤ (w2.alloc (.cells #[] 2)).heap.size := hb3.size
      have HCV2 := Lib.hid (HCV.out _ L cx _ HCS.out HLI.out hs3)
      clear hB2 hx hL hb3
      go_wp2_with fail
      refine HCV2.out.mono ?_
      rintro e w4 ⟨y, rfl, hy, hB4⟩
      have HR4 : Hid (Var w4 w.heap.size (.slice none 0 0) 26) := Lib.hid ((hB4.block w.heap.size hs2).trans HR3.out)
      have HB4 := Lib.hid (HB3.out.trans (hB4.mono (Nat.le_of_lt hs2)))
      have hy0 := hy
      obtain ⟨Ay, cy, rfl⟩ := own_slice hy
      obtain ⟨Y, rfl, hYl, hY⟩ := own_addr hy (by simp)
      have y0 : w4.cell? ⟨Y, 0, none⟩ = some (.int .i64 (q : Int)) := by rw [hy.cellAt 0 (by simp)]; rfl
      have cp4 := (HB4.out.cell (p := ⟨p, 0, none⟩) HP.out).trans HCP.out
      have hs4 : w.heap.size < w4.heap.size := HR4.out.lt
      have HPN : Hid (p ≠ w.heap.size) := Lib.hid (by have := HP.out; omega)
      have HYN : Hid (Y ≠ w.heap.size) := Lib.hid (by omega)
      have HSA := Lib.hid (fun W (h : Below w4.heap.size w4 W) => And.intro ((h.cell (p := ⟨p, 0, none⟩) (lt_of_cell cp4)).trans cp4) ((h.cell (p := ⟨Y, 0, none⟩) hY).trans y0))
      have HL : Hid (((w4.alloc (.cells #[] 146)).drew).ownsRow w4.heap.size 146 3 (.slice (some ⟨w4.heap.size, 0, none⟩) 0 0) 0 []) := Lib.hid (World.ownsRow_lit (base := w4.heap.size) (e := 146) (size := 3) w4 #[] 0 (Nat.le_refl _) (by decide) rfl)
      have HBD : Hid (∀ o, Below w.heap.size w ((w4.alloc o).drew)) := Lib.hid (fun o => HB4.out.trans (((Below.refl _ w4).alloc (Nat.le_refl _) o).drew.mono HB4.out.size))
      have HRD : Hid (∀ o, Var ((w4.alloc o).drew) w.heap.size (.slice none 0 0) 26) := Lib.hid (fun o => HR4.out.kept ((Below.refl _ w4).alloc (Nat.le_refl _) o).drew)
      clear hy hy0 hYl hY hB4
      go_wp2_with fail
      go_region_held3 (fun w' => w'.cell? ⟨p, 0, none⟩ = some (.slice (some ⟨ga, 0, none⟩) gs.length c) ∧ w'.cell? ⟨Y, 0, none⟩ = some (.int .i64 (q : Int)))
        (first | exact HS9.out _ | exact HS8.out | exact HSA.out _ ((Below.refl _ w4).alloc (Nat.le_refl _) _).drew | go_keep)
        (first
          | (refine step_append_lies _ (by rfl) _ _ 24 (by rfl) w4.heap.size 146 i0 (.agg #[.string ⟨#[]⟩, .int .i64 0, .int .i64 0]) 3 32 Try.underlying24 hi hz0 hz1 hz2 (by rfl) (by decide) (.slice (some ⟨w4.heap.size, 0, none⟩) 0 0) 0 [] (by rfl) HL.out ⟨ga, 0, none⟩ (q + 1) c (rv ts) (by rfl) HRL.out ?_ HRT.out (by omega) ?_ ?_ ?_ (w4.heap.size + 1) ?_ ?_
             exact HRV.out _ (HBD.out _)
             (unfold maxLen; omega)
             omega
             exact ((Below.refl _ w4).alloc (Nat.le_refl _) _).drew.size
             (show (w4.alloc _).heap.size = _; simp)
             intro g8 c8 w8 hown' hgrow _ _
             have HO8 := Lib.hid hown'
             have HV8 : Hid (Var w8 w.heap.size (.slice none 0 0) 26) := Lib.hid ((hgrow.block w.heap.size (HRD.out _).lt (fun e => by simp [Value.ownBlock] at e; omega)).trans (HRD.out _))
             have HB8 : Hid (Below w.heap.size w w8) := Lib.hid ((HBD.out _).grown hgrow (HBD.out _).size (fun b hb => by simp [Value.ownBlock] at hb; omega))
             have HS8 : Hid (w8.cell? ⟨p, 0, none⟩ = some (.slice (some ⟨ga, 0, none⟩) gs.length c) ∧ w8.cell? ⟨Y, 0, none⟩ = some (.int .i64 (q : Int))) := Lib.hid ⟨(HB8.out.cell (p := ⟨p, 0, none⟩) HP.out).trans HCP.out, by
               have h7 := (HSA.out _ ((Below.refl _ w4).alloc (Nat.le_refl _) (.cells #[] 146)).drew).2
               rw [World.cell?_of_block (a := ⟨Y, 0, none⟩) (hgrow.block Y (lt_of_cell h7) (fun e => by simp [Value.ownBlock] at e; have := lt_of_cell y0; simp at this; omega))]
               exact h7⟩
             have HS9 := Lib.hid (fun u => And.intro ((cell_far0 (w := w8) (a := p) (b := w.heap.size) (i := 0) (j := 0) HPN.out u).trans HS8.out.1) ((cell_far0 (w := w8) (a := Y) (b := w.heap.size) (i := 0) (j := 0) HYN.out u).trans HS8.out.2))
             obtain ⟨x0, x1⟩ := HV8.out.cell
             clear hown' hgrow))
      all_goals
        go_wp2_with fail
        refine bodyPost_ret (v := .agg #[.slice (some ⟨g8, 0, none⟩) (0 + (q + 1)) c8]) (by simp [results, Try.results129, go_sem, x0]) rfl ⟨_, rfl, ?_, HB8.out.setCell (by simp) _⟩
        have h9 := own_lower (own_setLow HO8.out ⟨w.heap.size, 0, none⟩ (.slice (some ⟨g8, 0, none⟩) (0 + (q + 1)) c8) hs4) (Nat.le_of_lt hs4)
        unfold OwnsR
        rw [HTL.out]
        simpa using h9
    · have hce : cutG gs i j = gs ++ chK gs.length (covA gs i j) ((covA gs i j).length - 1) := by unfold cutG; rw [if_neg hij, if_neg h1c]
      rw [hce]
      have hM1 : 1 ≤ (covA gs i j).length := by
        rw [← hcv]
        exact cutF_pos hok hg0 p1 (by omega) (by omega)
      generalize covA gs i j = cov at *
      obtain ⟨M, hM⟩ : ∃ M, M = cov.length := ⟨_, rfl⟩
      have h1d : ((M : Int) == 1) = false := by rw [beq_eq_false_iff_ne]; omega
      have hM2 : 1 < M := by omega
      have hM3 : M ≤ 2000 := by omega
      rw [← hM] at HCV ⊢
      have HM := Lib.hid hM
      have HGW := Lib.hid hG
      generalize wordLen gs = WL at *
      clear hb hp hij hce h1c hcv hcb hlt hG hok hvp hwl hwb hkN p3 hM hM1
      go_enter Try.func129, Try.ntmps129
      go_wp2_with fail
      refine (HLN.out _ HG.out).mono ?_
      rintro e w2 ⟨x, rfl, hx, hB2⟩
      unfold OwnsI at hx
      rw [lens_len] at hx
      obtain ⟨Ax, cx, rfl⟩ := own_slice hx
      obtain ⟨L, rfl, _, hL⟩ := own_addr hx hg0
      have HR2 := Lib.hid (HVR.out.kept hB2)
      have HB2 := Lib.hid (HB.out.trans (hB2.mono (by simp)))
      have cp2 := (HB2.out.cell (p := ⟨p, 0, none⟩) HP.out).trans HCP.out
      have hb3 := (Below.refl _ w2).alloc (Nat.le_refl _) (.cells #[] 2)
      have HLI : Hid ((w2.alloc (.cells #[] 2)).ownsRow w2.heap.size 2 1 (.slice (some ⟨w2.heap.size, 0, none⟩) 0 0) 0 []) := Lib.hid (World.ownsRow_lit (base := w2.heap.size) (e := 2) (size := 1) w2 #[] 0 (Nat.le_refl _) (by decide) rfl)
      have HCS : Hid (CvSt w2.heap.size p L (some ⟨ga, 0, none⟩) c gs (w2.alloc (.cells #[] 2))) := Lib.hid
        ⟨⟨lt_of_cell cp2, (hb3.cell (p := ⟨p, 0, none⟩) (lt_of_cell cp2)).trans cp2⟩, .inr ⟨ga, rfl, Nat.lt_of_lt_of_le HGA.out.1 HB2.out.size, fun k u hu => (hb3.cell (p := ⟨ga, k, none⟩) (Nat.lt_of_lt_of_le HGA.out.1 HB2.out.size)).trans ((HB2.out.cell (p := ⟨ga, k, none⟩) HGA.out.1).trans (HGA.out.2 k u hu))⟩, hL, fun k hk => by
          rw [hb3.cell (p := ⟨L, k, none⟩) hL, hx.cellAt k (by omega)]; exact iv_at (by rw [lens_len]; exact hk)⟩
      have hs2 : w.heap.size < w2.heap.size := HR2.out.lt
      have HB3 := Lib.hid (HB2.out.trans (hb3.mono HB2.out.size))
      have HR3 := Lib.hid (HR2.out.kept hb3)
      have hs3 : w2.heap.size ≤ (w2.alloc (.cells #[] 2)).heap.size := hb3.size
      have HCV2 := Lib.hid (HCV.out _ L cx _ HCS.out HLI.out hs3)
      clear hB2 hx hL hb3
      go_wp2_with fail
      refine HCV2.out.mono ?_
      rintro e w4 ⟨y, rfl, hy, hB4⟩
      have HR4 : Hid (Var w4 w.heap.size (.slice none 0 0) 26) := Lib.hid ((hB4.block w.heap.size hs2).trans HR3.out)
      have HB4 := Lib.hid (HB3.out.trans (hB4.mono (Nat.le_of_lt hs2)))
      obtain ⟨Ay, cy, rfl⟩ := own_slice hy
      obtain ⟨Y, rfl, hYl, hY⟩ := own_addr hy (by omega)
      have HY4 := Lib.hid hy
      have hs4 : w.heap.size < w4.heap.size := HR4.out.lt
      clear hy hYl hB4
      go_wp2_with fail
      refine (own_any p gs _ (by omega) (HGW.out.kept HB4.out)).mono ?_
      rintro e w5 ⟨y5, rfl, ho5, hB5⟩
      obtain ⟨A5, c5, rfl⟩ := own_slice ho5
      have hb6 := (Below.refl _ w5).alloc (Nat.le_refl _) (.cells #[.slice A5 gs.length c5] 26)
      have hs5 : w.heap.size < w5.heap.size := Nat.lt_of_lt_of_le hs4 hB5.size
      have HY6 := Lib.hid (own_below (own_below HY4.out hB5 (Nat.le_refl _)) hb6 (Nat.le_refl _))
      have HST : Hid (CutRel gs cov w w5.heap.size w2.heap.size (.slice (some ⟨Y, 0, none⟩) M cy) M (.int .i64 (cov.getD 0 0)) (.int .i64 1) (w5.alloc (.cells #[.slice A5 gs.length c5] 26))) := Lib.hid
        ⟨0, .slice A5 gs.length c5, by omega, rfl, rfl, by
          rw [show chK gs.length cov 0 = [] from rfl, List.append_nil]
          exact ⟨own_lower (own_below ho5 hb6 (Nat.le_refl _)) (by omega), Var.new _ _ _, (HR4.out.kept hB5).kept hb6, (HB4.out.trans (hB5.mono HB4.out.size)).trans (hb6.mono (Nat.le_of_lt hs5)), by simp; omega⟩, HY6.out⟩
      have y6 : (w5.alloc (.cells #[.slice A5 gs.length c5] 26)).cell? ⟨Y, 0, none⟩ = some (.int .i64 (cov.getD 0 0)) := by rw [HY6.out.cellAt 0 (by omega)]; exact iv_at (by have := HM.out; omega)
      clear hB5 ho5 hb6
      go_wp2_with fail
      obtain ⟨V, hV⟩ : ∃ V, V = w5.heap.size := ⟨_, rfl⟩
      rw [← hV] at HST ⊢
      have hVw : w.heap.size < V := by omega
      generalize w5.alloc (.cells #[.slice A5 gs.length c5] 26) = w6 at *
      clear hV hs5 y6
      go_loopw [11, 12] (fun pv at_ wr => CutRel gs cov w V w2.heap.size (.slice (some ⟨Y, 0, none⟩) M cy) M pv at_ wr) (fun _ at_ _ => M - (intOf at_).toNat)
      case atStart => exact HST.out
      case round =>
        obtain ⟨t, yv, ht, rfl, rfl, hps, hyc⟩ := hrel
        obtain ⟨wu, rfl⟩ : ∃ wu : World, wu = wr := ⟨_, rfl⟩
        obtain ⟨NT, hNT⟩ : ∃ NT, NT = (gs ++ chK gs.length cov t).length := ⟨_, rfl⟩
        have hNT2 : NT = gs.length + t := by rw [hNT, List.length_append, chK_len]
        obtain ⟨PV, hPV⟩ : ∃ PV, PV = (if t = 0 then cov.getD 0 0 else ((gs.length + t : Nat) : Int) - 1) := ⟨_, rfl⟩
        rw [← hPV]
        by_cases hlt : t + 1 < M
        · obtain ⟨z, hz⟩ : ∃ z, z = cov.getD (t + 1) 0 := ⟨_, rfl⟩
          obtain ⟨X, hX⟩ : ∃ X : Rl, X = ⟨⟨#[]⟩, PV, z⟩ := ⟨_, rfl⟩
          have HPX := Lib.hid (show chK gs.length cov (t + 1) = chK gs.length cov t ++ [X] from by rw [chK_succ, hX, hPV, hz])
          have HXC := Lib.hid (show rc X = [.string ⟨#[]⟩, .int .i64 PV, .int .i64 z] from by rw [hX]; rfl)
          have hnw := news3 wu.drew X 146
          rw [hX] at hnw
          have HNW := Lib.hid hnw
          have HP6 := Lib.hid (jst_kept hps (Below.refl _ wu).drew)
          have hO6 := HP6.out.1
          rw [← hNT] at hO6
          obtain ⟨A3, c3, rfl⟩ := own_slice hO6
          have HO6 := Lib.hid hO6
          have HA6 := Lib.hid (own_below hyc (Below.refl _ wu).drew (Nat.le_refl _))
          have HNT := Lib.hid hNT
          have HN2 := Lib.hid hNT2
          have v0 := hps.2.1.cell.1
          have z0 := HP6.out.2.1.cell.1
          have hbs : w.heap.size + 1 ≤ wu.heap.size := hps.2.2.2.2
          have t1 : wu.drew.cell? ⟨Y, t + 1, none⟩ = some (.int .i64 z) := by rw [HA6.out.cellAt (t + 1) (by omega), hz]; exact iv_at (by have := HM.out; omega)
          have za6 := fun o => (jst_kept HP6.out ((Below.refl _ _).alloc (Nat.le_refl _) o)).2.1.cell.1
          have za6d : ∀ o, (wu.alloc o).drew.cell? ⟨V, 0, none⟩ = some (.slice A3 NT c3) := fun o => za6 o
          have hbnd : NT ≤ 2400 := by omega
          have j0 : (0 : Int) ≤ (t : Int) + 1 := by omega
          have j1 : (t : Int) + 1 < (M : Int) := by omega
          have j2 : ((t : Int) + 1).toNat = t + 1 := by omega
          have hwN : IntKind.i64.wrap (NT : Int) = (NT : Int) := by rw [IntKind.wrap_i64]; omega
          have HZ := Lib.hid hPV
          clear hps hyc hX hnw hNT hO6 hPV hz hNT2
          go_wp2_with fail
          go_region_law ((first
            | (refine step_append_lies _ (by rfl) _ _ 24 (by rfl) (w.heap.size + 1) 146 i0 (.agg #[.string ⟨#[]⟩, .int .i64 0, .int .i64 0]) 3 32 Try.underlying24 hi hz0 hz1 hz2 (by rfl) (by decide) (.slice A3 NT c3) NT (rv (gs ++ chK gs.length cov t)) (by rfl) (World.ownsRow.alloc HO6.out _) ⟨wu.heap.size, 0, none⟩ 1 1 (rc X) (by rfl) (by rfl) (by rw [HXC.out]; exact HNW.out) (rc_cell _) (by decide) (by unfold maxLen; omega) (by omega) (by simp; omega) (wu.heap.size + 1) (by simp) ?_
               intro g8 c8 w8 hown' hgrow _ _
               obtain ⟨hk8, hp9⟩ := jst_grown (x := X) (show w.heap.size ≤ w.heap.size + 1 by omega) (show w.heap.size ≤ V by omega) (show w.heap.size ≠ V by omega) HP6.out (by rw [← HNT.out]; exact hown') hgrow
               obtain ⟨x8, y8⟩ := hk8.cell
               have HP9 := Lib.hid hp9
               have ha8 := own_other HA6.out HO6.out (by decide) hgrow
               have HA9 := Lib.hid (World.ownsRow.kept ha8 (only_setCell (World.grownBy.refl w8 (some V)) (p := ⟨V, 0, none⟩) (.inl rfl) (.slice (some ⟨g8, 0, none⟩) (NT + 1) c8)) (.inr (own_var_ne ha8 hk8 (by decide))))
               clear hown' hgrow hk8 hp9 ha8)))
          all_goals
            obtain ⟨x9, y9⟩ := HP9.out.2.1.cell
            have HST4 : Hid (CutRel gs cov w V w2.heap.size (.slice (some ⟨Y, 0, none⟩) M cy) M (.int .i64 (NT : Int)) (.int .i64 ((t : Int) + 1 + 1)) (w8.setCell ⟨V, 0, none⟩ (.slice (some ⟨g8, 0, none⟩) (NT + 1) c8))) := Lib.hid ⟨t + 1, .slice (some ⟨g8, 0, none⟩) (NT + 1) c8, by omega, by rw [if_neg (by omega), HN2.out]; congr 2; omega, by go_num, by rw [HPX.out, ← List.append_assoc]; exact HP9.out, HA9.out⟩
            go_wp2_with fail
            go_roundw
            case rel => first | exact HST4.out | ((repeat apply Exists.intro); exact ⟨HST4.out, rfl⟩)
            case measure => (first | (simp [intOf]; done) | (simp [intOf]; omega))
        · have htl : M - 1 = t := by omega
          have hO := hps.1
          rw [← hNT] at hO
          obtain ⟨A3, c3, rfl⟩ := own_slice hO
          have v0 := hps.2.1.cell.1
          obtain ⟨r0, r1⟩ := hps.2.2.1.cell
          have hB := hps.2.2.2.1
          have hnl : ¬ ((t : Int) + 1 < (M : Int)) := by omega
          have HFO : Hid (OwnsR wu w.heap.size (.slice A3 NT c3) (gs ++ chK gs.length cov (M - 1))) := Lib.hid (by
            unfold OwnsR
            rw [htl, ← hNT]
            exact own_lower hO (by omega))
          have HNE := Lib.hid (own_var_ne hO hps.2.2.1 (by decide))
          have HBB := Lib.hid hB
          clear hps hyc htl hNT hO hB hNT2
          go_wp2_with fail
          refine bodyPost_ret (v := .agg #[.slice A3 NT c3]) (by simp [results, Try.results129, go_sem, r0]) rfl ⟨_, rfl, ?_, HBB.out.setCell (by simp) _⟩
          exact World.ownsRow.kept HFO.out (only_setCell (World.grownBy.refl wu (some w.heap.size)) (p := ⟨w.heap.size, 0, none⟩) (.inl rfl) _) (.inr HNE.out)
end Go.Proofs.Ytlgpleeanmeenaa
