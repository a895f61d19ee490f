/-
  RgM, JpR, RgP, GPowS, GPowI, GPowA, in one text.
-/
import Derived.Test.YtlgpleeanmeenaaFnExactRunsGrammarK7
import Derived.Test.YtlgpleeanmeenaaFnExactRunsGrammarK3
import Derived.Test.YtlgpleeanmeenaaFnExactRunsGrammarK5
import Derived.Test.YtlgpleeanmeenaaFnExactRunsGrammarK4
import Derived.Deep.RegionHeld3
import Derived.Test.YtlgpleeanmeenaaFnExactRunsGrammarK2
import Derived.Deep.LoopGhost
import Derived.Deep.AppendLies
import Derived.Test.YtlgpleeanmeenaaShelf
namespace Go.Proofs.Ytlgpleeanmeenaa
open Go.RowKit
set_option linter.unusedVariables false
namespace Wd
/-- a further rule that is a pair of earlier ones -/
theorem ok_snoc {rs : List Rl} (h : gOk rs = true) {a b : Nat} (ha : a < rs.length) (hb : b < rs.length) (hl : rs.length < 400) (hs : (lens rs).getD a 0 + (lens rs).getD b 0 ≤ 1000000000000000) :
    gOk (rs ++ [pairR a b]) = true ∧ wordLen (rs ++ [pairR a b]) = (lens rs).getD a 0 + (lens rs).getD b 0 := by
  obtain ⟨h1, h2, h3⟩ := gOk_iff.1 h
  have hf : fits (rs ++ [pairR a b]) = true := fits_snoc h2 ((ok_pair rfl).2 ⟨⟨by simp [pairR], by simp [pairR]; omega⟩, ⟨by simp [pairR], by simp [pairR]; omega⟩⟩)
  have hlast : (lens (rs ++ [pairR a b])).getD rs.length 0 = (lens rs).getD a 0 + (lens rs).getD b 0 := by
    have h4 := (lens_pairO hf (k := rs.length) (x := pairR a b) (by simp) rfl).2.2
    rw [h4]
    have e1 : (pairR a b).l.toNat = a := by simp [pairR]
    have e2 : (pairR a b).r.toNat = b := by simp [pairR]
    rw [e1, e2, lens_pre _ _ _ ha, lens_pre _ _ _ hb]
  refine ⟨gOk_iff.2 ⟨by simp; omega, hf, decide_eq_true fun k hk => ?_⟩, ?_⟩
  · by_cases hkl : k < rs.length
    · rw [lens_pre _ _ _ hkl]; exact small_at h3 k hkl
    · obtain rfl : k = rs.length := by simp at hk; omega
      rw [hlast]; exact hs
  · unfold wordLen
    rw [show (rs ++ [pairR a b]).length - 1 = rs.length from by simp]
    exact hlast
/-- what holds between two digits: the rules are valid, the first one is a letter -/
def PInv (rs : List Rl) (q : Nat) (n : Nat) : Prop := gOk rs = true ∧ wordLen rs = q ∧ 1 ≤ rs.length ∧ rs.length ≤ n ∧ (lens rs).getD 0 0 = 1
theorem pinv_next {rs : List Rl} {q n : Nat} {b : Bool} (h : PInv rs q n) (hq : q ≤ 1000000) (hn : n ≤ 390) : PInv (rs ++ pNews rs.length 0 b) (2 * q + (if b then 1 else 0)) (n + 2) := by
  obtain ⟨h1, h2, h3, h4, h5⟩ := h
  have hw : (lens rs).getD (rs.length - 1) 0 = q := h2
  obtain ⟨a1, a2⟩ := ok_snoc h1 (a := rs.length - 1) (b := rs.length - 1) (by omega) (by omega) (by omega) (by omega)
  rw [hw] at a2
  have h0 : (lens (rs ++ [pairR (rs.length - 1) (rs.length - 1)])).getD 0 0 = 1 := by rw [lens_pre _ _ _ (by omega)]; exact h5
  cases b
  · refine ⟨a1, ?_, by simp [pNews], by simp [pNews]; omega, h0⟩
    show wordLen (rs ++ [pairR (rs.length - 1) (rs.length - 1)]) = _
    rw [a2]; simp; omega
  · have hl2 : (rs ++ [pairR (rs.length - 1) (rs.length - 1)]).length = rs.length + 1 := by simp
    have hw2 : (lens (rs ++ [pairR (rs.length - 1) (rs.length - 1)])).getD rs.length 0 = q + q := by
      have := a2
      unfold wordLen at this
      rwa [hl2, Nat.add_sub_cancel] at this
    obtain ⟨b1, b2⟩ := ok_snoc a1 (a := rs.length) (b := 0) (by omega) (by omega) (by omega) (by rw [hw2, h0]; omega)
    have he : rs ++ pNews rs.length 0 true = rs ++ [pairR (rs.length - 1) (rs.length - 1)] ++ [pairR rs.length 0] := by simp [pNews]
    rw [he]
    refine ⟨b1, ?_, by simp, by simp; omega, ?_⟩
    · rw [b2, hw2, h0]; simp; omega
    · rw [lens_pre _ _ _ (by omega)]; exact h0
theorem pow_inv (t : Nat) (ht : t ≤ 1000000) : ∀ (d : Nat) (rs : List Rl) (n : Nat), PInv rs (t / 2 ^ d) n → n + 2 * d ≤ 300 → ∃ m, PInv (powFrom t 0 d rs) t m
  | 0, rs, n, h, _ => by
    refine ⟨n, ?_⟩
    rw [powFrom]
    simpa using h
  | d + 1, rs, n, h, hn => by
    rw [powFrom]
    have h1 := pinv_next (b := bitOf t d) h (Nat.le_trans (Nat.div_le_self _ _) ht) (by omega)
    have h2 : 2 * (t / 2 ^ (d + 1)) + (if bitOf t d then 1 else 0) = t / 2 ^ d := by
      rw [Nat.pow_succ, ← Nat.div_div_eq_div_mul]
      unfold bitOf
      generalize t / 2 ^ d = q
      rcases Nat.mod_two_eq_zero_or_one q with h3 | h3
      · rw [if_neg (by simp [h3])]; omega
      · rw [if_pos (by simp [h3])]; omega
    rw [h2] at h1
    exact pow_inv t ht d _ _ h1 (by omega)
/-- the powers of a letter are valid, and as long as they should be -/
theorem pow_letter {L : ByteArray} (h1 : L.size = 1) (h2 : okL L.data.toList = true) {t : Nat} (h0 : 0 < t) (ht : t ≤ 1000000) (hone : gOk [⟨L, 0, 0⟩] = true) :
    gOk (powG [⟨L, 0, 0⟩] t) = true ∧ wordLen (powG [⟨L, 0, 0⟩] t) = t := by
  have hl : (lens [(⟨L, 0, 0⟩ : Rl)]).getD 0 0 = 1 := vals_letter (fun a b => a + b) [(⟨L, 0, 0⟩ : Rl)] 0 (by simp) (by show L.size ≠ 0; omega)
  have hb := bitLen_pos (t := t) (by omega) h0
  have hb2 := bitLen_bd (t := t) (by omega)
  have hq : t / 2 ^ (Lib.bitLen t - 1) = 1 := by
    have e1 : t / 2 ^ (Lib.bitLen t) = 0 := (bitLen_iff (by omega)).2 (Nat.le_refl _)
    have e2 : ¬ t / 2 ^ (Lib.bitLen t - 1) = 0 := fun h => by have := (bitLen_iff (by omega)).1 h; omega
    obtain ⟨m, hm⟩ : ∃ m, Lib.bitLen t = m + 1 := ⟨Lib.bitLen t - 1, by omega⟩
    rw [hm] at e1 e2 ⊢
    rw [Nat.pow_succ, ← Nat.div_div_eq_div_mul] at e1
    rw [Nat.add_sub_cancel] at e2 ⊢
    omega
  have hp : PInv [(⟨L, 0, 0⟩ : Rl)] (t / 2 ^ (Lib.bitLen t - 1)) 1 := by
    rw [hq]
    exact ⟨hone, hl, by simp, by simp, hl⟩
  obtain ⟨m, r1, r2, _⟩ := pow_inv t ht (Lib.bitLen t - 1) _ _ hp (by omega)
  exact ⟨r1, r2⟩
/-- the grammar of a run -/
def rgPc (rs : List Ru) (k : Nat) (g : List Rl) : List Rl × Int :=
  match rs[k]? with
  | some x => (powG [⟨x.L, 0, 0⟩] x.l.toNat, 0)
  | none => ([], 0)
/-- the grammar so far and the runs left are not too long -/
def rgInv (rs : List Ru) (k : Nat) (g : List Rl) : Prop := wordLen g + totU (rs.drop k) ≤ 2000
/-- the runs of a valid word -/
structure RsFit (rs : List Ru) : Prop where
  one : ∀ k (h : k < rs.length), rs[k].L.size = 1 ∧ okL rs[k].L.data.toList = true
  cnt : ∀ k (h : k < rs.length), 1 ≤ rs[k].l ∧ rs[k].l ≤ 2000
  tot : totU rs ≤ 2000
  len : rs.length ≤ 2000
/-- the answer of RunsGrammar -/
def gramRunsGrammar (s : ByteArray) : List Rl × Int := if okL s.data.toList = true then jpF (rgPc (rsK s.data.toList s.size)) (rsK s.data.toList s.size).length 0 [] else ([], 1)
theorem rs_fit {s : ByteArray} (h : okL s.data.toList = true) : RsFit (rsK s.data.toList s.size) := by
  have hg := rs_all s.data.toList
  have hs : s.data.toList.length = s.size := by simp
  rw [hs] at hg
  have hs2 : s.size ≤ 2000 := by
    rcases Nat.lt_or_ge 2000 s.size with h' | h'
    · rw [okL_long (by simpa using h')] at h; cases h
    · exact h'
  refine ⟨fun k hk => ?_, fun k hk => ?_, ?_, ?_⟩
  · obtain ⟨c, hc, he⟩ := hg.one _ (List.getElem_mem hk)
    rw [he]
    refine ⟨rfl, ?_⟩
    have hlt : lt c = true := by
      have h3 := h
      simp only [okL, Bool.and_eq_true, List.all_eq_true] at h3
      exact h3.2 c hc
    show okL [c] = true
    simp [okL, hlt]
  · have := rsK_cnt s.data.toList s.size _ (List.getElem_mem hk)
    omega
  · rw [hg.tot]; omega
  · have := rsK_len s.data.toList s.size
    omega
theorem gOk_letter {L : ByteArray} (h1 : L.size = 1) (h2 : okL L.data.toList = true) : gOk [⟨L, 0, 0⟩] = true := by
  have h0 : L.size ≠ 0 := by omega
  refine gOk_iff.2 ⟨by simp, fits_of fun k x hk => ?_, decide_eq_true fun k hk => ?_⟩
  · obtain rfl : k = 0 := by have := (List.getElem?_eq_some_iff.1 hk).1; simp at this; omega
    injection hk with hk
    subst hk
    exact (ok_letter h0).2 ⟨⟨h1, h2⟩, rfl, rfl⟩
  · obtain rfl : k = 0 := by simp at hk; omega
    have : (lens [(⟨L, 0, 0⟩ : Rl)]).getD 0 0 = 1 := vals_letter (fun a b => a + b) [(⟨L, 0, 0⟩ : Rl)] 0 (by simp) h0
    omega
theorem rg_pc {rs : List Ru} {k : Nat} (g : List Rl) (hk : k < rs.length) : rgPc rs k g = (powG [⟨rs[k].L, 0, 0⟩] rs[k].l.toNat, 0) := by
  unfold rgPc
  rw [List.getElem?_eq_getElem hk]
theorem rg_gOk {rs : List Ru} (hf : RsFit rs) {k : Nat} {g : List Rl} (hk : k < rs.length) : gOk (rgPc rs k g).1 = true ∧ wordLen (rgPc rs k g).1 = rs[k].l := by
  rw [rg_pc g hk]
  obtain ⟨a, b⟩ := hf.one k hk
  obtain ⟨c, d⟩ := hf.cnt k hk
  obtain ⟨e, f⟩ := pow_letter a b (t := rs[k].l.toNat) (by omega) (by omega) (gOk_letter a b)
  exact ⟨e, by rw [f]; omega⟩
theorem tot_drop {rs : List Ru} {k : Nat} (hk : k < rs.length) : totU (rs.drop k) = rs[k].l + totU (rs.drop (k + 1)) := by
  unfold totU
  rw [List.drop_eq_getElem_cons hk, List.map_cons, List.sum_cons]
theorem tot_pos {rs : List Ru} (hf : RsFit rs) (k : Nat) : 0 ≤ totU (rs.drop k) := by
  unfold totU
  have : ∀ l : List Int, (∀ x ∈ l, 0 ≤ x) → 0 ≤ l.sum := by
    intro l
    induction l with
    | nil => intro _; simp
    | cons a l ih =>
      intro h
      have h1 := h a (by simp)
      have h2 := ih (fun x hx => h x (by simp [hx]))
      simp; omega
  refine this _ fun x hx => ?_
  obtain ⟨r, hr, rfl⟩ := List.mem_map.1 hx
  obtain ⟨j, hj, rfl⟩ := List.mem_iff_getElem.1 (List.mem_of_mem_drop hr)
  have := (hf.cnt j hj).1
  omega
theorem rg_start {rs : List Ru} (hf : RsFit rs) : rgInv rs 0 [] := by
  unfold rgInv
  rw [wordLen_zero rfl, List.drop_zero]
  have := hf.tot
  omega
theorem rg_next {rs : List Ru} (hf : RsFit rs) {k : Nat} {g : List Rl} (hk : k < rs.length) (hok : gOk g = true) (hin : rgInv rs k g) (hj : gOk (joinG g (rgPc rs k g).1) = true) : rgInv rs (k + 1) (trimG (joinG g (rgPc rs k g).1)) := by
  obtain ⟨a, b⟩ := rg_gOk hf (g := g) hk
  unfold rgInv at *
  rw [(trim_ok hj).2, join_word hok a, b]
  rw [tot_drop hk] at hin
  omega
/-- a join is valid where it has few rules -/
theorem rg_join {rs : List Ru} (hf : RsFit rs) {k : Nat} {g : List Rl} (hk : k < rs.length) (hok : gOk g = true) (hin : rgInv rs k g) : gOk (joinG g (rgPc rs k g).1) = decide ((joinG g (rgPc rs k g).1).length ≤ 400) := by
  obtain ⟨a, b⟩ := rg_gOk hf (g := g) hk
  have ht := tot_pos hf (k + 1)
  unfold rgInv at hin
  rw [tot_drop hk] at hin
  generalize (rgPc rs k g).1 = nx at *
  by_cases hl : (joinG g nx).length ≤ 400
  · rw [decide_eq_true hl]
    unfold joinG at hl ⊢
    split
    · exact a
    · split
      · exact hok
      · next h0 h1 =>
        refine jn_ok hok a (by omega) (by omega) (by omega) ?_
        rw [if_neg h0, if_neg h1] at hl
        simp at hl
        omega
  · rw [decide_eq_false hl]
    exact gOk_long (by omega)
end Wd
end Go.Proofs.Ytlgpleeanmeenaa
namespace Go.Proofs.Ytlgpleeanmeenaa
open Go.RowKit
open Wd
set_option linter.unusedVariables false
set_option maxRecDepth 100000 in
set_option maxHeartbeats 12800000 in
theorem joinedPieces_runs (pc : Nat → List Rl → List Rl × Int) (inv : Nat → List Rl → Prop) (cv : Value) (n : Nat) (w : World) (hn : n ≤ 2000)
    (hpc : ∀ k g v W, k < n → gOk g = true → inv k g → RulesC W v g → Below w.heap.size w W → Calls Try.prog 97 #[.int .i64 k, .agg #[v], cv] W fun e w' => ∃ y, e = .returned (.tuple #[.agg #[y], .int .i64 (pc k g).2]) ∧ OwnsR w' W.heap.size y (pc k g).1 ∧ Below W.heap.size W w')
    (hgo : ∀ k g, k < n → gOk g = true → inv k g → (pc k g).2 = 0 → gOk (pc k g).1 = true)
    (hinv : ∀ k g, k < n → gOk g = true → inv k g → (pc k g).2 = 0 → gOk (joinG g (pc k g).1) = true → inv (k + 1) (trimG (joinG g (pc k g).1)))
    (h0 : inv 0 []) :
    Calls Try.prog 70 #[.int .i64 n, .func (.func 97) #[] #[cv]] w fun e w' => ∃ y, e = .returned (.tuple #[.agg #[y], .int .i64 (jpF pc n 0 []).2]) ∧ OwnsR w' w.heap.size y (jpF pc n 0 []).1 ∧ Below w.heap.size w w' := by
  have hb : Below w.heap.size w ((w.alloc (.cells #[.slice none 0 0] 26)).alloc (.cells #[.slice none 0 0] 26)) := ((Below.refl _ w).alloc (Nat.le_refl _) _).alloc (by simp) _
  have hv0 : Var ((w.alloc (.cells #[.slice none 0 0] 26)).alloc (.cells #[.slice none 0 0] 26)) w.heap.size (.slice none 0 0) 26 := (Var.new w (.slice none 0 0) 26).kept ((Below.refl _ _).alloc (Nat.le_refl _) _)
  have hv : Var ((w.alloc (.cells #[.slice none 0 0] 26)).alloc (.cells #[.slice none 0 0] 26)) (w.heap.size + 1) (.slice none 0 0) 26 := by
    have := Var.new (w.alloc (.cells #[.slice none 0 0] 26)) (.slice none 0 0) 26
    rwa [show (w.alloc (.cells #[.slice none 0 0] 26)).heap.size = w.heap.size + 1 from by simp] at this
  obtain ⟨ans, hans⟩ : ∃ ans, ans = jpF pc n 0 [] := ⟨_, rfl⟩
  rw [← hans]
  have HST : Hid (JpRel pc inv n w ans (.int .i64 0) ((w.alloc (.cells #[.slice none 0 0] 26)).alloc (.cells #[.slice none 0 0] 26))) := Lib.hid
    ⟨0, [], .slice none 0 0, Nat.zero_le _, rfl, gOk_nil, h0, hans.symm, World.ownsRow_nil _ _ _ _, hv, hv0, hb, by simp⟩
  have HPC := Lib.hid hpc
  have HGO := Lib.hid hgo
  have HINV := Lib.hid hinv
  clear hb hv0 hv hans hpc hgo hinv h0
  go_enter Try.func70, Try.ntmps70
  go_wp2_with fail
  generalize (w.alloc (.cells #[.slice none 0 0] 26)).alloc (.cells #[.slice none 0 0] 26) = wz at *
  go_loopw [7, 8, 9, 10, 12] (fun _ _ _ _ i wr => JpRel pc inv n w ans i wr) (fun _ _ _ _ i _ => n - (intOf i).toNat)
  case atStart => exact HST.out
  case round =>
    obtain ⟨k, g, yv, hk, rfl, hok, hin, hans, hjs⟩ := hrel
    obtain ⟨wo, rfl⟩ : ∃ wo : World, wo = wr := ⟨_, rfl⟩
    obtain ⟨Ag, cg, rfl⟩ := own_slice hjs.1
    obtain ⟨g0, g1⟩ := hjs.2.1.cell
    obtain ⟨r0, r1⟩ := hjs.2.2.1.cell
    have HJ := Lib.hid hjs
    have hsz : w.heap.size + 2 ≤ wo.heap.size := hjs.2.2.2.2
    by_cases hlt : k < n
    · have hP := HPC.out k g _ wo hlt hok hin (RulesC.of_own hjs.1) hjs.2.2.2.1
      obtain ⟨m, hm⟩ : ∃ m, n - k = m + 1 := ⟨n - k - 1, by omega⟩
      rw [hm, jpF] at hans
      by_cases hc : (pc k g).2 = 0
      · rw [if_pos hc] at hans
        have hgn := HGO.out k g hlt hok hin hc
        have hI := HINV.out k g hlt hok hin hc
        rw [hc] at hP
        generalize (pc k g).1 = nx at *
        have HP := Lib.hid hP
        have hjf := joinG_few hok hgn
        have HJN := Lib.hid (fun v u W h1 h2 => implJoin_ok v u g nx W (few_ok hok) (few_ok hgn) h1 h2 hok hgn)
        by_cases hjo : gOk (joinG g nx) = true
        · rw [if_pos hjo] at hans
          have hlc : limC (joinG g nx) = 0 := by unfold limC; rw [if_pos hjo]
          have hlg : limG (joinG g nx) = joinG g nx := by unfold limG; rw [if_pos hjo]
          rw [hlc, hlg] at HJN
          have hI := hI hjo
          have htk := (trim_ok hjo).1
          have HTR := Lib.hid (fun v W (h : Rules W v (joinG g nx)) => trimmed_any v (joinG g nx) W (by have := gOk_len hjo; omega) (gOk_iff.1 hjo).2.1 h)
          have HANS : Hid (jpF pc (n - (k + 1)) (k + 1) (trimG (joinG g nx)) = ans) := Lib.hid (by rw [show n - (k + 1) = m from by omega]; exact hans)
          have HK := Lib.hid (And.intro htk hI)
          generalize trimG (joinG g nx) = tr at *
          generalize joinG g nx = jn at *
          clear hjs hP hans hc hgn hI hjf hjo hlc hlg htk hm
          go_wp2_with fail
          refine HP.out.mono ?_
          rintro e w2 ⟨y2, rfl, ho2, hB2⟩
          obtain ⟨A2, c2, rfl⟩ := own_slice ho2
          have hb3 := (Below.refl _ w2).alloc (Nat.le_refl _) (.cells #[.slice A2 nx.length c2] 26)
          have HJ3 := Lib.hid (jst_kept (jst_kept HJ.out hB2) hb3)
          have HR3 := Lib.hid ((Rules.of_own ho2).kept hb3)
          have q3 := (Var.new w2 (.slice A2 nx.length c2) 26).cell.1
          have g3 := HJ3.out.2.1.cell.1
          clear hB2 ho2 hb3
          go_wp2_with fail
          generalize w2.alloc (.cells #[.slice A2 nx.length c2] 26) = w3 at *
          refine (HJN.out _ _ _ (Rules.of_own HJ3.out.1) HR3.out).mono ?_
          rintro e w4 ⟨y4, rfl, ho4, hB4⟩
          obtain ⟨A4, c4, rfl⟩ := own_slice ho4
          have hb5 := (Below.refl _ w4).alloc (Nat.le_refl _) (.cells #[.slice A4 jn.length c4] 26)
          have HJ5 := Lib.hid (jst_kept (jst_kept HJ3.out hB4) hb5)
          have HR5 := Lib.hid ((Rules.of_own ho4).kept hb5)
          have q5 := (Var.new w4 (.slice A4 jn.length c4) 26).cell.1
          clear hB4 ho4 hb5
          go_wp2_with fail
          generalize w4.alloc (.cells #[.slice A4 jn.length c4] 26) = w5 at *
          refine (HTR.out _ _ HR5.out).mono ?_
          rintro e w6 ⟨y6, rfl, ho6, hB6⟩
          obtain ⟨A6, c6, rfl⟩ := own_slice ho6
          have hj6 := jst_kept HJ5.out hB6
          obtain ⟨v0, v1⟩ := hj6.2.1.cell
          have HST2 : Hid (JpRel pc inv n w ans (.int .i64 ((k + 1 : Nat) : Int)) (w6.setCell ⟨w.heap.size + 1, 0, none⟩ (.slice A6 tr.length c6))) := Lib.hid (by
            obtain ⟨j1, j2, j3, j4, j5⟩ := hj6
            have hlow := own_lower ho6 (show w.heap.size + 2 ≤ w5.heap.size from HJ5.out.2.2.2.2)
            exact ⟨k + 1, tr, .slice A6 tr.length c6, by omega, rfl, HK.out.1, HK.out.2, HANS.out, own_setLow hlow _ _ (by simp only; omega), var_setV j2, j3.far _ _ (by simp only; omega), j4.setCell (by simp only; omega) _, by simp [World.setCell]; exact j5⟩)
          clear hj6 ho6 hB6
          go_wp2_with fail
          go_roundw
          all_goals first | exact HST2.out | ((repeat apply Exists.intro); exact ⟨HST2.out, rfl⟩) | (simp [intOf]; done) | (simp [intOf]; omega) | omega
        · rw [if_neg hjo] at hans
          have hlc : limC (joinG g nx) = 3 := by unfold limC; rw [if_neg hjo]
          have hlg : limG (joinG g nx) = [] := by unfold limG; rw [if_neg hjo]
          rw [hlc, hlg] at HJN
          subst hans
          clear hjs hP hc hgn hI hjf hjo hlc hlg hm
          go_wp2_with fail
          refine HP.out.mono ?_
          rintro e w2 ⟨y2, rfl, ho2, hB2⟩
          obtain ⟨A2, c2, rfl⟩ := own_slice ho2
          have hb3 := (Below.refl _ w2).alloc (Nat.le_refl _) (.cells #[.slice A2 nx.length c2] 26)
          have HJ3 := Lib.hid (jst_kept (jst_kept HJ.out hB2) hb3)
          have HR3 := Lib.hid ((Rules.of_own ho2).kept hb3)
          have q3 := (Var.new w2 (.slice A2 nx.length c2) 26).cell.1
          have g3 := HJ3.out.2.1.cell.1
          clear hB2 ho2 hb3
          go_wp2_with fail
          generalize w2.alloc (.cells #[.slice A2 nx.length c2] 26) = w3 at *
          refine (HJN.out _ _ _ (Rules.of_own HJ3.out.1) HR3.out).mono ?_
          rintro e w4 ⟨y4, rfl, ho4, hB4⟩
          obtain ⟨A4, c4, rfl⟩ := own_slice ho4
          have hb5 := (Below.refl _ w4).alloc (Nat.le_refl _) (.cells #[.slice A4 0 c4] 26)
          have HJ5 := Lib.hid (jst_kept (jst_kept HJ3.out hB4) hb5)
          obtain ⟨x0, x1⟩ := HJ5.out.2.2.1.cell
          clear hB4 ho4 hb5
          go_wp2_with fail
          refine bodyPost_ret (v := .tuple #[.agg #[.slice none 0 0], .int .i64 3]) (by simp [results, Try.results70, go_sem, x0]) rfl ⟨_, rfl, World.ownsRow_nil _ _ _ _, HJ5.out.2.2.2.1.setCell (by simp) _⟩
      · rw [if_neg hc] at hans
        have hcb : ((pc k g).2 == 0) = false := by rw [beq_eq_false_iff_ne]; exact hc
        generalize (pc k g).1 = nx at *
        generalize (pc k g).2 = cc at *
        subst hans
        have HP := Lib.hid hP
        clear hjs hP hm
        go_wp2_with fail
        refine HP.out.mono ?_
        rintro e w2 ⟨y2, rfl, ho2, hB2⟩
        obtain ⟨A2, c2, rfl⟩ := own_slice ho2
        have hb3 := (Below.refl _ w2).alloc (Nat.le_refl _) (.cells #[.slice A2 nx.length c2] 26)
        have HJ3 := Lib.hid (jst_kept (jst_kept HJ.out hB2) hb3)
        obtain ⟨x0, x1⟩ := HJ3.out.2.2.1.cell
        clear hB2 ho2 hb3
        go_wp2_with fail
        refine bodyPost_ret (v := .tuple #[.agg #[.slice none 0 0], .int .i64 cc]) (by simp [results, Try.results70, go_sem, x0]) rfl ⟨_, rfl, World.ownsRow_nil _ _ _ _, HJ3.out.2.2.2.1.setCell (by simp) _⟩
    · obtain rfl : k = n := by omega
      rw [Nat.sub_self, jpF] at hans
      subst hans
      clear hjs
      go_wp2_with fail
      refine bodyPost_ret (v := .tuple #[.agg #[.slice Ag g.length cg], .int .i64 0]) (by simp [results, Try.results70, go_sem, r0]) rfl ⟨_, rfl, ?_, HJ.out.2.2.2.1.setCell (by simp) _⟩
      exact own_lower (own_setLow HJ.out.1 _ _ (by simp)) (by omega)
end Go.Proofs.Ytlgpleeanmeenaa
namespace Go.Proofs.Ytlgpleeanmeenaa
open Go.RowKit
open Wd
set_option linter.unusedVariables false
set_option maxRecDepth 100000 in
set_option maxHeartbeats 6400000 in
theorem rgPiece_any (p gf c n k : Nat) (x : Ru) (g one : List Rl) (v : Value) (ans : List Rl × Int) (W : World) (hvp : W.cell? ⟨p, 0, none⟩ = some (.slice (some ⟨gf, 0, none⟩) n c)) (hk : k < n)
    (a0 : W.cell? ⟨gf, k * 2, none⟩ = some (.string x.L)) (a1 : W.cell? ⟨gf, k * 2 + 1, none⟩ = some (.int .i64 x.l)) (hr : RulesC W v g)
    (hpl : ∀ W', Calls Try.prog 24 #[.string x.L] W' fun e w' => ∃ y, e = .returned (.tuple #[.agg #[y], .int .i64 0]) ∧ OwnsR w' W'.heap.size y one ∧ Below W'.heap.size W' w')
    (hpw : ∀ v W', Rules W' v one → Calls Try.prog 98 #[.agg #[v], .int .i64 x.l] W' fun e w' => ∃ y, e = .returned (.tuple #[.agg #[y], .int .i64 ans.2]) ∧ OwnsR w' W'.heap.size y ans.1 ∧ Below W'.heap.size W' w') :
    Calls Try.prog 97 #[.int .i64 k, .agg #[v], .pointer (some ⟨p, 0, none⟩)] W fun e w' => ∃ y, e = .returned (.tuple #[.agg #[y], .int .i64 ans.2]) ∧ OwnsR w' W.heap.size y ans.1 ∧ Below W.heap.size W w' := by
  obtain ⟨A, cg, rfl, _⟩ := hr.1
  have hb2 : Below W.heap.size W ((W.alloc (.cells #[.slice A g.length cg] 26)).alloc (.cells #[.slice none 0 0] 26)) := ((Below.refl _ W).alloc (Nat.le_refl _) _).alloc (by simp) _
  have hv : Var ((W.alloc (.cells #[.slice A g.length cg] 26)).alloc (.cells #[.slice none 0 0] 26)) (W.heap.size + 1) (.slice none 0 0) 26 := by
    have := Var.new (W.alloc (.cells #[.slice A g.length cg] 26)) (.slice none 0 0) 26
    rwa [show (W.alloc (.cells #[.slice A g.length cg] 26)).heap.size = W.heap.size + 1 from by simp] at this
  have p2 := (hb2.cell (p := ⟨p, 0, none⟩) (lt_of_cell hvp)).trans hvp
  have c0 := (hb2.cell (p := ⟨gf, k * 2, none⟩) (lt_of_cell a0)).trans a0
  have c1 := (hb2.cell (p := ⟨gf, k * 2 + 1, none⟩) (lt_of_cell a1)).trans a1
  have HB2 := Lib.hid hb2
  have HV2 := Lib.hid hv
  have k0 : (0 : Int) ≤ (k : Int) := by omega
  have k1 : (k : Int) < (n : Int) := by omega
  have hsz : W.heap.size + 1 < ((W.alloc (.cells #[.slice A g.length cg] 26)).alloc (.cells #[.slice none 0 0] 26)).heap.size := hv.lt
  have HPL := Lib.hid hpl
  have HPW := Lib.hid hpw
  have HC := Lib.hid (fun W' (h : Below ((W.alloc (.cells #[.slice A g.length cg] 26)).alloc (.cells #[.slice none 0 0] 26)).heap.size ((W.alloc (.cells #[.slice A g.length cg] 26)).alloc (.cells #[.slice none 0 0] 26)) W') => And.intro ((h.cell (p := ⟨p, 0, none⟩) (lt_of_cell p2)).trans p2) ((h.cell (p := ⟨gf, k * 2 + 1, none⟩) (lt_of_cell c1)).trans c1))
  have hpl0 : p < W.heap.size := lt_of_cell hvp
  have hgl0 : gf < W.heap.size := lt_of_cell a0
  clear hpl hpw hb2 hv a0 a1 hvp hr
  go_enter Try.func97, Try.ntmps97
  go_wp2_with fail
  generalize (W.alloc (.cells #[.slice A g.length cg] 26)).alloc (.cells #[.slice none 0 0] 26) = w2 at *
  refine (HPL.out _).mono ?_
  rintro e w3 ⟨y, rfl, ho, hB3⟩
  obtain ⟨Ay, cy, rfl⟩ := own_slice ho
  have hb4 := (Below.refl _ w3).alloc (Nat.le_refl _) (.cells #[.slice Ay one.length cy] 26)
  have hb24 := hB3.trans (hb4.mono hB3.size)
  have HV4 := Lib.hid (HV2.out.kept hb24)
  have HB4 := Lib.hid (HB2.out.trans (hb24.mono HB2.out.size))
  obtain ⟨d0, d1⟩ := HC.out _ hb24
  have HO4 := Lib.hid ((Rules.of_own ho).kept hb4)
  have q4 := (Var.new w3 (.slice Ay one.length cy) 26).cell.1
  have hqs : W.heap.size + 1 < w3.heap.size := by have := hB3.size; omega
  clear hB3 ho hb4 hb24 p2 c0 c1
  go_wp2_with fail
  obtain ⟨Q, hQ⟩ : ∃ Q, Q = w3.heap.size := ⟨_, rfl⟩
  rw [← hQ] at q4 ⊢
  generalize w3.alloc (.cells #[.slice Ay one.length cy] 26) = w4 at *
  have HPW4 := Lib.hid (HPW.out _ w4.drew (HO4.out.kept (Below.refl _ w4).drew))
  have hn1 : p ≠ W.heap.size + 1 := by omega
  have hn2 : gf ≠ W.heap.size + 1 := by omega
  have hn3 : Q ≠ W.heap.size + 1 := by omega
  clear hQ
  have HX4 := Lib.hid (fun W' (h : Below w4.heap.size w4 W') => And.intro ((h.cell (p := ⟨p, 0, none⟩) (lt_of_cell d0)).trans d0) (And.intro ((h.cell (p := ⟨gf, k * 2 + 1, none⟩) (lt_of_cell d1)).trans d1) ((h.cell (p := ⟨Q, 0, none⟩) (lt_of_cell q4)).trans q4)))
  go_region_held3 (fun w' => w'.cell? ⟨p, 0, none⟩ = some (.slice (some ⟨gf, 0, none⟩) n c) ∧ w'.cell? ⟨gf, k * 2 + 1, none⟩ = some (.int .i64 x.l) ∧ w'.cell? ⟨Q, 0, none⟩ = some (.slice Ay one.length cy))
    (first | with_reducible exact HX4.out _ HB5.out | exact ⟨cell_far1 (HX4.out _ HB5.out).1 hn1, cell_far1 (HX4.out _ HB5.out).2.1 hn2, cell_far1 (HX4.out _ HB5.out).2.2 hn3⟩ | go_keep)
    ((go_at_call 98; refine (HPW4.out).mono ?_; rintro e w5 ⟨y5, rfl, ho5, hB5⟩; obtain ⟨A5, c5, rfl⟩ := own_slice ho5; have HB5 : Hid (Below w4.heap.size w4 w5) := Lib.hid ((Below.refl _ w4).drew.trans hB5); have HO5 := Lib.hid ho5; have HV5 := Lib.hid (HV4.out.kept HB5.out); obtain ⟨x0, x1⟩ := HV5.out.cell; clear ho5 hB5))
  all_goals
    have hds : w4.drew.heap.size = w4.heap.size := rfl
    have hs4 : W.heap.size + 1 < w4.heap.size := HV4.out.lt
    have HB6 := Lib.hid (HB4.out.trans (HB5.out.mono HB4.out.size))
    have HNE : Hid ((Value.slice A5 ans.1.length c5).ownBlock ≠ some (W.heap.size + 1)) := Lib.hid (fun e => by have := (HO5.out.lt _ e).1; omega)
    have HO := Lib.hid (own_lower HO5.out (show W.heap.size ≤ w4.drew.heap.size by omega))
    go_wp2_with fail
    refine bodyPost_ret (v := .tuple #[.agg #[.slice A5 ans.1.length c5], .int .i64 ans.2]) (by simp [results, Try.results97, go_sem, x0]) rfl ⟨_, rfl, ?_, HB6.out.setCell (by simp) _⟩
    exact World.ownsRow.kept HO.out (only_setCell (World.grownBy.refl w5 (some (W.heap.size + 1))) (p := ⟨W.heap.size + 1, 0, none⟩) (.inl rfl) _) (.inr HNE.out)
end Go.Proofs.Ytlgpleeanmeenaa
namespace Go.Proofs.Ytlgpleeanmeenaa
open Go.RowKit
open Wd
set_option linter.unusedVariables false

/-- the variable with the rules so far -/
def PwSt (w : World) (V r : Nat) (rs : List Rl) (yv : Value) (wr : World) : Prop :=
  wr.ownsRow (w.heap.size + 2) 146 3 yv rs.length (rv rs) ∧ Var wr V yv 26 ∧ Var wr r (.slice none 0 0) 26 ∧ Below w.heap.size w wr ∧ w.heap.size + 2 ≤ wr.heap.size
theorem pst_grown {w wr w5 : World} {V r : Nat} {rs : List Rl} {yv v' : Value} {x : Rl} {o : Obj} (hVw : w.heap.size ≤ V) (hrV : r ≠ V) (h : PwSt w V r rs yv wr)
    (hown : w5.ownsRow (w.heap.size + 2) 146 3 v' (rs.length + 1) (rv rs ++ rc x)) (hg : (wr.alloc o).grownBy w5 yv.ownBlock) :
    (Var w5 V yv 26) ∧ PwSt w V r (rs ++ [x]) v' (w5.setCell ⟨V, 0, none⟩ v') := by
  obtain ⟨h1, h2, h3, h4, h5⟩ := h
  have n1 := own_var_ne h1 h2 (by decide)
  have n2 := own_var_ne h1 h3 (by decide)
  have k2 : Var w5 V yv 26 := (hg.block V (by have := h2.lt; simp; omega) (fun e => n1 e.symm)).trans (h2.kept ((Below.refl _ wr).alloc (Nat.le_refl _) o))
  have k3 : Var w5 r (.slice none 0 0) 26 := (hg.block r (by have := h3.lt; simp; omega) (fun e => n2 e.symm)).trans (h3.kept ((Below.refl _ wr).alloc (Nat.le_refl _) o))
  have n3 := own_var_ne hown k2 (by decide)
  have hB5 : Below w.heap.size w w5 := (h4.alloc h4.size o).grown hg (by have := h4.size; simp; omega) (fun q hq => by have := (h1.lt q hq).1; omega)
  refine ⟨k2, ?_, ?_, k3.far _ _ (by simpa using hrV), hB5.setCell (by simpa using hVw) _, ?_⟩
  · have := World.ownsRow.kept hown (only_setCell (World.grownBy.refl w5 (some V)) (p := ⟨V, 0, none⟩) (.inl rfl) v') (.inr n3)
    rw [List.length_append, rv_app, rv_one]
    exact this
  · have h7 := k2
    unfold Var at h7 ⊢
    simp [World.setCell, Array.getElem?_modify, h7]
  · have : w5.heap.size ≤ (w5.setCell ⟨V, 0, none⟩ v').heap.size := by simp [World.setCell]
    have h6 := hg.size
    simp at h6
    omega
theorem div_cast (t k : Nat) : ((t / 2 ^ k : Nat) : Int) = (t : Int) / 2 ^ k := by rw [Int.natCast_ediv, Int.natCast_pow]; rfl
theorem powG_few {gs : List Rl} {t : Nat} (h : gOk gs = true) (ht : t ≤ 1000000000000000) : FewR (powG gs t) := by
  unfold FewR powG
  rw [powFrom_sum]
  have h1 := gOk_len h
  have h2 := sum_ok h
  have h3 := powFrom_len t (gs.length - 1) (Lib.bitLen t - 1) gs
  have h4 := bitLen_bd ht
  omega
/-- what holds between two digits -/
def DigRel (gs : List Rl) (t : Nat) (w : World) (V r : Nat) (i : Value) (wr : World) : Prop :=
  ∃ (m : Nat) (v : Int) (rs : List Rl) (yv : Value), i = .int .i64 v ∧ v + 1 = m ∧ m ≤ 50 ∧ PwSt w V r rs yv wr ∧ powFrom t (gs.length - 1) m rs = powG gs t ∧ rs.length + 2 * m ≤ 600 ∧ 1 ≤ rs.length

set_option maxRecDepth 100000 in
set_option maxHeartbeats 12800000 in
theorem specPower_ok (v : Value) (gs : List Rl) (t : Nat) (w : World) (hf : FewR gs) (hr : Rules w v gs) (hok : gOk gs = true) (ht0 : 0 < t) (ht1 : t ≤ 1000000000000000) (hg0 : 0 < gs.length) :
    Calls Try.prog 96 #[.agg #[v], .int .i64 t] w fun e w' => ∃ y, e = .returned (.tuple #[.agg #[y], .int .i64 (limC (powG gs t))]) ∧ OwnsR w' w.heap.size y (limG (powG gs t)) ∧ Below w.heap.size w w' := by
  obtain ⟨i0, hi, hz0, hz1, hz2⟩ := info_parts Try.info_rule
  have hb : Below w.heap.size w ((w.alloc (.cells #[v] 26)).alloc (.cells #[.slice none 0 0] 26)) := ((Below.refl _ w).alloc (Nat.le_refl _) _).alloc (by simp) _
  have hg : GP ((w.alloc (.cells #[v] 26)).alloc (.cells #[.slice none 0 0] 26)) w.heap.size gs := (rules_gpT hr 26).kept ((Below.refl _ _).alloc (Nat.le_refl _) _)
  have hv0 : Var ((w.alloc (.cells #[v] 26)).alloc (.cells #[.slice none 0 0] 26)) w.heap.size v 26 := (Var.new w v 26).kept ((Below.refl _ _).alloc (Nat.le_refl _) _)
  have hvr : Var ((w.alloc (.cells #[v] 26)).alloc (.cells #[.slice none 0 0] 26)) (w.heap.size + 1) (.slice none 0 0) 26 := by
    have := Var.new (w.alloc (.cells #[v] 26)) (.slice none 0 0) 26
    rwa [show (w.alloc (.cells #[v] 26)).heap.size = w.heap.size + 1 from by simp] at this
  have h1 := l02Ok_any w.heap.size gs _ hf hg
  have HPF := Lib.hid (powG_few hok ht1)
  have hn := gOk_len hok
  have HFW := Lib.hid hf
  obtain ⟨A, c, rfl, _⟩ := hr
  have HB := Lib.hid hb
  have HG := Lib.hid hg
  have HV0 := Lib.hid hv0
  have HVR := Lib.hid hvr
  rw [hok] at h1
  have H1 := Lib.hid h1
  have HIN := Lib.hid (fun W => in_any (t : Int) 0 1000000000000000 W)
  have hdec : (decide ((0 : Int) ≤ (t : Int)) && decide ((t : Int) ≤ 1000000000000000)) = true := by simp; omega
  rw [hdec] at HIN
  have ht2 : ((t : Int) == 0) = false := by rw [beq_eq_false_iff_ne]; omega
  have hg2 : ((gs.length : Int) == 0) = false := by rw [beq_eq_false_iff_ne]; omega
  have hbl1 := bitLen_pos ht1 ht0
  have hbl2 := bitLen_bd ht1
  have HBI := Lib.hid (fun k => bitLen_iff (t := t) (k := k) ht1)
  have HPG : Hid (powFrom t (gs.length - 1) (Lib.bitLen t - 1) gs = powG gs t) := Lib.hid rfl
  generalize Lib.bitLen t = nb at *
  clear h1 hok hb hg hv0 hvr hdec
  go_enter Try.func96, Try.ntmps96
  go_wp2_with fail
  refine H1.out.mono ?_
  rintro e w1 ⟨rfl, hB1⟩
  have HG1 := Lib.hid (HG.out.kept hB1)
  have HV1 := Lib.hid (HV0.out.kept hB1)
  have HR1 := Lib.hid (HVR.out.kept hB1)
  have hv1 := HV1.out.cell.1
  have HB1 := Lib.hid (HB.out.trans (hB1.mono (by simp; omega)))
  clear hB1
  go_wp2_with fail
  refine (HIN.out _).mono ?_
  rintro e w2 ⟨rfl, rfl⟩
  go_wp2_with fail
  refine (own_any w.heap.size gs _ (by omega) HG1.out).mono ?_
  rintro e w3 ⟨y, rfl, ho, hB3⟩
  have HO3 := Lib.hid ho
  obtain ⟨Ay, cy, rfl⟩ := own_slice ho
  have hv3 := (HV1.out.kept hB3).cell.1
  have hs3 := (HV1.out.kept hB3).lt
  have HR3 := Lib.hid (HR1.out.kept hB3)
  have HB3 := Lib.hid (HB1.out.trans (hB3.mono HB1.out.size))
  have hs1 : w.heap.size + 1 < w1.heap.size := HR1.out.lt
  have hsz3 : w.heap.size + 2 ≤ w3.heap.size := by have := hB3.size; omega
  have hb3 := (Below.refl _ w3).alloc (Nat.le_refl _) (.cells #[.slice Ay gs.length cy] 26)
  have hst : DigRel gs t w w3.heap.size (w.heap.size + 1) (.int .i64 ((nb : Int) - 2)) (w3.alloc (.cells #[.slice Ay gs.length cy] 26)) :=
    ⟨nb - 1, (nb : Int) - 2, gs, .slice Ay gs.length cy, rfl, by omega, by omega, ⟨own_lower (own_below HO3.out hb3 (Nat.le_refl _)) (by omega), Var.new _ _ _, HR3.out.kept hb3, HB3.out.trans (hb3.mono HB3.out.size), by simp; omega⟩, HPG.out, by omega, hg0⟩
  have HST := Lib.hid hst
  have hv4 : (w3.alloc (.cells #[.slice Ay gs.length cy] 26)).cell? ⟨w.heap.size, 0, none⟩ = some (.slice A gs.length c) := (hb3.cell (p := ⟨w.heap.size, 0, none⟩) hs3).trans hv3
  clear hB3 ho hst hb3 hs1
  go_wp2_with fail
  obtain ⟨V, hV⟩ : ∃ V, V = w3.heap.size := ⟨_, rfl⟩
  rw [← hV] at HST ⊢
  have hVw : w.heap.size + 2 ≤ V := by omega
  generalize w3.alloc (.cells #[.slice Ay gs.length cy] 26) = w4 at *
  clear hV hs3 hv3 hsz3
  go_loop [8] (fun d => ∃ k : Nat, k ≤ nb ∧ d = .int .i64 k) (fun d => 60 - (intOf d).toNat)
  case atStart => exact ⟨0, by omega, rfl⟩
  case round =>
    obtain ⟨k, hk, rfl⟩ := hrel
    by_cases hz : t / 2 ^ k = 0
    · have hkn : k = nb := by have := (HBI.out k).1 hz; omega
      have hle : (t : Int) / 2 ^ k ≤ 0 := by rw [← div_cast, hz]; exact Int.le_refl _
      subst hkn
      clear hz
      go_wp2_with fail
      go_loopw [9, 10] (fun i _ wr => DigRel gs t w V (w.heap.size + 1) i wr) (fun i _ _ => ((intOf i) + 1).toNat)
      case atStart => exact HST.out
      case round =>
        obtain ⟨m, vv, rs, yv, rfl, hvm, hm, hps, hpow, hlen, h1⟩ := hrel
        obtain ⟨wo, rfl⟩ : ∃ wo : World, wo = wr := ⟨_, rfl⟩
        have HPS := Lib.hid hps
        have HPW := Lib.hid hpow
        obtain ⟨A2, c2, rfl⟩ := own_slice hps.1
        have vc := hps.2.1.cell
        obtain ⟨vc1, vc2⟩ := vc
        clear hps hpow
        by_cases hm0 : m = 0
        · subst hm0
          obtain rfl : vv = -1 := by omega
          have hfr : FewR rs := (show rs = powG gs t from HPW.out) ▸ HPF.out
          have HRS : Hid (rs = powG gs t) := Lib.hid HPW.out
          go_wp2_with fail
          have hT := told_any (.slice A2 rs.length c2) rs wo hfr (Rules.of_own HPS.out.1)
          have hlo := lim_own HPS.out.1
          have hne : (limV rs (.slice A2 rs.length c2)).ownBlock ≠ some (w.heap.size + 1) := by
            intro hq
            unfold limV at hq
            split at hq
            · have := (HPS.out.1.lt _ hq).1; omega
            · cases hq
          obtain ⟨Al, cl, hl⟩ := own_slice hlo
          rw [hl] at hT hlo hne
          have HLO := Lib.hid hlo
          have HT := Lib.hid hT
          have HNE := Lib.hid hne
          clear hT hlo hl hne
          refine HT.out.mono ?_
          rintro e w5 ⟨rfl, hB5⟩
          have hP5 := HPS.out
          obtain ⟨q1, q2, q3, q4, q5⟩ := hP5
          obtain ⟨x0, x1⟩ := (q3.kept hB5).cell
          have HO5 := Lib.hid (own_lower (own_below HLO.out hB5 (Nat.le_refl _)) (show w.heap.size ≤ w.heap.size + 2 by omega))
          have HB5 := Lib.hid (q4.trans (hB5.mono (by omega)))
          clear q1 q2 q3 q4 q5 hB5
          go_wp2_with fail
          have hrs := HRS.out
          refine bodyPost_ret (v := .tuple #[.agg #[.slice Al (limG rs).length cl], .int .i64 (limC rs)]) (by simp [results, Try.results96, go_sem, x0]) rfl ⟨_, by rw [← hrs], ?_, HB5.out.setCell (by simp) _⟩
          rw [← hrs]
          exact World.ownsRow.kept HO5.out (only_setCell (World.grownBy.refl w5 (some (w.heap.size + 1))) (p := ⟨w.heap.size + 1, 0, none⟩) (.inl rfl) _) (.inr HNE.out)
        · obtain ⟨m', rfl⟩ : ∃ m', m = m' + 1 := ⟨m - 1, by omega⟩
          obtain rfl : vv = (m' : Int) := by omega
          have hbit : bits .and .i64 ((t : Int) / 2 ^ m') 1 = (if bitOf t m' then 1 else 0 : Int) := by rw [← div_cast]; exact bit_and t m' ht1
          obtain ⟨X, hX⟩ : ∃ X : Rl, X = ⟨⟨#[]⟩, (rs.length : Int) - 1, (rs.length : Int) - 1⟩ := ⟨_, rfl⟩
          have hXp : X = pairR (rs.length - 1) (rs.length - 1) := by rw [hX]; unfold pairR; congr 1 <;> omega
          have hXc : rc X = [.string ⟨#[]⟩, .int .i64 ((rs.length : Int) - 1), .int .i64 ((rs.length : Int) - 1)] := by rw [hX]; rfl
          have HN1 := Lib.hid (news3 wo X 146)
          have HX := Lib.hid hX
          have HXP := Lib.hid hXp
          have HG1' : Hid _ := Lib.hid (fun v' w5 o h1 h2 => pst_grown (w5 := w5) (v' := v') (x := X) (o := o) (show w.heap.size ≤ V by omega) (show w.heap.size + 1 ≠ V by omega) HPS.out h1 h2)
          rw [hX] at HN1
          have HXC := Lib.hid hXc
          have hbs : w.heap.size + 2 ≤ wo.heap.size := HPS.out.2.2.2.2
          clear hX hXp hXc
          cases hbv : bitOf t m'
          all_goals
            rw [hbv] at hbit
            have HBV := Lib.hid hbv
            clear hbv
            go_wp2_with (first | (at_builtin; refine wpList_append_own _ rfl _ _ 24 rfl (w.heap.size + 2) 146 i0 (.agg #[.string ⟨#[]⟩, .int .i64 0, .int .i64 0]) 3 32 Try.underlying24 hi hz0 hz1 hz2 rfl (by decide) _ _ _ rfl (World.ownsRow.alloc HPS.out.1 _) ⟨wo.heap.size, 0, none⟩ 1 1 (rc X) rfl rfl (by rw [HXC.out]; exact HN1.out) (rc_cell _) (by unfold maxLen; omega) (by omega) (by simp; omega) ?_))
            intro v' w5 hown' hgrow _
            obtain ⟨A3, c3, rfl⟩ := own_slice hown'
            obtain ⟨k2, hp2⟩ := HG1'.out _ _ _ hown' hgrow
            obtain ⟨x0, x1⟩ := k2.cell
            obtain ⟨y0, y1⟩ := hp2.2.1.cell
            have HP2 := Lib.hid hp2
            clear hp2 k2 hown' hgrow
          · go_wp2_with fail
            go_round
            case rel =>
              refine ⟨m', (m' : Int) - 1, rs ++ [X], .slice A3 (rs.length + 1) c3, rfl, by omega, by omega, HP2.out, ?_, by simp; omega, by simp⟩
              have := HPW.out
              rw [powFrom, HBV.out] at this
              rw [HXP.out]
              exact this
            case measure => (first | (simp [intOf]; done) | (simp [intOf]; omega))
          · obtain ⟨Y, hY⟩ : ∃ Y : Rl, Y = ⟨⟨#[]⟩, (rs.length : Int), (gs.length : Int) - 1⟩ := ⟨_, rfl⟩
            have HY := Lib.hid hY
            have hYc : rc Y = [.string ⟨#[]⟩, .int .i64 (rs.length : Int), .int .i64 ((gs.length : Int) - 1)] := by rw [hY]; rfl
            have HYC := Lib.hid hYc
            have hO6 := HP2.out.1
            have hB6 := HP2.out.2.2.2.2
            rw [show (w5.setCell ⟨V, 0, none⟩ (.slice A3 (rs.length + 1) c3)).heap.size = w5.heap.size from by simp [World.setCell]] at hB6
            rw [List.length_append, show [X].length = 1 from rfl] at hO6
            have HO6 := Lib.hid hO6
            have hnw := news3 (w5.setCell ⟨V, 0, none⟩ (.slice A3 (rs.length + 1) c3)) Y 146
            rw [hY, show (w5.setCell ⟨V, 0, none⟩ (.slice A3 (rs.length + 1) c3)).heap.size = w5.heap.size from by simp [World.setCell]] at hnw
            have hG2 := Lib.hid (fun v' w7 o h1 h2 => pst_grown (w5 := w7) (v' := v') (x := Y) (o := o) (show w.heap.size ≤ V by omega) (show w.heap.size + 1 ≠ V by omega) HP2.out h1 h2)
            have HNW := Lib.hid hnw
            clear hY hYc hO6 hnw
            go_wp2_with (first | (at_builtin; go_loud (refine wpList_append_own _ rfl _ _ 24 rfl (w.heap.size + 2) 146 i0 (.agg #[.string ⟨#[]⟩, .int .i64 0, .int .i64 0]) 3 32 Try.underlying24 hi hz0 hz1 hz2 rfl (by decide) _ _ _ rfl (World.ownsRow.alloc HO6.out _) _ 1 1 (rc Y) rfl rfl (by rw [HYC.out]; exact HNW.out) (rc_cell _) (by unfold maxLen; omega) (by omega) (by simp; omega) ?_)))
            intro v' w7 hown' hgrow _
            obtain ⟨A4, c4, rfl⟩ := own_slice hown'
            obtain ⟨k2, hp3⟩ := hG2.out _ _ _ (by rw [List.length_append]; exact hown') hgrow
            obtain ⟨x2, x3⟩ := k2.cell
            have HP3 := Lib.hid hp3
            clear hp3 k2 hown' hgrow
            go_wp2_with fail
            go_round
            case rel =>
              refine ⟨m', (m' : Int) - 1, rs ++ [X] ++ [Y], .slice A4 (rs.length + 1 + 1) c4, rfl, by omega, by omega, HP3.out, ?_, by simp; omega, by simp⟩
              have := HPW.out
              rw [powFrom, HBV.out] at this
              rw [HXP.out, List.append_assoc, show Y = pairR rs.length (gs.length - 1) from by rw [HY.out]; unfold pairR; congr 1; omega]
              exact this
            case measure => (first | (simp [intOf]; done) | (simp [intOf]; omega))
    · have hgt : 0 < (t : Int) / 2 ^ k := by rw [← div_cast]; exact Int.natCast_pos.2 (Nat.pos_of_ne_zero hz)
      have hkn : k < nb := by
        rcases Nat.lt_or_ge k nb with h | h
        · exact h
        · exact absurd ((HBI.out k).2 h) hz
      clear hz
      go_wp2_with fail
      go_round
      case rel => exact ⟨k + 1, hkn, by go_num⟩
      case measure => simp [intOf]; omega
end Go.Proofs.Ytlgpleeanmeenaa
namespace Go.Proofs.Ytlgpleeanmeenaa
open Go.RowKit
open Wd
set_option linter.unusedVariables false

/-- the rules so far, in a slot -/
def ISt (w : World) (G0 : Value) (rs : List Rl) (yv : Value) (wr : World) : Prop :=
  wr.ownsRow (w.heap.size + 2) 146 3 yv rs.length (rv rs) ∧ Var wr w.heap.size G0 26 ∧ Var wr (w.heap.size + 1) (.slice none 0 0) 26 ∧ Below w.heap.size w wr ∧ w.heap.size + 2 ≤ wr.heap.size
theorem ist_kept {w wr w1 : World} {G0 yv : Value} {rs : List Rl} (h : ISt w G0 rs yv wr) (hb : Below wr.heap.size wr w1) : ISt w G0 rs yv w1 := by
  obtain ⟨h1, h2, h3, h4, h5⟩ := h
  exact ⟨own_below h1 hb (Nat.le_refl _), h2.kept hb, h3.kept hb, h4.trans (hb.mono h4.size), by have := hb.size; omega⟩
theorem ist_grown {w wr w5 : World} {G0 yv v' : Value} {rs : List Rl} {x : Rl} {o : Obj} (h : ISt w G0 rs yv wr)
    (hown : w5.ownsRow (w.heap.size + 2) 146 3 v' (rs.length + 1) (rv rs ++ rc x)) (hg : (wr.alloc o).grownBy w5 yv.ownBlock) : ISt w G0 (rs ++ [x]) v' w5 := by
  obtain ⟨h1, h2, h3, h4, h5⟩ := h
  have n1 := own_var_ne h1 h2 (by decide)
  have n2 := own_var_ne h1 h3 (by decide)
  have k2 : Var w5 w.heap.size G0 26 := (hg.block w.heap.size (by have := h2.lt; simp; omega) (fun e => n1 e.symm)).trans (h2.kept ((Below.refl _ wr).alloc (Nat.le_refl _) o))
  have k3 : Var w5 (w.heap.size + 1) (.slice none 0 0) 26 := (hg.block (w.heap.size + 1) (by have := h3.lt; simp; omega) (fun e => n2 e.symm)).trans (h3.kept ((Below.refl _ wr).alloc (Nat.le_refl _) o))
  have hB5 : Below w.heap.size w w5 := (h4.alloc h4.size o).grown hg (by have := h4.size; simp; omega) (fun q hq => by have := (h1.lt q hq).1; omega)
  refine ⟨?_, k2, k3, hB5, ?_⟩
  · rw [List.length_append, rv_app, rv_one]; exact hown
  · have h6 := hg.size
    simp at h6
    omega
/-- what holds between two digits -/
def DigI (gs : List Rl) (t : Nat) (w : World) (G0 : Value) (yv i : Value) (wr : World) : Prop :=
  ∃ (m : Nat) (v : Int) (rs : List Rl), i = .int .i64 v ∧ v + 1 = m ∧ m ≤ 50 ∧ ISt w G0 rs yv wr ∧ powFrom t (gs.length - 1) m rs = powG gs t ∧ rs.length + 2 * m ≤ 600 ∧ 1 ≤ rs.length

set_option maxRecDepth 100000 in
set_option maxHeartbeats 12800000 in
theorem implPower_ok (v : Value) (gs : List Rl) (t : Nat) (w : World) (hf : FewR gs) (hr : Rules w v gs) (hok : gOk gs = true) (ht0 : 0 < t) (ht1 : t ≤ 1000000000000000) (hg0 : 0 < gs.length) :
    Calls Try.prog 98 #[.agg #[v], .int .i64 t] w fun e w' => ∃ y, e = .returned (.tuple #[.agg #[y], .int .i64 (limC (powG gs t))]) ∧ OwnsR w' w.heap.size y (limG (powG gs t)) ∧ Below w.heap.size w w' := by
  obtain ⟨i0, hi, hz0, hz1, hz2⟩ := info_parts Try.info_rule
  have hb : Below w.heap.size w ((w.alloc (.cells #[v] 26)).alloc (.cells #[.slice none 0 0] 26)) := ((Below.refl _ w).alloc (Nat.le_refl _) _).alloc (by simp) _
  have hv0 : Var ((w.alloc (.cells #[v] 26)).alloc (.cells #[.slice none 0 0] 26)) w.heap.size v 26 := (Var.new w v 26).kept ((Below.refl _ _).alloc (Nat.le_refl _) _)
  have hvr : Var ((w.alloc (.cells #[v] 26)).alloc (.cells #[.slice none 0 0] 26)) (w.heap.size + 1) (.slice none 0 0) 26 := by
    have := Var.new (w.alloc (.cells #[v] 26)) (.slice none 0 0) 26
    rwa [show (w.alloc (.cells #[v] 26)).heap.size = w.heap.size + 1 from by simp] at this
  have h1 := implValidGrammar v gs _ hf (hr.kept hb)
  have hn := gOk_len hok
  have HPF := Lib.hid (powG_few hok ht1)
  have HRU := Lib.hid hr
  obtain ⟨A, c, rfl, _⟩ := hr
  have HB := Lib.hid hb
  have HV0 := Lib.hid hv0
  have HVR := Lib.hid hvr
  rw [hok] at h1
  have H1 := Lib.hid h1
  have ht2 : ((t : Int) == 0) = false := by rw [beq_eq_false_iff_ne]; omega
  have hg2 : ((gs.length : Int) == 0) = false := by rw [beq_eq_false_iff_ne]; omega
  have hbl1 := bitLen_pos ht1 ht0
  have hbl2 := bitLen_bd ht1
  have hL := fun W => Try.bits_Len64 (t : Int) W (by omega) (by omega)
  simp only [Int.toNat_natCast] at hL
  have HPG : Hid (powFrom t (gs.length - 1) (Lib.bitLen t - 1) gs = powG gs t) := Lib.hid rfl
  generalize Lib.bitLen t = nb at *
  have HL := Lib.hid hL
  clear h1 hok hb hv0 hvr hL
  go_enter Try.func98, Try.ntmps98
  go_wp2_with fail
  refine H1.out.mono ?_
  rintro e w1 ⟨rfl, hB1⟩
  have HV1 := Lib.hid (HV0.out.kept hB1)
  have HR1 := Lib.hid (HVR.out.kept hB1)
  have hv1 := HV1.out.cell.1
  have HB1 := Lib.hid (HB.out.trans (hB1.mono (by simp; omega)))
  have HS1 : Hid (w.heap.size + 2 ≤ w1.heap.size) := Lib.hid (by have := hB1.size; simp at this; omega)
  clear hB1
  go_wp2_with fail
  refine (clone_any (.slice A gs.length c) gs _ (by omega) (HRU.out.kept HB1.out)).mono ?_
  rintro e w3 ⟨y, rfl, ho, hB3⟩
  have HST : Hid (DigI gs t w (.slice A gs.length c) y (.int .i64 ((nb : Int) - 2)) w3) := Lib.hid
    ⟨nb - 1, (nb : Int) - 2, gs, rfl, by omega, by omega, ⟨own_lower ho (by have := HS1.out; omega), HV1.out.kept hB3, HR1.out.kept hB3, HB1.out.trans (hB3.mono HB1.out.size), by have := HS1.out; have := hB3.size; omega⟩, HPG.out, by omega, hg0⟩
  clear hB3 ho hv1
  go_wp2_with fail
  refine (HL.out _).mono ?_
  rintro e w4 ⟨rfl, rfl⟩
  go_wp2_with fail
  go_loopw [6, 7] (fun yv i wr => DigI gs t w (.slice A gs.length c) yv i wr) (fun _ i _ => ((intOf i) + 1).toNat)
  case atStart => exact HST.out
  case round =>
    obtain ⟨m, vv, rs, rfl, hvm, hm, hps, hpow, hlen, h1⟩ := hrel
    obtain ⟨wo, rfl⟩ : ∃ wo : World, wo = wr := ⟨_, rfl⟩
    have HPS := Lib.hid hps
    have HPW := Lib.hid hpow
    obtain ⟨A2, c2, hyv⟩ := own_slice hps.1
    subst hyv
    clear hps hpow
    by_cases hm0 : m = 0
    · subst hm0
      obtain rfl : vv = -1 := by omega
      have hfr : FewR rs := (show rs = powG gs t from HPW.out) ▸ HPF.out
      have HRS : Hid (rs = powG gs t) := Lib.hid HPW.out
      go_wp2_with fail
      have hT := limited_any (.slice A2 rs.length c2) rs wo hfr (Rules.of_own HPS.out.1)
      have hlo := lim_own HPS.out.1
      have hne : (limV rs (.slice A2 rs.length c2)).ownBlock ≠ some (w.heap.size + 1) := by
        intro hq
        unfold limV at hq
        split at hq
        · have := (HPS.out.1.lt _ hq).1; omega
        · cases hq
      obtain ⟨Al, cl, hl⟩ := own_slice hlo
      rw [hl] at hT hlo hne
      have HLO := Lib.hid hlo
      have HT := Lib.hid hT
      have HNE := Lib.hid hne
      clear hT hlo hl hne
      refine HT.out.mono ?_
      rintro e w5 ⟨rfl, hB5⟩
      have hP5 := HPS.out
      obtain ⟨q1, q2, q3, q4, q5⟩ := hP5
      obtain ⟨x0, x1⟩ := (q3.kept hB5).cell
      have HO5 := Lib.hid (own_lower (own_below HLO.out hB5 (Nat.le_refl _)) (show w.heap.size ≤ w.heap.size + 2 by omega))
      have HB5 := Lib.hid (q4.trans (hB5.mono (by omega)))
      clear q1 q2 q3 q4 q5 hB5
      go_wp2_with fail
      have hrs := HRS.out
      refine bodyPost_ret (v := .tuple #[.agg #[.slice Al (limG rs).length cl], .int .i64 (limC rs)]) (by simp [results, Try.results98, go_sem, x0]) rfl ⟨_, by rw [← hrs], ?_, HB5.out.setCell (by simp) _⟩
      rw [← hrs]
      exact World.ownsRow.kept HO5.out (only_setCell (World.grownBy.refl w5 (some (w.heap.size + 1))) (p := ⟨w.heap.size + 1, 0, none⟩) (.inl rfl) _) (.inr HNE.out)
    · obtain ⟨m', rfl⟩ : ∃ m', m = m' + 1 := ⟨m - 1, by omega⟩
      obtain rfl : vv = (m' : Int) := by omega
      have hbit : bits .and .i64 ((t : Int) / 2 ^ m') 1 = (if bitOf t m' then 1 else 0 : Int) := by rw [← div_cast]; exact bit_and t m' ht1
      cases hbv : bitOf t m'
      all_goals
        rw [hbv] at hbit
        have HBV := Lib.hid hbv
        clear hbv
        go_wp2_with fail
        refine (lastA A2 rs.length c2 (by omega) _).mono ?_
        rintro e w4 ⟨rfl, rfl⟩
        go_wp2_with fail
        refine (lastA A2 rs.length c2 (by omega) _).mono ?_
        rintro e w4 ⟨rfl, rfl⟩
        go_wp2_with fail
        refine (pairA ((rs.length : Int) - 1) ((rs.length : Int) - 1) _).mono ?_
        rintro e w4 ⟨rfl, hB4⟩
        have HP4 := Lib.hid (ist_kept HPS.out hB4)
        clear hB4
        obtain ⟨X, hX⟩ : ∃ X : Rl, X = ⟨⟨#[]⟩, (rs.length : Int) - 1, (rs.length : Int) - 1⟩ := ⟨_, rfl⟩
        have HXP := Lib.hid (show X = pairR (rs.length - 1) (rs.length - 1) from by rw [hX]; unfold pairR; congr 1 <;> omega)
        have HXC := Lib.hid (show rc X = [.string ⟨#[]⟩, .int .i64 ((rs.length : Int) - 1), .int .i64 ((rs.length : Int) - 1)] from by rw [hX]; rfl)
        have hnw := news3 w4 X 146
        rw [hX] at hnw
        have HNW := Lib.hid hnw
        have hbs : w.heap.size + 2 ≤ w4.heap.size := HP4.out.2.2.2.2
        clear hX hnw
        go_wp2_with (first | (at_builtin; refine wpList_append_own _ rfl _ _ 24 rfl (w.heap.size + 2) 146 i0 (.agg #[.string ⟨#[]⟩, .int .i64 0, .int .i64 0]) 3 32 Try.underlying24 hi hz0 hz1 hz2 rfl (by decide) _ _ _ rfl (World.ownsRow.alloc HP4.out.1 _) ⟨w4.heap.size, 0, none⟩ 1 1 (rc X) rfl rfl (by rw [HXC.out]; exact HNW.out) (rc_cell _) (by unfold maxLen; omega) (by omega) (by simp; omega) ?_))
        intro v' w5 hown' hgrow _
        obtain ⟨A3, c3, rfl⟩ := own_slice hown'
        have HP5 := Lib.hid (ist_grown (x := X) HP4.out hown' hgrow)
        have x5 := HP5.out.2.1.cell.1
        clear hown' hgrow
        go_wp2_with fail
      · go_roundw
        case rel =>
          refine ⟨m', (m' : Int) - 1, rs ++ [X], rfl, by omega, by omega, HP5.out, ?_, by simp; omega, by simp⟩
          have := HPW.out
          rw [powFrom, HBV.out] at this
          rw [HXP.out]
          exact this
        case measure => (first | (simp [intOf]; done) | (simp [intOf]; omega))
      · obtain ⟨Y, hY⟩ : ∃ Y : Rl, Y = ⟨⟨#[]⟩, (rs.length : Int), (gs.length : Int) - 1⟩ := ⟨_, rfl⟩
        have HYP := Lib.hid (show Y = pairR rs.length (gs.length - 1) from by rw [hY]; unfold pairR; congr 1; omega)
        have HYC := Lib.hid (show rc Y = [.string ⟨#[]⟩, .int .i64 (rs.length : Int), .int .i64 ((gs.length : Int) - 1)] from by rw [hY]; rfl)
        have HP6 := Lib.hid (ist_kept HP5.out (Below.refl _ _).drew)
        have HL6 := Lib.hid (show (rs ++ [X]).length = rs.length + 1 by simp)
        have HY := Lib.hid hY
        clear hY
        go_region_held3 (fun w' => w'.cell? ⟨w.heap.size, 0, none⟩ = some (.slice A gs.length c)) (first | assumption | exact HQ7.out _ | exact x8 | go_keep) ((first
          | (go_at_call 119; refine (lastA _ _ _ (by omega) _).mono ?_; rintro e w6 ⟨he, rfl⟩; (try rw [show ((rs.length + 1 : Nat) : Int) - 1 = rs.length from by omega] at he); subst he)
          | (go_at_call 150
             refine (pairA _ _ _).mono ?_
             rintro e w7 ⟨rfl, hB7⟩
             have HP7 := Lib.hid (ist_kept HP6.out hB7)
             have HQ7 := Lib.hid (fun o => (ist_kept HP7.out ((Below.refl _ _).alloc (Nat.le_refl _) o)).2.1.cell.1)
             have x7 := HP7.out.2.1.cell.1
             have hnw := news3 w7 Y 146
             rw [HY.out] at hnw
             have HNW2 := Lib.hid hnw
             have hbs7 : w.heap.size + 2 ≤ w7.heap.size := HP7.out.2.2.2.2
             have hO7 := HP7.out.1
             rw [HL6.out] at hO7
             have HO7 := Lib.hid hO7
             clear hnw hO7 hB7)
          | (refine step_append_lies _ (by rfl) _ _ 24 (by rfl) (w.heap.size + 2) 146 i0 (.agg #[.string ⟨#[]⟩, .int .i64 0, .int .i64 0]) 3 32 Try.underlying24 hi hz0 hz1 hz2 (by rfl) (by decide) (.slice A3 (rs.length + 1) c3) (rs.length + 1) (rv (rs ++ [X])) (by rfl) (World.ownsRow.alloc HO7.out _) ⟨w7.heap.size, 0, none⟩ 1 1 (rc Y) (by rfl) (by rfl) (by rw [HYC.out]; exact HNW2.out) (rc_cell _) (by decide) (by unfold maxLen; omega) (by omega) (by simp; omega) (w7.heap.size + 1) (by simp) ?_
             intro g8 c8 w8 hown' hgrow _ _
             have HP8 := Lib.hid (ist_grown (x := Y) HP7.out (by rw [HL6.out]; exact hown') hgrow)
             have x8 := HP8.out.2.1.cell.1
             clear hown' hgrow)))
        go_wp2_with fail
        go_roundw
        case rel =>
          refine ⟨m', (m' : Int) - 1, rs ++ [X] ++ [Y], rfl, by omega, by omega, HP8.out, ?_, by simp; omega, by simp⟩
          have := HPW.out
          rw [powFrom, HBV.out] at this
          rw [HXP.out, List.append_assoc, HYP.out]
          exact this
        case measure => (first | (simp [intOf]; done) | (simp [intOf]; omega))
end Go.Proofs.Ytlgpleeanmeenaa
namespace Go.Proofs.Ytlgpleeanmeenaa
open Go.RowKit
open Wd
set_option linter.unusedVariables false
namespace Wd
/-- the answer -/
def gramPowerGrammar (gs : List Rl) (x : Int) : List Rl × Int :=
  if gOk gs then if 0 ≤ x ∧ x ≤ 1000000000000000 then if x = 0 ∨ gs.length = 0 then ([], 0) else (limG (powG gs x.toNat), limC (powG gs x.toNat)) else ([], 2) else ([], 1)
/-- why nothing is made -/
def PowNo (gs : List Rl) (x c : Int) : Prop := (gOk gs = false ∧ c = 1) ∨ (gOk gs = true ∧ ¬ (0 ≤ x ∧ x ≤ 1000000000000000) ∧ c = 2) ∨ (gOk gs = true ∧ (0 ≤ x ∧ x ≤ 1000000000000000) ∧ (x = 0 ∨ gs.length = 0) ∧ c = 0)
theorem pow_cases (gs : List Rl) (x : Int) : (∃ c, PowNo gs x c ∧ gramPowerGrammar gs x = ([], c)) ∨ (gOk gs = true ∧ 0 < x ∧ x ≤ 1000000000000000 ∧ 0 < gs.length ∧ gramPowerGrammar gs x = (limG (powG gs x.toNat), limC (powG gs x.toNat))) := by
  unfold gramPowerGrammar PowNo
  cases h : gOk gs
  · left; exact ⟨1, .inl ⟨rfl, rfl⟩, by simp⟩
  · by_cases h2 : 0 ≤ x ∧ x ≤ 1000000000000000
    · by_cases h3 : x = 0 ∨ gs.length = 0
      · left; exact ⟨0, .inr (.inr ⟨rfl, h2, h3, rfl⟩), by rw [if_pos rfl, if_pos h2, if_pos h3]⟩
      · right; exact ⟨rfl, by omega, h2.2, by omega, by rw [if_pos rfl, if_pos h2, if_neg h3]⟩
    · left; exact ⟨2, .inr (.inl ⟨rfl, h2, rfl⟩), by rw [if_pos rfl, if_neg h2]⟩
theorem gramPowerGrammar_len (gs : List Rl) (x : Int) (hf : FewR gs) : (gramPowerGrammar gs x).1.length ≤ 1048576 := by
  rcases pow_cases gs x with ⟨c, _, h⟩ | ⟨h1, h2, h3, h4, h⟩
  · rw [h]; simp
  · rw [h]
    show (limG _).length ≤ _
    unfold limG
    split
    · exact (powG_few h1 (by omega)).len
    · simp
end Wd

set_option maxRecDepth 100000 in
set_option maxHeartbeats 6400000 in
theorem specPower_no (v : Value) (gs : List Rl) (x c : Int) (w : World) (hf : FewR gs) (hr : Rules w v gs) (hbd : -9223372036854775808 ≤ x ∧ x ≤ 9223372036854775807) (hno : PowNo gs x c) :
    Calls Try.prog 96 #[.agg #[v], .int .i64 x] w fun e w' => e = .returned (.tuple #[.agg #[.slice none 0 0], .int .i64 c]) ∧ Below w.heap.size w w' := by
  have hb : Below w.heap.size w ((w.alloc (.cells #[v] 26)).alloc (.cells #[.slice none 0 0] 26)) := ((Below.refl _ w).alloc (Nat.le_refl _) _).alloc (by simp) _
  have hg : GP ((w.alloc (.cells #[v] 26)).alloc (.cells #[.slice none 0 0] 26)) w.heap.size gs := (rules_gpT hr 26).kept ((Below.refl _ _).alloc (Nat.le_refl _) _)
  have hv0 : Var ((w.alloc (.cells #[v] 26)).alloc (.cells #[.slice none 0 0] 26)) w.heap.size v 26 := (Var.new w v 26).kept ((Below.refl _ _).alloc (Nat.le_refl _) _)
  have hvr : Var ((w.alloc (.cells #[v] 26)).alloc (.cells #[.slice none 0 0] 26)) (w.heap.size + 1) (.slice none 0 0) 26 := by
    have := Var.new (w.alloc (.cells #[v] 26)) (.slice none 0 0) 26
    rwa [show (w.alloc (.cells #[v] 26)).heap.size = w.heap.size + 1 from by simp] at this
  have h1 := l02Ok_any w.heap.size gs _ hf hg
  have hfl := hf.len
  obtain ⟨A, cp, rfl, _⟩ := hr
  have HB := Lib.hid hb
  have HV0 := Lib.hid hv0
  have HVR := Lib.hid hvr
  have hIN := fun W => in_any x 0 1000000000000000 W
  rcases hno with ⟨hok, rfl⟩ | ⟨hok, hrg, rfl⟩ | ⟨hok, hrg, hz, rfl⟩
  · rw [hok] at h1
    have H1 := Lib.hid h1
    clear h1 hok hb hg hv0 hvr hIN
    go_enter Try.func96, Try.ntmps96
    go_wp2_with fail
    refine H1.out.mono ?_
    rintro e w1 ⟨rfl, hB1⟩
    obtain ⟨x0, x1⟩ := (HVR.out.kept hB1).cell
    have HB1 := Lib.hid (HB.out.trans (hB1.mono (by simp; omega)))
    clear hB1
    go_wp2_with fail
    refine bodyPost_ret (v := .tuple #[.agg #[.slice none 0 0], .int .i64 1]) (by simp [results, Try.results96, go_sem, x0]) rfl ⟨rfl, HB1.out.setCell (by simp) _⟩
  · rw [hok] at h1
    have H1 := Lib.hid h1
    have hd : (decide ((0 : Int) ≤ x) && decide (x ≤ 1000000000000000)) = false := by simp; omega
    simp only [hd] at hIN
    have HIN := Lib.hid hIN
    clear h1 hok hb hg hv0 hvr hIN hd hrg
    go_enter Try.func96, Try.ntmps96
    go_wp2_with fail
    refine H1.out.mono ?_
    rintro e w1 ⟨rfl, hB1⟩
    obtain ⟨x0, x1⟩ := (HVR.out.kept hB1).cell
    have HB1 := Lib.hid (HB.out.trans (hB1.mono (by simp; omega)))
    clear hB1
    go_wp2_with fail
    refine (HIN.out _).mono ?_
    rintro e w2 ⟨rfl, rfl⟩
    go_wp2_with fail
    refine bodyPost_ret (v := .tuple #[.agg #[.slice none 0 0], .int .i64 2]) (by simp [results, Try.results96, go_sem, x0]) rfl ⟨rfl, HB1.out.setCell (by simp) _⟩
  · rw [hok] at h1
    have H1 := Lib.hid h1
    have hd : (decide ((0 : Int) ≤ x) && decide (x ≤ 1000000000000000)) = true := by simp; omega
    simp only [hd] at hIN
    have HIN := Lib.hid hIN
    clear h1 hok hb hg hv0 hvr hIN hd
    by_cases hx : x = 0
    · subst hx
      clear hz hrg
      go_enter Try.func96, Try.ntmps96
      go_wp2_with fail
      refine H1.out.mono ?_
      rintro e w1 ⟨rfl, hB1⟩
      obtain ⟨x0, x1⟩ := (HVR.out.kept hB1).cell
      have HB1 := Lib.hid (HB.out.trans (hB1.mono (by simp; omega)))
      clear hB1
      go_wp2_with fail
      refine (HIN.out _).mono ?_
      rintro e w2 ⟨rfl, rfl⟩
      go_wp2_with fail
      refine bodyPost_ret (v := .tuple #[.agg #[.slice none 0 0], .int .i64 0]) (by simp [results, Try.results96, go_sem, x0]) rfl ⟨rfl, HB1.out.setCell (by simp) _⟩
    · have hg0 : gs.length = 0 := by omega
      rw [hg0] at HV0
      have hx2 : (x == 0) = false := by rw [beq_eq_false_iff_ne]; exact hx
      rw [hg0] at H1 HB HVR ⊢
      clear hz hrg hg0 hx
      go_enter Try.func96, Try.ntmps96
      go_wp2_with fail
      refine H1.out.mono ?_
      rintro e w1 ⟨rfl, hB1⟩
      obtain ⟨x0, x1⟩ := (HVR.out.kept hB1).cell
      obtain ⟨y0, y1⟩ := (HV0.out.kept hB1).cell
      have HB1 := Lib.hid (HB.out.trans (hB1.mono (by simp; omega)))
      clear hB1
      go_wp2_with fail
      refine (HIN.out _).mono ?_
      rintro e w2 ⟨rfl, rfl⟩
      go_wp2_with fail
      refine bodyPost_ret (v := .tuple #[.agg #[.slice none 0 0], .int .i64 0]) (by simp [results, Try.results96, go_sem, x0]) rfl ⟨rfl, HB1.out.setCell (by simp) _⟩
theorem specPowerGrammar (v : Value) (gs : List Rl) (x : Int) (w : World) (hf : FewR gs) (hr : Rules w v gs) (hbd : -9223372036854775808 ≤ x ∧ x ≤ 9223372036854775807) :
    Calls Try.prog 96 #[.agg #[v], .int .i64 x] w fun e w' => ∃ y, e = .returned (.tuple #[.agg #[y], .int .i64 (gramPowerGrammar gs x).2]) ∧ OwnsR w' w.heap.size y (gramPowerGrammar gs x).1 ∧ Below w.heap.size w w' := by
  rcases pow_cases gs x with ⟨c, hc, h⟩ | ⟨h1, h2, h3, h4, h⟩
  · rw [h]
    refine (specPower_no v gs x c w hf hr hbd hc).mono ?_
    rintro e w' ⟨rfl, hB⟩
    exact ⟨_, rfl, World.ownsRow_nil _ _ _ _, hB⟩
  · rw [h]
    obtain ⟨t, rfl⟩ : ∃ t : Nat, x = t := ⟨x.toNat, by omega⟩
    rw [Int.toNat_natCast]
    exact specPower_ok v gs t w hf hr h1 (by omega) (by omega) h4
set_option maxRecDepth 100000 in
set_option maxHeartbeats 6400000 in
theorem implPower_no (v : Value) (gs : List Rl) (x c : Int) (w : World) (hf : FewR gs) (hr : Rules w v gs) (hbd : -9223372036854775808 ≤ x ∧ x ≤ 9223372036854775807) (hno : PowNo gs x c) :
    Calls Try.prog 98 #[.agg #[v], .int .i64 x] w fun e w' => e = .returned (.tuple #[.agg #[.slice none 0 0], .int .i64 c]) ∧ Below w.heap.size w w' := by
  have hb : Below w.heap.size w ((w.alloc (.cells #[v] 26)).alloc (.cells #[.slice none 0 0] 26)) := ((Below.refl _ w).alloc (Nat.le_refl _) _).alloc (by simp) _
  have hv0 : Var ((w.alloc (.cells #[v] 26)).alloc (.cells #[.slice none 0 0] 26)) w.heap.size v 26 := (Var.new w v 26).kept ((Below.refl _ _).alloc (Nat.le_refl _) _)
  have hvr : Var ((w.alloc (.cells #[v] 26)).alloc (.cells #[.slice none 0 0] 26)) (w.heap.size + 1) (.slice none 0 0) 26 := by
    have := Var.new (w.alloc (.cells #[v] 26)) (.slice none 0 0) 26
    rwa [show (w.alloc (.cells #[v] 26)).heap.size = w.heap.size + 1 from by simp] at this
  have h1 := implValidGrammar v gs _ hf (hr.kept hb)
  have hfl := hf.len
  obtain ⟨A, cp, rfl, _⟩ := hr
  have HB := Lib.hid hb
  have HV0 := Lib.hid hv0
  have HVR := Lib.hid hvr
  rcases hno with ⟨hok, rfl⟩ | ⟨hok, hrg, rfl⟩ | ⟨hok, hrg, hz, rfl⟩
  · rw [hok] at h1
    have H1 := Lib.hid h1
    clear h1 hok hb hv0 hvr
    go_enter Try.func98, Try.ntmps98
    go_wp2_with fail
    refine H1.out.mono ?_
    rintro e w1 ⟨rfl, hB1⟩
    obtain ⟨x0, x1⟩ := (HVR.out.kept hB1).cell
    have HB1 := Lib.hid (HB.out.trans (hB1.mono (by simp; omega)))
    clear hB1
    go_wp2_with fail
    refine bodyPost_ret (v := .tuple #[.agg #[.slice none 0 0], .int .i64 1]) (by simp [results, Try.results98, go_sem, x0]) rfl ⟨rfl, HB1.out.setCell (by simp) _⟩
  · rw [hok] at h1
    have H1 := Lib.hid h1
    clear h1 hok hb hv0 hvr
    have hrs : x < 0 ∨ (0 ≤ x ∧ 1000000000000000 < x) := by omega
    clear hrg
    rcases hrs with hx | ⟨hx0, hx⟩
    all_goals
      go_enter Try.func98, Try.ntmps98
      go_wp2_with fail
      refine H1.out.mono ?_
      rintro e w1 ⟨rfl, hB1⟩
      obtain ⟨x0, x1⟩ := (HVR.out.kept hB1).cell
      have HB1 := Lib.hid (HB.out.trans (hB1.mono (by simp; omega)))
      clear hB1
      go_wp2_with fail
      refine bodyPost_ret (v := .tuple #[.agg #[.slice none 0 0], .int .i64 2]) (by simp [results, Try.results98, go_sem, x0]) rfl ⟨rfl, HB1.out.setCell (by simp) _⟩
  · rw [hok] at h1
    have H1 := Lib.hid h1
    clear h1 hok hb hv0 hvr
    obtain ⟨hx0, hxm⟩ := hrg
    by_cases hx : x = 0
    · subst hx
      clear hz
      go_enter Try.func98, Try.ntmps98
      go_wp2_with fail
      refine H1.out.mono ?_
      rintro e w1 ⟨rfl, hB1⟩
      obtain ⟨x0, x1⟩ := (HVR.out.kept hB1).cell
      have HB1 := Lib.hid (HB.out.trans (hB1.mono (by simp; omega)))
      clear hB1
      go_wp2_with fail
      refine bodyPost_ret (v := .tuple #[.agg #[.slice none 0 0], .int .i64 0]) (by simp [results, Try.results98, go_sem, x0]) rfl ⟨rfl, HB1.out.setCell (by simp) _⟩
    · have hg0 : gs.length = 0 := by omega
      rw [hg0] at HV0
      have hx2 : (x == 0) = false := by rw [beq_eq_false_iff_ne]; exact hx
      rw [hg0] at H1 HB HVR ⊢
      clear hz hg0 hx
      go_enter Try.func98, Try.ntmps98
      go_wp2_with fail
      refine H1.out.mono ?_
      rintro e w1 ⟨rfl, hB1⟩
      obtain ⟨x0, x1⟩ := (HVR.out.kept hB1).cell
      obtain ⟨y0, y1⟩ := (HV0.out.kept hB1).cell
      have HB1 := Lib.hid (HB.out.trans (hB1.mono (by simp; omega)))
      clear hB1
      go_wp2_with fail
      refine bodyPost_ret (v := .tuple #[.agg #[.slice none 0 0], .int .i64 0]) (by simp [results, Try.results98, go_sem, x0]) rfl ⟨rfl, HB1.out.setCell (by simp) _⟩
theorem implPowerGrammar (v : Value) (gs : List Rl) (x : Int) (w : World) (hf : FewR gs) (hr : Rules w v gs) (hbd : -9223372036854775808 ≤ x ∧ x ≤ 9223372036854775807) :
    Calls Try.prog 98 #[.agg #[v], .int .i64 x] w fun e w' => ∃ y, e = .returned (.tuple #[.agg #[y], .int .i64 (gramPowerGrammar gs x).2]) ∧ OwnsR w' w.heap.size y (gramPowerGrammar gs x).1 ∧ Below w.heap.size w w' := by
  rcases pow_cases gs x with ⟨c, hc, h⟩ | ⟨h1, h2, h3, h4, h⟩
  · rw [h]
    refine (implPower_no v gs x c w hf hr hbd hc).mono ?_
    rintro e w' ⟨rfl, hB⟩
    exact ⟨_, rfl, World.ownsRow_nil _ _ _ _, hB⟩
  · rw [h]
    obtain ⟨t, rfl⟩ : ∃ t : Nat, x = t := ⟨x.toNat, by omega⟩
    rw [Int.toNat_natCast]
    exact implPower_ok v gs t w hf hr h1 (by omega) (by omega) h4
end Go.Proofs.Ytlgpleeanmeenaa
