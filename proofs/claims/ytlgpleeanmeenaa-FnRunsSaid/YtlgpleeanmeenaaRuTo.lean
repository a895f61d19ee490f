/-
  Walks: laws.toRun, toRunS. (Turned from XGramTo by runs2.py.)
-/
import Derived.Test.YtlgpleeanmeenaaRuSz
import Derived.Test.YtlgpleeanmeenaaGramTo
namespace Go.Proofs.Ytlgpleeanmeenaa
open Go.RowKit
open Wd
set_option linter.unusedVariables false
theorem Try.info_run : (Try.prog.info? 73).map (fun i => (i.zero, i.size, i.bytes)) = some (some (.agg #[.string ⟨#[]⟩, .int .i64 0]), 2, 24) := by kernel_rfl
namespace Wd
def zu : Ru := ⟨⟨#[]⟩, 0⟩
theorem uv_set (gs : List Ru) (k : Nat) (x : Ru) (h : k < gs.length) :
    ((uv gs).set (k * 2) (.string x.L)).set (k * 2 + 1) (.int .i64 x.l) = uv (gs.set k x) := by
  induction gs generalizing k with
  | nil => simp at h
  | cons y gs ih =>
    cases k with
    | zero => rfl
    | succ k =>
      have h1 := ih k (by simpa using h)
      have e : uv (y :: gs) = .string y.L :: .int .i64 y.l :: uv gs := rfl
      have e2 : uv ((y :: gs).set (k + 1) x) = .string y.L :: .int .i64 y.l :: uv (gs.set k x) := rfl
      rw [e, e2, ← h1, show (k + 1) * 2 = k * 2 + 1 + 1 from by omega]
      simp only [List.set_cons_succ]
/-- the first k rules, and zeros behind them -/
def outU (gs : List Ru) (k : Nat) : List Ru := gs.take k ++ List.replicate (gs.length - k) zu
theorem outU_len (gs : List Ru) (k : Nat) (h : k ≤ gs.length) : (outU gs k).length = gs.length := by simp [outU]; omega
theorem outU_set (gs : List Ru) (k : Nat) (h : k < gs.length) : (outU gs k).set k gs[k] = outU gs (k + 1) := by
  unfold outU
  have h1 : (gs.take k).length = k := by simp; omega
  rw [List.set_append_right _ _ (by omega), h1, Nat.sub_self, show gs.length - k = (gs.length - (k + 1)) + 1 from by omega, List.replicate_succ, List.set_cons_zero, List.take_succ_eq_append_getElem h, List.append_assoc]
  rfl
theorem outU_zero (gs : List Ru) : outU gs 0 = List.replicate gs.length zu := by simp [outU]
theorem outU_all (gs : List Ru) : outU gs gs.length = gs := by simp [outU]
theorem outU_get (gs : List Ru) (k : Nat) (h : k < gs.length) : (outU gs k)[k]? = some zu := by
  have h1 : (gs.take k).length = k := by simp; omega
  rw [outU, List.getElem?_append_right (by omega), h1, Nat.sub_self, List.getElem?_replicate, if_pos (by omega)]
theorem made_zu (n : Nat) : (madeCells #[.string ⟨#[]⟩, .int .i64 0] (n * 2)).toList = uv (List.replicate n zu) := by
  apply List.ext_getElem
  · rw [uv_len]; simp [madeCells]
  · intro i h1 h2
    have hi : i < n * 2 := by simpa [madeCells] using h1
    have hk : i / 2 < n := by omega
    have h3 := uv_get (List.replicate n zu) (i / 2) (by simpa using hk) (i % 2) (by omega)
    rw [show i / 2 * 2 + i % 2 = i from by omega, List.getElem?_eq_getElem h2] at h3
    rw [List.getElem_replicate, show uc zu = [Value.string ⟨#[]⟩, .int .i64 0] from rfl] at h3
    have h4 : (madeCells #[.string ⟨#[]⟩, .int .i64 0] (n * 2)).toList[i] = (#[.string ⟨#[]⟩, .int .i64 0] : Array Value)[i % 2]! := by simp [madeCells]
    rw [h4]
    have h5 : i % 2 = 0 ∨ i % 2 = 1 := by omega
    rcases h5 with h5 | h5 <;> rw [h5] at h3 ⊢ <;> simpa using h3.symm
end Wd
/-- runs of the call's own -/
abbrev OwnsU (w : World) (B : Nat) (v : Value) (gs : List Ru) : Prop := w.ownsRow B 73 2 v gs.length (uv gs)
theorem own_set2u {w : World} {C e B n c : Nat} {gs : List Ru} (h : w.ownsRow C e 2 (.slice (some ⟨B, 0, none⟩) n c) n (uv gs)) (k : Nat) (hk : k < gs.length) (x : Ru) :
    ((w.setCell ⟨B, k * 2, none⟩ (.string x.L)).setCell ⟨B, k * 2 + 1, none⟩ (.int .i64 x.l)).ownsRow C e 2 (.slice (some ⟨B, 0, none⟩) n c) n (uv (gs.set k x)) := by
  have h1 := ((h.stored (k * 2) (.string x.L)).1.stored (k * 2 + 1) (.int .i64 x.l)).1
  rw [uv_set gs k x hk] at h1
  exact h1
theorem toRun_any (x : Ru) (w : World) : Calls Try.prog 90 #[agg2u x] w fun e w' => e = .returned (agg2u x) ∧ Below w.heap.size w w' := by
  obtain ⟨L, l⟩ := x
  go_enter Try.func90, Try.ntmps90
  go_wp2
  refine bodyPost_ret (v := .agg #[.string L, .int .i64 l]) (by simp [results, Try.results90, go_sem]) rfl ⟨rfl, ?_⟩
  exact (((Below.refl _ _).alloc (Nat.le_refl _) _).alloc (by simp) _).alloc (by simp; omega) _

set_option maxRecDepth 100000 in
set_option maxHeartbeats 1600000 in
theorem toRunS_any (A : Option Addr) (len cap : Nat) (gs : List Ru) (w : World) (hl : len ≤ 1048576) (h : InRuns w A len gs) :
    Calls Try.prog 34 #[.slice A len cap] w fun e w' => ∃ v, e = .returned v ∧ OwnsU w' w.heap.size v gs ∧ Below w.heap.size w w' := by
  obtain ⟨i0, hi, hz0, hz1, hz2⟩ := info_parts Try.info_run
  obtain ⟨hlen, hin⟩ := h
  have HI := Lib.hid hin
  have HLN := Lib.hid hlen
  clear hin hlen
  go_enter Try.func34, Try.ntmps34
  go_wp2_with (refine wpList_make_full _ rfl _ _ 39 rfl w.heap.size 73 i0 (.agg #[.string ⟨#[]⟩, .int .i64 0]) 2 Try.underlying39 hi hz0 hz1 .i64 .i64 _ _ len rfl rfl rfl rfl (by rw [hz2]; omega) (by unfold maxLen; omega) (Nat.le_refl _) ?_)
  intro w1 hown hg
  have hB1 := below_of_grown hg
  rw [made_zu, show List.replicate len zu = outU gs 0 from by rw [outU_zero, HLN.out]] at hown
  obtain ⟨B, hBe⟩ : ∃ B, B = w.heap.size := ⟨_, rfl⟩
  rw [← hBe] at hown ⊢
  have HBE := Lib.hid hBe
  clear hg hBe
  go_wp2
  go_loopw [4] (fun i wr => ∃ k : Nat, k ≤ len ∧ i = .int .i64 k ∧ wr.ownsRow B 73 2 (.slice (some ⟨B, 0, none⟩) len len) len (uv (outU gs k)) ∧ Below w.heap.size w wr) (fun i _ => len - (intOf i).toNat)
  case atStart => exact ⟨0, Nat.zero_le _, rfl, hown, hB1⟩
  case round =>
    obtain ⟨k, hk, rfl, hown, hB⟩ := hrel
    by_cases hlt : k < len
    · have hkg : k < gs.length := by rw [HLN.out]; exact hlt
      rcases HI.out with hn | ⟨x, rfl, hc⟩
      · rw [hn] at hkg; simp at hkg
      obtain ⟨⟨c0, c1⟩, hsz⟩ := hc k hkg
      have d0 := (hB.cell (lt_of_cell c0)).trans c0
      have d1 := (hB.cell (lt_of_cell c1)).trans c1
      rw [add_next _ _ _ (by omega)] at d1
      clear c0 c1 hc hsz
      go_wp2_with fail
      refine (toRun_any gs[k] _).mono ?_; rintro e w' ⟨rfl, hB'⟩
      have hown' := own_below hown hB' (Nat.le_refl _)
      have hB2 := hB.trans (hB'.mono hB.size)
      have hkl : k < (outU gs k).length := by rw [outU_len _ _ (by omega)]; exact hkg
      have hz : (outU gs k)[k] = zu := by have := outU_get gs k hkg; rw [List.getElem?_eq_getElem hkl] at this; simpa using this
      have e0 : w'.cell? ⟨B, k * 2, none⟩ = some (.string ⟨#[]⟩) := by rw [hown'.cellAt (k * 2) (by omega)]; have := uv_get _ k hkl 0 (by omega); rw [hz] at this; exact this
      have e1 : w'.cell? ⟨B, k * 2 + 1, none⟩ = some (.int .i64 0) := by rw [hown'.cellAt (k * 2 + 1) (by omega)]; have := uv_get _ k hkl 1 (by omega); rw [hz] at this; exact this
      have f0 : w'.frozen? ⟨B, k * 2, none⟩ = false := hown'.frozenAt _
      have f1 : w'.frozen? ⟨B, k * 2 + 1, none⟩ = false := hown'.frozenAt _
      have HO := Lib.hid hown'
      clear hown hown' hz hkl
      go_wp2
      go_roundw
      case rel =>
        refine ⟨k + 1, by omega, by go_num, ?_, (hB2.setCell (by rw [HBE.out]; exact Nat.le_refl _) _).setCell (by rw [HBE.out]; exact Nat.le_refl _) _⟩
        rw [← outU_set gs k hkg]
        exact own_set2u HO.out k (by rw [outU_len _ _ (by omega)]; exact hkg) _
      case measure => simp [intOf]; omega
    · have hown' : OwnsU wr w.heap.size (.slice (some ⟨B, 0, none⟩) len len) gs := by
        have hg := HLN.out
        rw [show k = gs.length from by omega, outU_all, HBE.out] at hown
        unfold OwnsU
        rw [hg, HBE.out]
        exact hown
      have HO := Lib.hid hown'
      clear hown hown'
      go_wp2
      go_ret
      exact ⟨_, rfl, HO.out, hB⟩

end Go.Proofs.Ytlgpleeanmeenaa
