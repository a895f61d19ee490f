/-
  What the lengths of a cover come to; bounds of what is joined. Nothing of the program.
-/
import Derived.Test.YtcaeihdfljljbaaFoM
import Derived.Test.YtcaeihdfljljbaaCovB
namespace Go.Proofs.Ytcaeihdfljljbaa
open Go.RowKit
set_option linter.unusedVariables false
namespace Wd
def lenC (gs : List Rl) (c : List Int) : Int := (c.map fun q => (lens gs).getD q.toNat 0).sum
theorem lenC_app (gs) (c d : List Int) : lenC gs (c ++ d) = lenC gs c + lenC gs d := by simp [lenC]
theorem lenC_cover {gs : List Rl} (hok : gOk gs = true) (i j : Int) : ∀ f k s, k < f → k < gs.length → lenC gs (coverF gs i j f k s) ≤ (lens gs).getD k 0
  | 0, _, _, h, _ => by omega
  | f + 1, k, s, h, hk => by
    have hp := lens_pos hk fun q hq _ => fits_at (gOk_iff.1 hok).2.1 q hq
    by_cases h1 : s + (lens gs).getD k 0 ≤ i ∨ j ≤ s
    · rw [cover_out h1, show lenC gs [] = 0 from rfl]; omega
    · by_cases h2 : i ≤ s ∧ s + (lens gs).getD k 0 ≤ j
      · rw [cover_in h1 h2]; simp [lenC]
      · have h0 := cut_pair hok hk h1 h2
        obtain ⟨a, b, ha, hb, hak, hbk, hs, _⟩ := pair_parts hok hk h0
        rw [cover_pair hk ha hb h1 h2, lenC_app]
        have e1 := lenC_cover hok i j f a s (by omega) (by omega)
        have e2 := lenC_cover hok i j f b (s + (lens gs).getD a 0) (by omega) (by omega)
        omega
theorem lenC_pos {gs : List Rl} (hok : gOk gs = true) : ∀ c : List Int, (∀ q ∈ c, 0 ≤ q ∧ q < (gs.length : Int)) → 0 ≤ lenC gs c
  | [], _ => by simp [lenC]
  | q :: c, h => by
    have h1 := lenC_pos hok c fun x hx => h x (by simp [hx])
    have hq := h q (by simp)
    have hp := lens_pos (gs := gs) (k := q.toNat) (by omega) fun q hq _ => fits_at (gOk_iff.1 hok).2.1 q hq
    simp only [lenC, List.map_cons, List.sum_cons] at h1 ⊢
    omega
theorem lenC_take {gs : List Rl} (hok : gOk gs = true) {c : List Int} (h : ∀ q ∈ c, 0 ≤ q ∧ q < (gs.length : Int)) (m : Nat) : lenC gs (c.take m) ≤ lenC gs c := by
  have h1 := lenC_app gs (c.take m) (c.drop m)
  rw [List.take_append_drop] at h1
  have h2 := lenC_pos hok (c.drop m) fun q hq => h q (List.mem_of_mem_drop hq)
  omega
/-- bounds of what is joined so far -/
theorem acc_all {gs : List Rl} {J : List Int → List Int → List Int} {V : Nat → List Int} (P : Int → List Int → Prop) (hJ : ∀ m n u v, 0 ≤ m → 1 ≤ n → P m u → P n v → P (m + n) (J u v)) (hV : ∀ k, k < gs.length → 1 ≤ (lens gs).getD k 0 ∧ P ((lens gs).getD k 0) (V k)) :
    ∀ (c : List Int) (m : Int) (e : List Int), 0 ≤ m → (∀ q ∈ c, 0 ≤ q ∧ q < (gs.length : Int)) → P m e → P (m + lenC gs c) (accV J e V c)
  | [], m, e, _, _, he => by simpa [lenC, accV] using he
  | q :: c, m, e, hm, h, he => by
    have hq := h q (by simp)
    have hv := hV q.toNat (by omega)
    have := acc_all P hJ hV c (m + (lens gs).getD q.toNat 0) (J e (V q.toNat)) (by omega) (fun x hx => h x (by simp [hx])) (hJ _ _ _ _ hm hv.1 he hv.2)
    simp only [lenC, List.map_cons, List.sum_cons, accV, List.foldl_cons] at this ⊢
    rwa [← Int.add_assoc]
theorem acc_take (J e V) (c : List Int) (m : Nat) (h : m < c.length) : accV J e V (c.take (m + 1)) = J (accV J e V (c.take m)) (V (c[m]).toNat) := by
  rw [List.take_succ_eq_append_getElem h, accV_snoc]
theorem covA_len {gs : List Rl} (hok : gOk gs = true) (hg : 0 < gs.length) (i j : Int) : lenC gs (covA gs i j) ≤ (lens gs).getD (gs.length - 1) 0 := lenC_cover hok i j _ _ _ (by omega) (by omega)
end Wd
end Go.Proofs.Ytcaeihdfljljbaa
