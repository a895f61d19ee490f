/-
  Small contracts and laws that all makers of grammars share: lastOf, rows beside variables.
-/
import Derived.Test.YtcaeihdfljljbaaDoorVar
import Derived.Test.YtcaeihdfljljbaaDoorIntsM
import Derived.Deep.AppendLies
namespace Go.Proofs.YtcaeihdfljljbaaDoor
open Go.RowKit
open Wd
set_option linter.unusedVariables false
namespace Wd
/-- a pair of two rules -/
def pairR (a b : Nat) : Rl := ⟨⟨#[]⟩, (a : Int), (b : Int)⟩
theorem sumL_app (a b : List Rl) : sumL (a ++ b) = sumL a + sumL b := by simp [sumL]
end Wd
theorem blk3 {w : World} {R : Nat} {t : TypeId} {a b c a' b' c' : Value} (h : w.heap[R]? = some (.cells #[a, b, c] t (0, 0))) :
    (((w.setCell ⟨R, 0, none⟩ a').setCell ⟨R, 1, none⟩ b').setCell ⟨R, 2, none⟩ c').heap[R]? = some (.cells #[a', b', c'] t (0, 0)) := by
  simp [World.setCell, Array.getElem?_modify, h]
theorem blk3_cells {w : World} {R : Nat} {t : TypeId} {a b c : Value} (h : w.heap[R]? = some (.cells #[a, b, c] t (0, 0))) :
    (w.cell? ⟨R, 0, none⟩ = some a ∧ w.cell? ⟨R, 1, none⟩ = some b ∧ w.cell? ⟨R, 2, none⟩ = some c) ∧ w.frozen? ⟨R, 0, none⟩ = false ∧ w.frozen? ⟨R, 1, none⟩ = false ∧ w.frozen? ⟨R, 2, none⟩ = false := by
  refine ⟨⟨?_, ?_, ?_⟩, ?_, ?_, ?_⟩
  · rw [cell_of_row _ _ _ _ _ _ h]; rfl
  · rw [cell_of_row _ _ _ _ _ _ h]; rfl
  · rw [cell_of_row _ _ _ _ _ _ h]; rfl
  · simp [World.frozen?, h]
  · simp [World.frozen?, h]
  · simp [World.frozen?, h]
theorem lastA (A : Option Addr) (n c : Nat) (hn : n ≤ 1048576) (w : World) :
    Calls Tryd.prog 120 #[.slice A n c] w fun e w' => e = .returned (.int .i64 ((n : Int) - 1)) ∧ w' = w := by
  go_enter Tryd.func120, Tryd.ntmps120
  go_wp2
  go_ret
  exact ⟨rfl, rfl⟩

theorem own_var_ne {w : World} {B e n s : Nat} {yv : Value} {xs : List Value} {V : Nat} {u : Value} {t : TypeId} (h : w.ownsRow B e s yv n xs) (hv : Var w V u t) (hne : e ≠ t) : yv.ownBlock ≠ some V := by
  rcases h.2 with ⟨rfl, _⟩ | ⟨g', cap, cur, rfl, _, hh, _⟩
  · simp [Value.ownBlock]
  · intro he
    have : g' = V := by simpa [Value.ownBlock] using he
    subst this
    unfold Var at hv
    rw [hh] at hv
    injection hv with hv
    injection hv with _ ht
    exact hne ht
theorem news3 (w : World) (x : Rl) (t : TypeId) : ∀ j u, (rc x)[j]? = some u → (w.alloc (.cells #[.string x.L, .int .i64 x.l, .int .i64 x.r] t)).cell? ((⟨w.heap.size, 0, none⟩ : Addr).add j) = some u :=
  World.news_of_block (cs := #[.string x.L, .int .i64 x.l, .int .i64 x.r]) (t := t) (fr := (0, 0)) (heap_alloc_new w _)
theorem rc_cell (x : Rl) : ∀ u ∈ rc x, u.oneCell' = true := by
  intro u hu
  simp only [rc, List.mem_cons, List.not_mem_nil, or_false] at hu
  rcases hu with rfl | rfl | rfl <;> rfl
theorem sum_ok {gs : List Rl} (h : gOk gs = true) : sumL gs ≤ gs.length := by
  have hf := (gOk_iff.1 h).2.1
  have : ∀ k, k ≤ gs.length → sumL (gs.take k) ≤ k := by
    intro k
    induction k with
    | zero => intro _; simp [sumL]
    | succ k ih =>
      intro hk
      rw [sumL_take gs k hk]
      have h1 := ih (by omega)
      have h2 := fits_at hf k hk
      have : gs[k].L.size ≤ 1 := by
        by_cases h0 : gs[k].L.size = 0
        · omega
        · have := (ok_letter h0).1 h2; omega
      omega
  have h3 := this gs.length (Nat.le_refl _)
  rwa [List.take_of_length_le (Nat.le_refl _)] at h3
theorem cell_far1 {w : World} {p q : Addr} {u v : Value} (h : w.cell? q = some v) (hne : q.block ≠ p.block) : (w.setCell p u).cell? q = some v :=
  (World.cell?_of_block (a := q) (Below.heap_setCell w p u q.block hne)).trans h

end Go.Proofs.YtcaeihdfljljbaaDoor
