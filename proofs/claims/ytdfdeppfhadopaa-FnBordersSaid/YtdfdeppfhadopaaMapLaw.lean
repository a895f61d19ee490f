/-
  Laws on maps from int64 to bool that a call makes: a step of a range over one; rows beside such a range; sorting a row.
-/
import Derived.Test.YtdfdeppfhadopaaPer
import Derived.Test.YtdfdeppfhadopaaShelf
import Derived.Sort.OwnSortedInts
namespace Go.Proofs.Ytdfdeppfhadopaa
open Go.RowKit Go.Maps
open Wd
set_option linter.unusedVariables false

theorem wpList_next_ranges_ib {H : Type} {P : Program} (w : World) {ops : Array Oper} {rest : List Oper} {o : Oper} {a : Act} {Q : Exit → Act → World → Prop}
    (hg : o.guard = none) (it : Operand) (hop : o.op = Op.next it false) (k : TypeId) (qk : IntKind) (K : Keyed P k) (hk : P.underlying k = some (.int qk)) (R : Value → Option (DataW H × List MemPlace))
    (b r n : Nat) (D : DataW H) (left : Lit → Bool) (cnt : Nat) (hit : a.eval it = .pointer (some ⟨r, 0, none⟩)) (h : w.ranges P k R b r n D left cnt)
    (hDone : cnt = 0 → (∀ kl, left kl = false) → wpList P ops Q rest (a.put o.dst (.tuple #[.bool false])) w)
    (hMore : ∀ (x : Int) (c : Value) (w' : World) (cnt' : Nat), (Lit.int qk x).wf = true → left (.int qk x) = true → w'.ranges P k R b r n D (fun z => left z && !z.sameKey (.int qk x)) cnt' → cnt' < cnt →
      w.grownBy w' (some r) → w'.heap.size = w.heap.size → (Instr.entry (.pointer (some ⟨r, 0, none⟩))).run P w' = .ok (.tuple #[.int qk x, c]) w' → wpList P ops Q rest (a.put o.dst (.tuple #[.bool true, .int qk x, c])) w') :
    wpList P ops Q (o :: rest) a w :=
  wpList_next_ranges w hg it hop k K R (Value.int qk) (fun v => v) (fun key kl hkey => by obtain ⟨x, rfl, _⟩ := Maps.keyOf_int_inv hk hkey; exact ⟨x, rfl⟩) (fun v y hv => ⟨v, rfl⟩)
    b r n D left cnt hit h hDone (fun x c kl y w' cnt' hkey hlk hv hat hrg hlt hgr hsz hen => by
      obtain ⟨x', ex, rfl, hwx⟩ := Maps.keyOf_int_inv hk hkey
      cases ex
      exact hMore x c w' cnt' hwx hlk hrg hlt hgr hsz hen)

/-- a row is neither the map nor its iterator -/
theorem row_apart {H : Type} {P : Program} {k : TypeId} {R : Value → Option (DataW H × List MemPlace)} {w : World} {b r n m B : Nat} {D : DataW H} {left : Lit → Bool} {cnt : Nat} {e : TypeId} {v : Value} {xs : List Value}
    (h : w.ranges P k R b r n D left cnt) (ho : w.ownsRow B e 1 v m xs) : some b ≠ v.ownBlock ∧ some r ≠ v.ownBlock := by
  obtain ⟨es, clock, since, seen, c0, hb, _, _, _, hr, _⟩ := h
  rcases ho.2 with ⟨rfl, _⟩ | ⟨g, cap, cur, rfl, _, hg, _⟩
  · simp [Value.ownBlock]
  · simp only [Value.ownBlock, ne_eq, Option.some.injEq]
    constructor
    · rintro rfl; rw [hg] at hb; cases hb
    · rintro rfl; rw [hg] at hr; cases hr

theorem size_le {H : Type} {P : Program} {k : TypeId} {R : Value → Option (DataW H × List MemPlace)} {w : World} {b n : Nat} {D : DataW H} (h : w.ownsMap P k R b n D) : Maps.size D ≤ n := by
  obtain ⟨es, clock, _, _, hs, rfl⟩ := h
  rw [Maps.size_eq, length_sorted]
  simpa using hs

/-- slices.Sort over a row of the call's own -/
theorem sortI (v : Value) (zs : List Int) (B : Nat) (w : World) (h : OwnsI w B v zs) (hn : zs.length ≤ 1000000) :
    Calls Try.prog 23 #[v] w fun e w' => e = .returned (.tuple #[]) ∧ OwnsI w' B v (zs.mergeSort fun x y => decide (x ≤ y)) ∧ w.grownBy w' v.ownBlock := by
  have hl : (zs.mergeSort fun x y => decide (x ≤ y)).length = zs.length := List.length_mergeSort _
  have hone : zs = [] → (zs.mergeSort fun x y => decide (x ≤ y)) = [] := fun h => by subst h; simp
  rcases h.2 with ⟨rfl, h0⟩ | ⟨g, cap, cur, rfl, hb, hg, hnc, hcm, hcs, ht⟩
  · obtain rfl := List.eq_nil_of_length_eq_zero h0
    refine (Try.slices_Sort_int_none none 0 w).mono fun e w' ⟨he, hw⟩ => ?_
    subst hw
    refine ⟨he, ?_, World.grownBy.refl _ _⟩
    rw [hone rfl]
    exact World.ownsRow_nil _ _ _ _
  · have hH : Sort.Holds (Value.int .i64) w g 0 zs.toArray := holds_of_blockI hg (by have h1 := ht; simp only [Nat.mul_one] at h1; exact h1)
    refine (Try.slices_Sort_int g 0 cap zs w hH (Array.getElem?_eq_some_iff.1 hg).1 (by omega)).mono fun e w' ⟨he, n, os, hw⟩ => ?_
    subst hw
    refine ⟨he, ?_, grownBy_sortedI _⟩
    unfold OwnsI
    rw [hl]
    exact ownsRow_sortedI hl hb hg hnc hcm hcs

end Go.Proofs.Ytdfdeppfhadopaa
