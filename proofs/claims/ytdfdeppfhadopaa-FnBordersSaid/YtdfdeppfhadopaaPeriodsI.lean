/-
  Walk: impl.PeriodsOf (slices.Sorted(maps.Keys(..)) by the library's contracts).
-/
import Derived.Test.YtdfdeppfhadopaaMapLaw
import Derived.Test.YtdfdeppfhadopaaPerB
import Derived.Shelf.SlIterI.Nil
namespace Go.Proofs.Ytdfdeppfhadopaa
open Go.RowKit Go.Maps Go.Sort Go.Shelf
open Wd
set_option linter.unusedVariables false

theorem keysC (b : Nat) (w : World) :
    Calls Try.prog 25 #[.map (some b)] w fun e w' => e = .returned (.func (.func 35) #[] #[.pointer (some ⟨w.heap.size, 0, none⟩)]) ∧ w' = w.alloc (.cells #[.map (some b)] 45) :=
  (callsIn_wide (n := 5)).1 (AnyZI.keys_in Try.laysKeys Fence.wide 5 trivial rfl (some b) w)

theorem sortsI (m : Nat) : AnyZI.SortsIn Try.prog Try.laysSorted_ren Fence.wide m :=
  ⟨fun blk off cap ss W hH hblk hsz => callsIn_wide.2 (AnyM.slices_Sort_int Try.laysSort blk off cap ss W hH hblk hsz),
   fun p cap W => callsIn_wide.2 (AnyM.slices_Sort_int_none Try.laysSort p cap W)⟩

theorem sortedC (b nn : Nat) (D0 : DataW Unit) (w : World) (hown : w.ownsMap Try.prog 2 (plainElem Try.prog 4) b nn D0) (hmax : Maps.size D0 ≤ 1000000) :
    Calls Try.prog 24 #[.func (.func 35) #[] #[.pointer (some ⟨w.heap.size, 0, none⟩)]] (w.alloc (.cells #[.map (some b)] 45)) fun e w' => ∃ (v : Value) (ss : List Int), e = .returned v ∧ ss.Perm (intKeys D0) ∧
      w'.ownsRow (w.alloc (.cells #[.map (some b)] 45)).heap.size 2 1 v ss.length ((ss.mergeSort (fun x y => decide (x ≤ y))).map encZ) ∧ (v = .slice none 0 0 ↔ ss = []) ∧ Below (w.alloc (.cells #[.map (some b)] 45)).heap.size (w.alloc (.cells #[.map (some b)] 45)) w' := by
  refine (callsIn_wide (n := 5)).1 ?_
  have hbl := hown.lt
  have hseq : SeqGives Fence.wide 2 Try.prog 35 #[.pointer (some ⟨w.heap.size, 0, none⟩)] encZ (fun ss => ss.Perm (intKeys D0)) (Maps.size D0) (w.alloc (.cells #[.map (some b)] 45)) :=
    AnyZI.keys_gives (ρ := Try.laysKeys_ren) { Try.laysKeys with } Fence.wide _ trivial rfl (by omega) w.heap.size b nn D0 _ (by simp) (by simp) (by
      obtain ⟨es, clock, hb, Ft, hs, hD⟩ := hown
      exact ⟨es, clock, (Below.heap_alloc _ _ b hbl).trans hb, Ft, hs, hD⟩)
  exact AnyZI.sorted_in Try.laysSorted Fence.wide 5 trivial trivial trivial trivial rfl (by omega) (sortsI _) (enters_of Try.func23 (by kernel_rfl) rfl) 35 #[.pointer (some ⟨w.heap.size, 0, none⟩)] trivial (enters_of Try.func35 (by kernel_rfl) rfl) _ _ (by unfold maxLen; omega) (by omega) _ hseq

theorem keys_list {s : ByteArray} {B b n : Nat} {D : DataW Unit} {w : World} (h : PerMap s B b n D w) : (intKeys D).Nodup ∧ ∀ x, x ∈ intKeys D ↔ ∃ p : Nat, Per s p ∧ x = p := by
  have hh := h.has
  obtain ⟨es, rfl, hp, hk⟩ := h.1.entries keyed64
  have hint : ∀ p ∈ es, ∃ q : Nat, Per s q ∧ p.1 = .int .i64 q := fun p hpm => by
    refine (hh p.1).1 ?_
    rw [has_eq, List.any_eq_true]
    exact ⟨p, hpm, WideAt.sameKey_self (hk p hpm)⟩
  constructor
  · show (es.map fun p => Go.intOf p.1).Nodup
    unfold List.Nodup
    rw [List.pairwise_map]
    refine List.Pairwise.imp_of_mem (fun {p q} hpm hqm hne => ?_) hp
    obtain ⟨a, _, ha⟩ := hint p hpm
    obtain ⟨c, _, hc⟩ := hint q hqm
    rw [ha, hc] at hne ⊢
    intro e
    exact hne (by rw [show (a : Int) = c from e])
  · intro x
    show x ∈ es.map (fun p => Go.intOf p.1) ↔ _
    rw [List.mem_map]
    constructor
    · rintro ⟨p, hpm, rfl⟩
      obtain ⟨q, hq, he⟩ := hint p hpm
      exact ⟨q, hq, by rw [he]; rfl⟩
    · rintro ⟨p, hper, rfl⟩
      have := (hh (.int .i64 p)).2 ⟨p, hper, rfl⟩
      rw [has_eq, List.any_eq_true] at this
      obtain ⟨q, hqm, hs⟩ := this
      exact ⟨q, hqm, by rw [WideAt.sameKey_eq hs]; rfl⟩

theorem keys_sorted {s : ByteArray} {B b n : Nat} {D : DataW Unit} {w : World} (h : PerMap s B b n D w) {ss : List Int} (hp : ss.Perm (intKeys D)) :
    (ss.mergeSort fun x y => decide (x ≤ y)) = upTo (perB s) s.size := by
  have hk := keys_list h
  refine rising_ext _ _ (sort_rising (hp.nodup_iff.2 hk.1)) (upTo_rising _ _) fun x => ?_
  rw [sort_mem, hp.mem_iff, hk.2, upTo_mem]
  constructor
  · rintro ⟨p, h1, rfl⟩
    exact ⟨p, h1.1, h1.2.1, (per_iff h1.1 h1.2.1).2 h1, rfl⟩
  · rintro ⟨p, h1, h2, h3, rfl⟩
    exact ⟨p, (per_iff h1 h2).1 h3, rfl⟩

set_option maxRecDepth 100000 in
set_option maxHeartbeats 1600000 in
theorem implPeriodsOf_ok (s : ByteArray) (w : World) (hs : s.size ≤ 2000) (h : okL s.data.toList = true) :
    Calls Try.prog 13 #[.string s] w fun e w' => ∃ x, e = .returned (.tuple #[x, .int .i64 0]) ∧ OwnsI w' w.heap.size x (upTo (perB s) s.size) ∧ Below w.heap.size w w' := by
  have c1 := implOk s w (by unfold maxLen; omega)
  rw [h] at c1
  have C1 := Lib.hid c1
  clear c1 h
  go_enter Try.func13, Try.ntmps13
  go_wp2_with fail
  refine C1.out.mono ?_; rintro e w' ⟨rfl, rfl⟩
  go_wp2_with fail
  refine (implPeriods s _ hs).mono ?_
  rintro e w1 ⟨b, n, D, rfl, hP, hb1⟩
  have HP := Lib.hid hP
  have s1 := hb1.size
  have hsz : Maps.size D ≤ 1000000 := Nat.le_trans (size_le hP.1) (by have := hP.2.2.1; omega)
  have HSZ := Lib.hid hsz
  clear hP hsz
  go_wp2_with fail
  refine (keysC b _).mono ?_
  rintro e w2 ⟨rfl, rfl⟩
  go_wp2_with fail
  refine (sortedC b n D _ HP.out.1 HSZ.out).mono ?_
  rintro e w3 ⟨v, ss, rfl, hperm, hrow, _, hb3⟩
  have hl : ss.length = (upTo (perB s) s.size).length := by rw [← keys_sorted HP.out hperm, List.length_mergeSort]
  have hoi : OwnsI w3 w.heap.size v (upTo (perB s) s.size) := by
    refine OwnsI.lower (B := (w1.alloc (.cells #[.map (some b)] 45)).heap.size) ?_ (by simp; omega)
    unfold OwnsI
    rw [← hl, ← keys_sorted HP.out hperm]
    exact hrow
  have hb : Below w.heap.size w w3 := ((hb1).alloc s1 _).trans (hb3.mono (by simp; omega))
  clear hl hrow hperm hb3 hb1
  go_wp2
  go_ret2
  exact ⟨_, rfl, hoi, hb⟩

theorem implPeriodsOf_bad (s : ByteArray) (w : World) (hs : s.size ≤ maxLen) (h : okL s.data.toList = false) :
    Calls Try.prog 13 #[.string s] w fun e w' => ∃ x, e = .returned (.tuple #[x, .int .i64 1]) ∧ OwnsI w' w.heap.size x [] ∧ Below w.heap.size w w' := by
  have c1 := implOk s w hs
  rw [h] at c1
  have C1 := Lib.hid c1
  clear c1 h
  go_enter Try.func13, Try.ntmps13
  go_wp2_with (go_at_call 20; refine C1.out.mono ?_; rintro e w' ⟨rfl, rfl⟩)
  go_ret2
  exact ⟨_, rfl, World.ownsRow_nil _ _ _ _, Below.refl _ _⟩
end Go.Proofs.Ytdfdeppfhadopaa
