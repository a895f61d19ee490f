/-
  Walk: impl.plainRules, the rules of a plain word.
-/
import Derived.Test.YtlkjceolddccbaaPlainC
import Derived.Test.YtlkjceolddccbaaShelf
import Derived.Maps.OwnOps
import Derived.Maps.Views
import Derived.Lib.OthersKept
import Derived.Lib.IndexAny
namespace Go.Proofs.Ytlkjceolddccbaa
open Go.RowKit Go.Maps
open Wd
set_option linter.unusedVariables false

theorem contains_any (s : ByteArray) (k : Nat) (hk : k < 4) (w : World) :
    Calls Try.prog 126 #[.string s, .int .i32 (97 + (k : Int))] w fun e w' => e = .returned (.bool (hasC s.data.toList k)) ∧ w' = w := by
  refine (Try.strings_ContainsRune_ascii s _ w (by omega) (by omega)).mono fun e w' he => ⟨he.1.trans ?_, he.2⟩
  rw [← Lib.contains_iff_indexByte]
  have h1 : (97 + (k : Int)).toNat.toUInt8 = ltC k := by
    match k, hk with
    | 0, _ => rfl
    | 1, _ => rfl
    | 2, _ => rfl
    | 3, _ => rfl
  rw [h1]
  unfold hasC
  congr 2
  rw [List.contains_eq_mem]
theorem letter_text (k : Nat) (hk : k < 4) (w : World) : (convert 21 9 (.int .i32 (97 + (k : Int)))).run Try.prog w = .ok (.string ⟨#[ltC k]⟩) w := by
  have h0 : (convert 21 9 (.int .i32 97)).run Try.prog w = .ok (.string ⟨#[97]⟩) w := by kernel_rfl
  have h1 : (convert 21 9 (.int .i32 98)).run Try.prog w = .ok (.string ⟨#[98]⟩) w := by kernel_rfl
  have h2 : (convert 21 9 (.int .i32 99)).run Try.prog w = .ok (.string ⟨#[99]⟩) w := by kernel_rfl
  have h3 : (convert 21 9 (.int .i32 100)).run Try.prog w = .ok (.string ⟨#[100]⟩) w := by kernel_rfl
  match k, hk with
  | 0, _ => exact h0
  | 1, _ => exact h1
  | 2, _ => exact h2
  | 3, _ => exact h3
theorem mem_at (s : ByteArray) (k : Nat) (h : k < s.size) : s[k]'h ∈ s.data.toList := by
  have : s[k]'h = s.data.toList[k]'(by simpa using h) := by simp; rfl
  rw [this]
  exact List.getElem_mem _
theorem lt_mem' {l : List UInt8} (h : okL l = true) {c : UInt8} (hc : c ∈ l) : lt c = true := by
  obtain ⟨i, hi, e⟩ := List.getElem_of_mem hc
  rw [← e]
  exact okL_at h hi
theorem grown_iterAt (w : World) (k : Nat) (s : ByteArray) (pos : Nat) : w.grownBy (w.iterAt k s pos) (some k) :=
  ⟨rfl, rfl, rfl, by rw [Lib.iterAt_size]; exact Nat.le_refl _, fun i _ hi => Lib.iterAt_other w k i s pos (fun e => hi (by rw [e]))⟩
theorem own_iter_ne {w : World} {B e s n I pos : Nat} {v : Value} {xs : List Value} {str : ByteArray} (h : w.ownsRow B e s v n xs) (hi : w.heap[I]? = some (.stringIter str pos)) : v.ownBlock ≠ some I := by
  rcases h.2 with ⟨rfl, _⟩ | ⟨g', cap, cur, rfl, _, hh, _⟩
  · simp [Value.ownBlock]
  · intro he
    have : g' = I := by simpa [Value.ownBlock] using he
    subst this
    rw [hh] at hi
    cases hi
theorem own_map_ne {w : World} {B e s n M k m : Nat} {v : Value} {xs : List Value} {D : DataW Unit} {R : Value → Option (DataW Unit × List MemPlace)} (h : w.ownsRow B e s v n xs) (hm : w.ownsMap Try.prog k R M m D) : v.ownBlock ≠ some M := by
  obtain ⟨es, clock, hb, _⟩ := hm
  rcases h.2 with ⟨rfl, _⟩ | ⟨g', cap, cur, rfl, _, hh, _⟩
  · simp [Value.ownBlock]
  · intro he
    have : g' = M := by simpa [Value.ownBlock] using he
    subst this
    rw [hh] at hb
    cases hb
theorem keyed32 : Keyed Try.prog 21 := int_keyed Try.underlying21
theorem zero64 (w : World) : (zeroValue 2).run Try.prog w = .ok (.int .i64 0) w := by kernel_rfl
theorem key32 (k : Nat) (hk : k < 4) : keyOf Try.prog 21 (.int .i32 (97 + (k : Int))) = some (.int .i32 (97 + (k : Int))) :=
  keyOf_int_mk Try.underlying21 (by simp [Lit.wf, IntKind.min, IntKind.max, IntKind.signed, IntKind.bits]; omega)
/-- the map from letters to the numbers of their rules -/
def MapTo (l : List UInt8) (M k : Nat) (w : World) : Prop :=
  ∃ D : DataW Unit, w.ownsMap Try.prog 21 (plainElem Try.prog 2) M k D ∧ IsMap D ∧ ∀ j, j < k → hasC l j = true → ∀ z, D.atKey (.int .i32 (97 + (j : Int))) z = .lit (.int .i64 (idxC l j))
/-- between two letters -/
structure PSt (l : List UInt8) (w : World) (str : ByteArray) (I pos k : Nat) (rs : List Rl) (y : Value) (wr : World) : Prop where
  row : wr.ownsRow w.heap.size 71 3 y rs.length (rv rs)
  map : MapTo l (w.heap.size + 1) k wr
  it : wr.heap[I]? = some (.stringIter str pos)
  below : Below w.heap.size w wr
  hI : w.heap.size + 1 < I
theorem MapTo.kept {l : List UInt8} {M k : Nat} {w w' : World} {row : Option Nat} (h : MapTo l M k w) (hg : w.grownBy w' row) (hne : some M ≠ row) : MapTo l M k w' := by
  obtain ⟨D, h1, h2, h3⟩ := h
  exact ⟨D, h1.kept hg hne, h2, h3⟩
theorem MapTo.lt {l : List UInt8} {M k : Nat} {w : World} (h : MapTo l M k w) : M < w.heap.size := by
  obtain ⟨D, h1, _⟩ := h
  exact h1.lt
theorem own_mapTo_ne {w : World} {B e s n M m : Nat} {v : Value} {xs : List Value} {l : List UInt8} (h : w.ownsRow B e s v n xs) (hm : MapTo l M m w) : v.ownBlock ≠ some M := by
  obtain ⟨D, h1, _⟩ := hm
  exact own_map_ne h h1
theorem PSt.next {l : List UInt8} {w wr : World} {str : ByteArray} {I pos k : Nat} {rs : List Rl} {y : Value} (h : PSt l w str I pos k rs y wr) (pos' : Nat) : PSt l w str I pos' k rs y (wr.iterAt I str pos') := by
  have hg := grown_iterAt wr I str pos'
  have hne := own_iter_ne h.row h.it
  have hI := h.hI
  exact ⟨h.row.kept hg (.inr hne), h.map.kept hg (by intro e; injection e with e; omega), Lib.iterAt_heap wr I str pos pos' h.it, Lib.below_iterAt h.below (by omega) str pos', hI⟩
theorem PSt.app {l : List UInt8} {w wr w5 : World} {str : ByteArray} {I pos k : Nat} {rs : List Rl} {x : Rl} {y y' : Value} {o : Obj} (h : PSt l w str I pos k rs y wr)
    (hown : w5.ownsRow w.heap.size 71 3 y' (rs.length + 1) (rv rs ++ rc x)) (hg : (wr.alloc o).grownBy w5 y.ownBlock) : PSt l w str I pos k (rs ++ [x]) y' w5 := by
  have n1 := own_iter_ne h.row h.it
  have n2 := own_mapTo_ne h.row h.map
  have hlt : I < wr.heap.size := (Array.getElem?_eq_some_iff.1 h.it).1
  have hb := (Below.refl _ wr).alloc (Nat.le_refl _) o
  refine ⟨?_, (h.map.kept (World.grownBy_alloc wr o none) (by simp)).kept hg (fun e => n2 e.symm), ?_, ?_, h.hI⟩
  · rw [List.length_append, rv_app, rv_one]; exact hown
  · rw [hg.block I (by simp; omega) (fun e => n1 e.symm), hb.block I hlt]; exact h.it
  · exact (h.below.alloc h.below.size o).grown hg (by have := h.below.size; simp; omega) (fun q hq => (h.row.lt q hq).1)
theorem PSt.num {l : List UInt8} {w wr w5 : World} {str : ByteArray} {I pos k n : Nat} {rs : List Rl} {y u : Value} {xs : List Value} {o : Obj} (h : PSt l w str I pos k rs y wr)
    (hu : wr.ownsRow w.heap.size 2 1 u n xs) (hg : (wr.alloc o).grownBy w5 u.ownBlock) : PSt l w str I pos k rs y w5 := by
  have n1 := own_iter_ne hu h.it
  have n2 := own_mapTo_ne hu h.map
  have hlt : I < wr.heap.size := (Array.getElem?_eq_some_iff.1 h.it).1
  have hb := (Below.refl _ wr).alloc (Nat.le_refl _) o
  refine ⟨own_other h.row hu (by decide) hg, (h.map.kept (World.grownBy_alloc wr o none) (by simp)).kept hg (fun e => n2 e.symm), ?_, ?_, h.hI⟩
  · rw [hg.block I (by simp; omega) (fun e => n1 e.symm), hb.block I hlt]; exact h.it
  · exact (h.below.alloc h.below.size o).grown hg (by have := h.below.size; simp; omega) (fun q hq => (hu.lt q hq).1)
theorem PSt.upd {l : List UInt8} {w wr w5 : World} {str : ByteArray} {I pos k : Nat} {rs : List Rl} {y : Value} {D : DataW Unit} (h : PSt l w str I pos k rs y wr)
    (hm : w5.ownsMap Try.prog 21 (plainElem Try.prog 2) (w.heap.size + 1) (k + 1) D) (hi : IsMap D) (ha : ∀ j, j < k + 1 → hasC l j = true → ∀ z, D.atKey (.int .i32 (97 + (j : Int))) z = .lit (.int .i64 (idxC l j)))
    (hg : wr.grownBy w5 (some (w.heap.size + 1))) : PSt l w str I pos (k + 1) rs y w5 := by
  have hlt : I < wr.heap.size := (Array.getElem?_eq_some_iff.1 h.it).1
  have hI := h.hI
  refine ⟨h.row.kept hg (.inr (own_mapTo_ne h.row h.map)), ⟨D, hm, hi, ha⟩, ?_, h.below.grown hg h.below.size (fun q hq => by injection hq with hq; omega), hI⟩
  rw [hg.block I hlt (by intro e; injection e with e; omega)]
  exact h.it
theorem PSt.skip {l : List UInt8} {w wr : World} {str : ByteArray} {I pos k : Nat} {rs : List Rl} {y : Value} (h : PSt l w str I pos k rs y wr) (hno : hasC l k = false) : PSt l w str I pos (k + 1) rs y wr := by
  obtain ⟨D, h1, h2, h3⟩ := h.map
  refine ⟨h.row, ⟨D, h1.mono (by omega), h2, fun j hj hh z => ?_⟩, h.it, h.below, h.hI⟩
  by_cases e : j = k
  · subst e; rw [hno] at hh; cases hh
  · exact h3 j (by omega) hh z
theorem put_at {l : List UInt8} {k : Nat} {D : DataW Unit} (h2 : IsMap D) (h3 : ∀ j, j < k → hasC l j = true → ∀ z, D.atKey (.int .i32 (97 + (j : Int))) z = .lit (.int .i64 (idxC l j))) :
    ∀ j, j < k + 1 → hasC l j = true → ∀ z, (D.put (.int .i32 (97 + (k : Int))) (.lit (.int .i64 (idxC l k)))).atKey (.int .i32 (97 + (j : Int))) z = .lit (.int .i64 (idxC l j)) := by
  intro j hj hh z
  by_cases e : j = k
  · subst e
    exact atKey_put_same h2 (show WideAt.IsKeyLit (.int .i32 (97 + (j : Int))) from trivial) _ _
  · rw [atKey_put_other (by intro h; injection h with _ h; omega)]
    exact h3 j (by omega) hh z
theorem abcd_at (k : Nat) (hk : k < 4) : ((⟨#[97, 98, 99, 100]⟩ : ByteArray)[k]'(by show k < 4; exact hk)).toNat = 97 + k := by
  match k, hk with
  | 0, _ => rfl
  | 1, _ => rfl
  | 2, _ => rfl
  | 3, _ => rfl
theorem abcd_next (w : World) (I k : Nat) (hk : k < 4) (hi : w.heap[I]? = some (.stringIter ⟨#[97, 98, 99, 100]⟩ k)) (ty : TypeId) :
    (Instr.next (.pointer (some ⟨I, 0, none⟩)) true ty).run Try.prog w = .ok (.tuple #[.bool true, .int .i64 k, .int .i32 (97 + (k : Int))]) (w.iterAt I ⟨#[97, 98, 99, 100]⟩ (k + 1)) := by
  have h1 := abcd_at k hk
  have := Lib.run_next_ascii_at (P := Try.prog) w I ⟨#[97, 98, 99, 100]⟩ k ty hi (by show k < 4; exact hk) (by rw [h1]; omega)
  rw [h1] at this
  rw [this]
  simp
theorem abcd_end (w : World) (I k : Nat) (hk : ¬ k < 4) (hi : w.heap[I]? = some (.stringIter ⟨#[97, 98, 99, 100]⟩ k)) (ty : TypeId) :
    (Instr.next (.pointer (some ⟨I, 0, none⟩)) true ty).run Try.prog w = .ok (.tuple #[.bool false]) w :=
  Lib.run_next_end_at w I ⟨#[97, 98, 99, 100]⟩ k ty hi hk
/-- between two letters of the alphabet -/
def R1Rel (l : List UInt8) (w : World) (y : Value) (wr : World) : Prop :=
  ∃ k : Nat, k ≤ 4 ∧ PSt l w ⟨#[97, 98, 99, 100]⟩ (w.heap.size + 2) k k (letG l k) y wr
/-- between two letters of the word -/
def R2Rel (s : ByteArray) (w : World) (I : Nat) (y u : Value) (wr : World) : Prop :=
  ∃ k : Nat, k ≤ s.size ∧ PSt s.data.toList w s I k 4 (letG s.data.toList 4) y wr ∧ wr.ownsRow w.heap.size 2 1 u k (iv ((nsC s.data.toList).take k))

set_option maxRecDepth 100000 in
set_option maxHeartbeats 6400000 in
theorem lettersOf_any (s : ByteArray) (w : World) (hs : okL s.data.toList = true) :
    Calls Try.prog 105 #[.string s] w fun e w' => ∃ y u, e = .returned (.tuple #[y, u]) ∧ w'.ownsRow w.heap.size 71 3 y (letG s.data.toList 4).length (rv (letG s.data.toList 4)) ∧ w'.ownsRow w.heap.size 2 1 u s.size (iv (nsC s.data.toList)) ∧ Below w.heap.size w w' := by
  obtain ⟨i0, hi, hz0, hz1, hz2⟩ := info_parts Try.info_rule
  obtain ⟨j0, gi, gz0, gz1, gz2⟩ := info_parts Try.info_i64
  have hlen := okL_len hs
  have hsz : s.size ≤ 2000 := by simpa using hlen
  have HS := Lib.hid hs
  have hmm := @run_makeMap Try.prog
  clear hs hlen
  have HST : Hid (R1Rel s.data.toList w (.slice (some ⟨w.heap.size, 0, none⟩) 0 0) (((w.alloc (.cells #[] 71)).alloc (.map #[] 0)).alloc (.stringIter ⟨#[97, 98, 99, 100]⟩ 0))) := Lib.hid
    ⟨0, Nat.zero_le _, ⟨((World.ownsRow_lit w #[] 0 (Nat.le_refl _) (by decide) rfl).alloc _).alloc _, ⟨.map [], by
        have := World.ownsMap_made (w.alloc (.cells #[] 71)) Try.prog 21 (plainElem (H := Unit) Try.prog 2)
        rw [show (w.alloc (.cells #[] 71)).heap.size = w.heap.size + 1 from by simp] at this
        exact this.alloc _, isMap_empty, fun j hj => by omega⟩, by
        have := heap_alloc_new ((w.alloc (.cells #[] 71)).alloc (.map #[] 0)) (.stringIter ⟨#[97, 98, 99, 100]⟩ 0)
        rwa [show ((w.alloc (.cells #[] 71)).alloc (.map #[] 0)).heap.size = w.heap.size + 2 from by simp] at this, (((Below.refl _ w).alloc (Nat.le_refl _) _).alloc (by simp) _).alloc (by simp; omega) _, by omega⟩⟩
  go_enter Try.func105, Try.ntmps105
  go_wp2_with fail
  go_loopw [4, 7] (fun y _ wr => R1Rel s.data.toList w y wr) (fun _ _ wr => 4 - wr.iterPos (w.heap.size + 2))
  case atStart => exact HST.out
  case round =>
    obtain ⟨k, hk, hps⟩ := hrel
    obtain ⟨wo, rfl⟩ : ∃ wo : World, wo = wr := ⟨_, rfl⟩
    obtain ⟨N, hN⟩ : ∃ N, N = (letG s.data.toList k).length := ⟨_, rfl⟩
    have hN4 : N ≤ 4 := by have := letG_len s.data.toList k; omega
    have hrow := hps.row
    rw [← hN] at hrow
    obtain ⟨A2, c2, rfl⟩ := own_slice hrow
    have hit := hps.it
    have HN := Lib.hid hN
    clear hrow hN
    by_cases hk4 : k < 4
    · have hnx := abcd_next wo (w.heap.size + 2) k hk4 hit
      have HPS := Lib.hid (hps.next (k + 1))
      have hms := iterPos_of hit
      have HCR := Lib.hid (fun W => contains_any s k hk4 W)
      have hlt := fun W => letter_text k hk4 W
      clear hps hit
      generalize wo.iterAt (w.heap.size + 2) ⟨#[97, 98, 99, 100]⟩ (k + 1) = w1 at *
      have hm1 := iterPos_of HPS.out.it
      cases hh : hasC s.data.toList k
      · rw [hh] at HCR
        have HP2 := Lib.hid (HPS.out.skip hh)
        have HNL := Lib.hid (show letG s.data.toList (k + 1) = letG s.data.toList k by rw [letG, hh]; rfl)
        have HST2 : Hid (R1Rel s.data.toList w (.slice A2 N c2) w1) := Lib.hid ⟨k + 1, by omega, by rw [HNL.out]; exact HP2.out⟩
        clear hh
        go_wp2_with fail
        refine (HCR.out _).mono ?_
        rintro e w5 ⟨rfl, rfl⟩
        go_wp2_with fail
        go_roundw
        case rel => first | exact HST2.out | ((repeat apply Exists.intro); exact ⟨HST2.out, rfl⟩)
        case measure => (first | (simp [intOf]; done) | (simp [intOf]; omega) | omega)
      · rw [hh] at HCR
        have HNL := Lib.hid (show letG s.data.toList (k + 1) = letG s.data.toList k ++ [letR k] by rw [letG, hh]; rfl)
        have hO6 := HPS.out.row
        rw [← HN.out] at hO6
        have HO6 := Lib.hid hO6
        have HNW := Lib.hid (news3 w1 (letR k) 71)
        have hb1 := HPS.out.below.size
        clear hh hO6
        go_wp2_with fail
        refine (HCR.out _).mono ?_
        rintro e w5 ⟨rfl, rfl⟩
        go_wp2_with (first | (at_builtin; refine wpList_append_own _ rfl _ _ 28 rfl w.heap.size 71 i0 (.agg #[.string ⟨#[]⟩, .int .i64 0, .int .i64 0]) 3 32 Try.underlying28 hi hz0 hz1 hz2 rfl (by decide) _ _ _ rfl (World.ownsRow.alloc HO6.out _) ⟨w5.heap.size, 0, none⟩ 1 1 (rc (letR k)) rfl rfl HNW.out (rc_cell _) (by unfold maxLen; omega) (by omega) (by simp; omega) ?_))
        intro v8 w8 hown' hgrow _
        obtain ⟨A8, c8, rfl⟩ := own_slice hown'
        have HP8 := Lib.hid (HPS.out.app (x := letR k) (by rw [← HN.out]; exact hown') hgrow)
        have HLA : Hid (∀ W, Calls Try.prog 61 #[.slice A8 (N + 1) c8] W fun e w' => e = .returned (.int .i64 (N : Int)) ∧ w' = W) := Lib.hid (fun W => (lastA A8 (N + 1) c8 (by omega) W).mono fun e w' h => ⟨h.1.trans (ret_int (by omega)), h.2⟩)
        have hwf : (Lit.int .i64 (N : Int)).wf = true := by simp [Lit.wf, IntKind.min, IntKind.max, IntKind.signed, IntKind.bits]; omega
        obtain ⟨D, hD, hDm, hDa⟩ := HP8.out.map
        have HDA := Lib.hid (put_at hDm hDa)
        have HDM := Lib.hid hDm
        have HD := Lib.hid hD
        clear hown' hgrow hD hDm hDa
        go_wp2_with fail
        refine (HLA.out _).mono ?_
        rintro e w9 ⟨rfl, rfl⟩
        go_wp2_with (first | (at_mapUpdate; refine wpList_mapUpdate_own _ rfl _ _ _ 171 rfl 21 2 keyed32 Try.underlying171 _ (w.heap.size + 1) k _ rfl HD.out (by unfold maxLen; omega) _ _ _ rfl rfl (key32 k hk4) _ [] (plainElem_int Try.underlying2 hwf) ?_))
        intro w10 hown1 hgrow1
        have HP10 := Lib.hid (HP8.out.upd hown1 (HDM.out.put _ _) (by
          have := HDA.out
          rw [show ((idxC s.data.toList k : Nat) : Int) = (N : Int) from by unfold idxC; rw [← HN.out]] at this
          exact this) hgrow1)
        have hm10 := iterPos_of HP10.out.it
        have HST2 : Hid (R1Rel s.data.toList w (.slice A8 (N + 1) c8) w10) := Lib.hid ⟨k + 1, by omega, by rw [HNL.out]; exact HP10.out⟩
        clear hown1 hgrow1
        go_wp2_with fail
        go_roundw
        case rel => first | exact HST2.out | ((repeat apply Exists.intro); exact ⟨HST2.out, rfl⟩)
        case measure => (first | (simp [intOf]; done) | (simp [intOf]; omega) | omega)
    · have hnx := abcd_end wo (w.heap.size + 2) k hk4 hit
      obtain rfl : k = 4 := by omega
      have HPS := Lib.hid hps
      have hb1 := hps.below.size
      clear hps hit
      go_wp2_with (first | (at_make; refine wpList_make_own _ rfl _ _ 53 rfl w.heap.size 2 j0 (.int .i64 0) 1 Try.underlying53 gi gz0 gz1 .i64 .i64 _ s.size rfl rfl rfl (by rw [gz2]; omega) (by unfold maxLen; omega) hb1 ?_))
      intro w3 hown hg
      have hB3 := below_of_grown hg
      obtain ⟨I, hI⟩ : ∃ I, I = w3.heap.size := ⟨_, rfl⟩
      have HST3 : Hid (R2Rel s w I (.slice A2 N c2) (.slice (some ⟨wo.heap.size, 0, none⟩) 0 s.size) (w3.iter s 0)) := Lib.hid ⟨0, Nat.zero_le _, ⟨World.ownsRow.alloc (own_below HPS.out.row hB3 (Nat.le_refl _)) _,
        (HPS.out.map.kept (gbOf hB3 none) (by simp)).kept (World.grownBy_alloc _ _ none) (by simp), by rw [hI]; exact World.iter_heap w3 s 0, (HPS.out.below.trans (hB3.mono hb1)).alloc (Nat.le_trans hb1 hB3.size) _, by
          rw [hI]
          have h1 := (Array.getElem?_eq_some_iff.1 HPS.out.it).1
          have h2 := hB3.size
          omega⟩, by rw [List.take_zero]; exact hown.alloc _⟩
      clear hown hg hB3 hnx hb1
      go_wp2_with fail
      rw [← hI]
      generalize w3.iter s 0 = w4 at *
      clear hI
      go_loopw [8, 10] (fun u _ wr => R2Rel s w I (.slice A2 N c2) u wr) (fun _ _ wr => s.size - wr.iterPos I)
      case atStart => exact HST3.out
      case round =>
        obtain ⟨q, hq, hps, hu⟩ := hrel
        obtain ⟨wu, rfl⟩ : ∃ wu : World, wu = wr := ⟨_, rfl⟩
        obtain ⟨A4, c4, rfl⟩ := own_slice hu
        have hit := hps.it
        have hms := iterPos_of hit
        by_cases hlt : q < s.size
        · have hm := mem_at s q hlt
          have hl1 : lt (s[q]'hlt) = true := lt_mem' HS.out hm
          obtain ⟨D1, hD1⟩ : ∃ D1, D1 = noC (s[q]'hlt) := ⟨_, rfl⟩
          have hD4 : D1 < 4 := by rw [hD1]; exact noC_lt hl1
          have hch : hasC s.data.toList D1 = true := by unfold hasC; rw [hD1, ltC_noC hl1]; exact decide_eq_true hm
          have hto : (s[q]'hlt).toNat = 97 + D1 := by have := of_lt hl1; rw [hD1]; unfold noC; omega
          have hnx : ∀ ty, (Instr.next (.pointer (some ⟨I, 0, none⟩)) true ty).run Try.prog wu = .ok (.tuple #[.bool true, .int .i64 q, .int .i32 (97 + (D1 : Int))]) (wu.iterAt I s (q + 1)) := fun ty => by
            rw [Lib.run_next_ascii_at wu I s q ty hit hlt (by rw [hto]; omega), hto]
            simp
          have HPS1 := Lib.hid (hps.next (q + 1))
          have HU1 := Lib.hid (World.ownsRow.kept hu (grown_iterAt wu I s (q + 1)) (.inr (own_iter_ne hu hit)))
          have HTK := Lib.hid (show (nsC s.data.toList).take (q + 1) = (nsC s.data.toList).take q ++ [(idxC s.data.toList D1 : Int)] from by
            have hl : q < (nsC s.data.toList).length := by rw [nsC_len]; simpa using hlt
            rw [List.take_succ_eq_append_getElem hl]
            congr 2
            simp only [nsC, List.getElem_map]
            rw [hD1]
            simp
            rfl)
          clear hps hu hit hto hD1 hl1 hm
          generalize wu.iterAt I s (q + 1) = w5 at *
          have hm1 := iterPos_of HPS1.out.it
          have hb5 := HPS1.out.below.size
          obtain ⟨D, hD, hDm, hDa⟩ := HPS1.out.map
          have HDA := Lib.hid (hDa D1 hD4 hch)
          have HD := Lib.hid hD
          clear hD hDm hDa hch
          go_wp2_with (first | (at_lookup; refine wpList_lookup_own_int _ rfl _ _ 171 rfl 21 2 .i64 keyed32 Try.underlying171 Try.underlying2 (zero64 _) (w.heap.size + 1) 4 _ rfl HD.out _ _ rfl (key32 D1 hD4) ?_; intro c hat hwc) | (at_builtin; refine wpList_append_own _ rfl _ _ 53 rfl w.heap.size 2 j0 (.int .i64 0) 1 8 Try.underlying53 gi gz0 gz1 gz2 rfl (by decide) _ _ _ rfl (World.ownsRow.alloc HU1.out _) ⟨w5.heap.size, 0, none⟩ 1 1 [.int .i64 c] rfl rfl (World.news_of_block (cs := #[.int .i64 c]) (heap_alloc_new w5 _)) (by intro u hu; simp at hu; subst hu; rfl) (by unfold maxLen; omega) (by omega) (by simp; omega) ?_))
          intro v8 w8 hown' hgrow _
          have hc : (idxC s.data.toList D1 : Int) = c := by
            have := (HDA.out (.lit (.int .i64 0))).symm.trans hat
            injection this with h1
            injection h1 with _ h2
          obtain ⟨A8, c8, rfl⟩ := own_slice hown'
          have HP8 := Lib.hid (HPS1.out.num HU1.out hgrow)
          have hm8 := iterPos_of HP8.out.it
          have HST4 : Hid (R2Rel s w I (.slice A2 N c2) (.slice A8 (q + 1) c8) w8) := Lib.hid ⟨q + 1, by omega, HP8.out, by rw [HTK.out, iv_app, hc]; exact hown'⟩
          clear hown' hgrow hat hwc hc
          go_wp2_with fail
          go_roundw
          case rel => first | exact HST4.out | ((repeat apply Exists.intro); exact ⟨HST4.out, rfl⟩)
          case measure => (first | (simp [intOf]; done) | (simp [intOf]; omega) | omega)
        · obtain rfl : q = s.size := by omega
          have hnx : ∀ ty, (Instr.next (.pointer (some ⟨I, 0, none⟩)) true ty).run Try.prog wu = .ok (.tuple #[.bool false]) wu := fun ty => Lib.run_next_end_at wu I s s.size ty hit (by omega)
          have hsl : s.data.toList.length = s.size := by simp
          rw [List.take_of_length_le (by rw [nsC_len, hsl]; exact Nat.le_refl _)] at hu
          have HRW := Lib.hid hps.row
          have HUW := Lib.hid hu
          have HB := Lib.hid hps.below
          clear hps hu hit hms hsl
          go_wp2_with fail
          go_ret2
          exact ⟨_, _, rfl, HRW.out, HUW.out, HB.out⟩
set_option maxHeartbeats 800000 in
theorem plainRules_any (s : ByteArray) (w : World) (hs : okL s.data.toList = true) :
    Calls Try.prog 68 #[.string s] w fun e w' => ∃ y, e = .returned y ∧ OwnsR w' w.heap.size y (plainG s.data.toList) ∧ Below w.heap.size w w' := by
  have HL := Lib.hid (lettersOf_any s w hs)
  have hlen := okL_len hs
  have hsl : s.data.toList.length = s.size := by simp
  have h4 := letG_len s.data.toList 4
  have HS := Lib.hid hs
  have HLN := Lib.hid hlen
  have H4 := Lib.hid h4
  have HSL := Lib.hid hsl
  obtain ⟨N, hN⟩ : ∃ N, N = (letG s.data.toList 4).length := ⟨_, rfl⟩
  have HN := Lib.hid hN
  clear hs hlen hsl h4 hN
  go_enter Try.func68, Try.ntmps68
  go_wp2_with fail
  refine HL.out.mono ?_
  rintro e w1 ⟨y, u, rfl, hy, hu, hB⟩
  rw [← HN.out] at hy
  obtain ⟨A2, c2, rfl⟩ := own_slice hy
  obtain ⟨A4, c4, rfl⟩ := own_slice hu
  have HB := Lib.hid hB
  have HC := chained_any A2 A4 c2 c4 w.heap.size s.data.toList (letG s.data.toList 4) w1 HLN.out H4.out (fun x hx => lt_mem' HS.out hx) hB.size (by rw [← HN.out]; exact hy) (by rw [HSL.out]; exact hu)
  rw [← HN.out, HSL.out] at HC
  have HC := Lib.hid HC
  clear hy hu hB
  go_wp2_with fail
  refine HC.out.mono ?_
  rintro e w9 ⟨y, rfl, ho, hB⟩
  have HF : Hid (OwnsR w9 w.heap.size y (plainG s.data.toList)) := Lib.hid (by
    unfold OwnsR plainG
    rw [← HN.out, HSL.out]
    exact ho)
  have HB9 := Lib.hid (HB.out.trans hB)
  clear ho hB
  go_wp2_with fail
  go_ret
  exact ⟨_, rfl, HF.out, HB9.out⟩
end Go.Proofs.Ytlkjceolddccbaa
