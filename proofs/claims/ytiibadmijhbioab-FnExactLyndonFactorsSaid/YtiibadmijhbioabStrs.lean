/-
  Walks over rows of strings that the call owns: laws.eqStringS at equal rows, laws.markStringS, laws.heldStringS.
-/
import Derived.Test.YtiibadmijhbioabText
import Derived.Deep.QuietTactic
import Derived.Deep.RegionHeld3
namespace Go.Proofs.Ytiibadmijhbioab
open Go.RowKit
open Wd
set_option linter.unusedVariables false

namespace Wd
/-- texts as cells -/
def sv (l : List ByteArray) : List Value := l.map Value.string
theorem sv_len (l : List ByteArray) : (sv l).length = l.length := by simp [sv]
theorem sv_app (l m : List ByteArray) : sv (l ++ m) = sv l ++ sv m := by simp [sv]
theorem sv_get (l : List ByteArray) (j : Nat) (h : j < l.length) : (sv l)[j]? = some (.string l[j]) := by simp [sv, h]
/-- the marks of k, k + 1, .. -/
def mks (k : Nat) (n : Nat) : List ByteArray := (List.range n).map fun j => mkT (k + j)
theorem mks_len (k : Nat) (n : Nat) : (mks k n).length = n := by simp [mks]
theorem mks_snoc (k : Nat) (n : Nat) : mks k (n + 1) = mks k n ++ [mkT (k + n)] := by simp [mks, List.range_succ]
theorem sv_set (k : Nat) (zs : List ByteArray) (j : Nat) (h : j < zs.length) :
    (sv (mks k j ++ zs.drop j)).set j (.string (mkT (k + j))) = sv (mks k (j + 1) ++ zs.drop (j + 1)) := by
  have e1 : zs.drop j = zs[j] :: zs.drop (j + 1) := List.drop_eq_getElem_cons h
  rw [e1, mks_snoc]
  generalize zs.drop (j + 1) = d
  have e2 : (sv (mks k j)).length = j := by rw [sv_len, mks_len]
  rw [sv_app, sv_app, sv_app]
  generalize mkT (k + j) = t
  generalize sv (mks k j) = A at e2
  subst e2
  simp [sv]
end Wd

/-- a row of strings of the call's own -/
abbrev OwnsS (w : World) (B : Nat) (v : Value) (zs : List ByteArray) : Prop := w.ownsRow B 9 1 v zs.length (sv zs)

theorem OwnsS.cell {w : World} {B g cap : Nat} {zs : List ByteArray} (h : OwnsS w B (.slice (some ⟨g, 0, none⟩) zs.length cap) zs) (j : Nat) (hj : j < zs.length) : w.cell? ⟨g, j, none⟩ = some (.string zs[j]) := by
  rw [h.cellAt j (by omega), sv_get zs j hj]
theorem OwnsS.shape {w : World} {B : Nat} {v : Value} {zs : List ByteArray} (h : OwnsS w B v zs) :
    (v = .slice none 0 0 ∧ zs = []) ∨ ∃ g cap, v = .slice (some ⟨g, 0, none⟩) zs.length cap ∧ B ≤ g ∧ g < w.heap.size := by
  rcases h.2 with ⟨rfl, h0⟩ | ⟨g, cap, cur, rfl, hb, hg, _⟩
  · exact .inl ⟨rfl, List.eq_nil_of_length_eq_zero h0⟩
  · exact .inr ⟨g, cap, rfl, hb, (Array.getElem?_eq_some_iff.1 hg).1⟩
theorem OwnsS.below {w w' : World} {B C : Nat} {v : Value} {zs : List ByteArray} (h : OwnsS w B v zs) (hb : Below C w w') (hC : w.heap.size ≤ C) : OwnsS w' B v zs :=
  World.ownsRow.kept h (row := none) ⟨hb.os, hb.tape, hb.output, hb.size, fun k hk _ => hb.block k (by omega)⟩ (by cases hv : v.ownBlock <;> simp)
theorem OwnsS.drawn {w w' : World} {B : Nat} {v : Value} {zs : List ByteArray} (h : OwnsS w B v zs) (hd : Drawn w w') : OwnsS w' B v zs := by
  obtain ⟨n, rfl⟩ := hd; exact h
theorem OwnsS.lit (w : World) : OwnsS (w.alloc (.cells #[] 9)) w.heap.size (.slice (some ⟨w.heap.size, 0, none⟩) 0 0) [] :=
  World.ownsRow_lit w #[] 0 (Nat.le_refl _) (by decide) rfl
theorem grownBy_of_below {w w' : World} {row : Option Nat} (h : Below w.heap.size w w') : w.grownBy w' row :=
  ⟨h.os, h.tape, h.output, h.size, fun k hk _ => h.block k hk⟩
theorem grownBy_trans {a b c : World} {row : Option Nat} (h : a.grownBy b row) (h' : b.grownBy c row) : a.grownBy c row :=
  ⟨h'.os.trans h.os, h'.tape.trans h.tape, h'.output.trans h.output, Nat.le_trans h.size h'.size, fun q hq hne => (h'.block q (Nat.lt_of_lt_of_le hq h.size) hne).trans (h.block q hq hne)⟩

theorem eqS_zero (a b : Option Addr) (c d : Nat) (w : World) :
    Calls Try.prog 43 #[.slice a 0 c, .slice b 0 d] w fun e w' => e = .returned (.bool true) ∧ Drawn w w' := by
  go_enter Try.func43, Try.ntmps43
  go_wp2
  refine wp_loop_rounds 1 ?_
  rw [rounds_succ]
  go_wp2
  go_ret
  exact ⟨rfl, Drawn.refl _⟩

set_option maxHeartbeats 400000 in
theorem eqS_some (g1 g2 c d n : Nat) (zs : List ByteArray) (hn : zs.length = n) (hn' : n ≤ 1000000) (w : World) (h1 : ∀ j (hj : j < zs.length), w.cell? ⟨g1, j, none⟩ = some (.string zs[j])) (h2 : ∀ j (hj : j < zs.length), w.cell? ⟨g2, j, none⟩ = some (.string zs[j])) :
    Calls Try.prog 43 #[.slice (some ⟨g1, 0, none⟩) n c, .slice (some ⟨g2, 0, none⟩) n d] w fun e w' => e = .returned (.bool true) ∧ Drawn w w' := by
  have H1 := Lib.hid h1
  have H2 := Lib.hid h2
  have HN := Lib.hid hn
  clear h1 h2 hn
  go_enter Try.func43, Try.ntmps43
  go_wp2
  go_loopw [5] (fun i wr => ∃ k : Nat, k ≤ n ∧ i = .int .i64 k ∧ Drawn w wr) (fun i _ => n - (intOf i).toNat)
  case atStart => exact ⟨0, Nat.zero_le _, rfl, Drawn.refl _⟩
  case round =>
    obtain ⟨k, hk, rfl, hD⟩ := hrel
    by_cases hlt : k < n
    · have hkz : k < zs.length := by rw [HN.out]; exact hlt
      have c1 : wr.cell? ⟨g1, k, none⟩ = some (.string zs[k]) := by obtain ⟨m, rfl⟩ := hD; exact H1.out k hkz
      have c2 : wr.cell? ⟨g2, k, none⟩ = some (.string zs[k]) := by obtain ⟨m, rfl⟩ := hD; exact H2.out k hkz
      generalize zs[k] = z at c1 c2
      clear hkz
      go_wp2
      go_quiet (fail)
      go_wp2
      go_roundw
      case rel => exact ⟨k + 1, by omega, by go_num, hD.drewN _⟩
      case measure => simp [intOf]; omega
    · go_wp2
      go_ret
      exact ⟨rfl, hD⟩

theorem eqS (a b : Value) (zs : List ByteArray) (B C : Nat) (w : World) (h1 : OwnsS w B a zs) (h2 : OwnsS w C b zs) (hn : zs.length ≤ 1000000) :
    Calls Try.prog 43 #[a, b] w fun e w' => e = .returned (.bool true) ∧ Drawn w w' := by
  by_cases h0 : zs.length = 0
  · have hz := List.eq_nil_of_length_eq_zero h0
    subst hz
    have sh : ∀ {v B}, OwnsS w B v [] → ∃ a c, v = .slice a 0 c := fun h => by
      rcases h.shape with ⟨rfl, _⟩ | ⟨g, cap, rfl, _⟩
      · exact ⟨_, _, rfl⟩
      · exact ⟨_, _, rfl⟩
    obtain ⟨_, _, rfl⟩ := sh h1
    obtain ⟨_, _, rfl⟩ := sh h2
    exact eqS_zero _ _ _ _ _
  · rcases h1.shape with ⟨_, rfl⟩ | ⟨g1, c1, rfl, _⟩
    · simp at h0
    rcases h2.shape with ⟨_, rfl⟩ | ⟨g2, c2, rfl, _⟩
    · simp at h0
    exact eqS_some g1 g2 c1 c2 _ zs rfl hn w (fun j hj => h1.cell j hj) (fun j hj => h2.cell j hj)

theorem markS_zero (a : Option Addr) (c : Nat) (k : Int) (w : World) :
    Calls Try.prog 44 #[.slice a 0 c, .int .i64 k] w fun e w' => e = .returned (.int .i64 k) ∧ w = w' := by
  go_enter Try.func44, Try.ntmps44
  go_wp2
  refine wp_loop_rounds 1 ?_
  rw [rounds_succ]
  go_wp2
  go_ret
  exact ⟨rfl, rfl⟩

set_option maxRecDepth 100000 in
set_option maxHeartbeats 400000 in
theorem markS_some (g c n B : Nat) (zs : List ByteArray) (hn : zs.length = n) (hn' : n ≤ 1000000) (k : Nat) (hk1 : k ≤ 1000000) (w : World) (h : w.ownsRow B 9 1 (.slice (some ⟨g, 0, none⟩) n c) n (sv zs)) :
    Calls Try.prog 44 #[.slice (some ⟨g, 0, none⟩) n c, .int .i64 k] w fun e w' => e = .returned (.int .i64 ((k : Int) + n)) ∧
      w'.ownsRow B 9 1 (.slice (some ⟨g, 0, none⟩) n c) n (sv (mks k n)) ∧ w.grownBy w' (some g) := by
  have HN := Lib.hid hn
  clear hn
  go_enter Try.func44, Try.ntmps44
  go_wp2
  go_loopw [1, 5] (fun q i wr => ∃ j : Nat, j ≤ n ∧ i = .int .i64 j ∧ q = .int .i64 ((k + j : Nat) : Int) ∧ wr.ownsRow B 9 1 (.slice (some ⟨g, 0, none⟩) n c) n (sv (mks k j ++ zs.drop j)) ∧ w.grownBy wr (some g))
    (fun _ i _ => n - (intOf i).toNat)
  case atStart => exact ⟨0, Nat.zero_le _, rfl, rfl, by simpa [mks] using h, World.grownBy.refl _ _⟩
  case round =>
    obtain ⟨j, hj, rfl, rfl, hown, hgr⟩ := hrel
    by_cases hlt : j < n
    · have hjz : j < zs.length := by rw [HN.out]; exact hlt
      have HM := Lib.hid (markText (k + j) (by omega) wr)
      generalize hq : k + j = q at HM ⊢
      have HQ := Lib.hid hq
      have hq1 : q ≤ 2000000 := by omega
      clear hq
      go_wp2_with fail
      refine HM.out.mono ?_
      rintro e w1 ⟨rfl, hb1⟩
      have hown1 := hown.kept (grownBy_of_below (row := none) hb1) (by simp [Value.ownBlock])
      have hc : w1.cell? ⟨g, j, none⟩ = some (.string zs[j]) := by
        have hw : (mks k j ++ zs.drop j)[j]? = some zs[j] := by
          rw [List.getElem?_append_right (by rw [mks_len]; omega), mks_len, Nat.sub_self, List.getElem?_drop]; simp [hjz]
        rw [hown1.cellAt j (by omega)]
        simp only [sv, List.getElem?_map, hw, Option.map_some]
      have hf : w1.frozen? ⟨g, j, none⟩ = false := hown1.frozenAt j
      have hst := hown1.stored j (.string (mkT q))
      rw [← HQ.out, sv_set k zs j hjz, HQ.out] at hst
      obtain ⟨hst1, hst2⟩ := hst
      have hg2 : w.grownBy (w1.setCell ⟨g, j, none⟩ (.string (mkT q))) (some g) := grownBy_trans (grownBy_trans hgr (grownBy_of_below hb1)) hst2
      generalize zs[j] = z at hc
      generalize mkT q = t at *
      clear hst2 hgr hown hjz hown1 hb1 HM
      go_wp2
      go_roundw
      case rel => exact ⟨j + 1, by omega, by go_num, by have := HQ.out; go_num, hst1, hg2⟩
      case measure => simp [intOf]; omega
    · have hjn : j = n := by omega
      have hown' : wr.ownsRow B 9 1 (.slice (some ⟨g, 0, none⟩) n c) n (sv (mks k n)) := by
        rw [hjn, List.drop_of_length_le (by rw [HN.out]; omega), List.append_nil] at hown; exact hown
      have HJ := Lib.hid hjn
      clear hjn hown
      go_wp2
      go_ret
      exact ⟨ret_int (by have := HJ.out; omega), hown', hgr⟩

theorem markS (v : Value) (zs : List ByteArray) (B : Nat) (k : Nat) (hk1 : k ≤ 1000000) (w : World) (h : OwnsS w B v zs) (hn : zs.length ≤ 1000000) :
    Calls Try.prog 44 #[v, .int .i64 k] w fun e w' => e = .returned (.int .i64 ((k : Int) + zs.length)) ∧ OwnsS w' B v (mks k zs.length) ∧ w.grownBy w' v.ownBlock := by
  rcases h.shape with ⟨rfl, rfl⟩ | ⟨g, c, rfl, _⟩
  · refine (markS_zero none 0 k w).mono fun e w' ⟨he, hw⟩ => ?_
    subst hw
    exact ⟨by rw [he]; simp, World.ownsRow_nil _ _ _ _, World.grownBy.refl _ _⟩
  · refine (markS_some g c _ B zs rfl hn k hk1 w h).mono fun e w' ⟨he, hw, hg⟩ => ⟨he, ?_, hg⟩
    unfold OwnsS
    rw [mks_len]
    exact hw

theorem heldS_zero (a : Option Addr) (c : Nat) (k : Int) (w : World) :
    Calls Try.prog 45 #[.slice a 0 c, .int .i64 k] w fun e w' => e = .returned (.int .i64 k) ∧ w = w' := by
  go_enter Try.func45, Try.ntmps45
  go_wp2
  refine wp_loop_rounds 1 ?_
  rw [rounds_succ]
  go_wp2
  go_ret
  exact ⟨rfl, rfl⟩

set_option maxRecDepth 100000 in
set_option maxHeartbeats 800000 in
theorem heldS_some (g c n : Nat) (hn' : n ≤ 1000000) (k : Nat) (hk1 : k ≤ 1000000) (w : World) (hg : g < w.heap.size) (h : ∀ j, j < n → w.cell? ⟨g, j, none⟩ = some (.string (mkT (k + j)))) :
    Calls Try.prog 45 #[.slice (some ⟨g, 0, none⟩) n c, .int .i64 k] w fun e w' => e = .returned (.int .i64 ((k : Int) + n)) ∧ Below w.heap.size w w' := by
  have H := Lib.hid h
  clear h
  go_enter Try.func45, Try.ntmps45
  go_wp2
  go_loopw [1, 5] (fun q i wr => ∃ j : Nat, j ≤ n ∧ i = .int .i64 j ∧ q = .int .i64 ((k + j : Nat) : Int) ∧ Below w.heap.size w wr) (fun _ i _ => n - (intOf i).toNat)
  case atStart => exact ⟨0, Nat.zero_le _, rfl, rfl, Below.refl _ _⟩
  case round =>
    obtain ⟨j, hj, rfl, rfl, hB⟩ := hrel
    have hsz := hB.size
    by_cases hlt : j < n
    · have hc : wr.cell? ⟨g, j, none⟩ = some (.string (mkT (k + j))) := (hB.cell (p := ⟨g, j, none⟩) hg).trans (H.out j hlt)
      have HM := Lib.hid (fun W => markText (k + j) (by omega) W)
      generalize hq : k + j = q at HM hc ⊢
      have HQ := Lib.hid hq
      have hq1 : q ≤ 2000000 := by omega
      generalize mkT q = t at *
      clear hq
      have gl : g < wr.heap.size := by omega
      have j0 : (0 : Int) ≤ (j : Int) := by omega
      have j1 : (j : Int) < (n : Int) := by omega
      go_wp2
      go_region_held3 (fun w' => w'.cell? ⟨g, j, none⟩ = some (.string t)) (first | assumption | go_keep) ((first | (go_at_call 67; refine (HM.out _).mono ?_; rintro e w2 ⟨rfl, hb2⟩; have hc2 := (hb2.cell (p := ⟨g, j, none⟩) (by simpa using gl)).trans hc)))
      go_wp2
      have hb3 : Below w.heap.size w w2 := (hB.drew).trans (hb2.mono (show w.heap.size ≤ wr.drew.heap.size from hsz))
      go_roundw
      case rel => exact ⟨j + 1, by omega, by go_num, by have := HQ.out; go_num, hb3⟩
      case measure => simp [intOf]; omega
    · have hjn : j = n := by omega
      have HJ := Lib.hid hjn
      clear hjn
      go_wp2
      go_ret
      exact ⟨ret_int (by have := HJ.out; omega), hB⟩

theorem heldS (v : Value) (n B : Nat) (k : Nat) (hk1 : k ≤ 1000000) (w : World) (h : OwnsS w B v (mks k n)) (hn : n ≤ 1000000) :
    Calls Try.prog 45 #[v, .int .i64 k] w fun e w' => e = .returned (.int .i64 ((k : Int) + n)) ∧ Below w.heap.size w w' := by
  rcases h.shape with ⟨rfl, h0⟩ | ⟨g, c, rfl, _, hg⟩
  · have : n = 0 := by have := congrArg List.length h0; rw [mks_len] at this; simpa using this
    subst this
    refine (heldS_zero none 0 k w).mono fun e w' ⟨he, hw⟩ => ⟨by rw [he]; simp, by rw [hw]; exact Below.refl _ _⟩
  · have hc : ∀ j, j < n → w.cell? ⟨g, j, none⟩ = some (.string (mkT (k + j))) := fun j hj => by
      have := h.cell j (by rw [mks_len]; exact hj)
      rw [this]
      simp [mks]
    rw [mks_len]
    exact heldS_some g c n hn k hk1 w hg hc
end Go.Proofs.Ytiibadmijhbioab
