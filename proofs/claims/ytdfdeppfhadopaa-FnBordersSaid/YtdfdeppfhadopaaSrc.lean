/-
  Walks: the model's source of choices: next, pick, one.
-/
import Derived.Test.YtdfdeppfhadopaaBase
import Derived.Deep.QuietTactic
import Derived.Deep.AppendLies
import Derived.Lib.VarintBits
import Derived.Outline
namespace Go.Proofs.Ytdfdeppfhadopaa
open Go.RowKit
open Wd
set_option linter.unusedVariables false

theorem add_block (A : Addr) (j : Nat) : (A.add j).block = A.block := by unfold Addr.add; split <;> rfl

/-- the bytes that a source reads from can be read, and lie in a block before that of the source -/
def Code (w : World) (B : Nat) (a : Option Addr) (len : Nat) : Prop :=
  len = 0 ∨ ∃ A, a = some A ∧ A.block < B ∧ ∀ j, j < len → ∃ c : Nat, c ≤ 255 ∧ w.cell? (A.add j) = some (.int .u8 c)

/-- a source of choices in block B that reads from a slice of bytes, n of which have been asked for -/
def Src (w : World) (B : Nat) (a : Option Addr) (len cap n : Nat) : Prop :=
  ∃ x : Int, w.cell? ⟨B, 0, none⟩ = some (.slice a len cap) ∧ w.cell? ⟨B, 1, none⟩ = some (.int .i64 n) ∧ w.cell? ⟨B, 2, none⟩ = some (.int .u64 x) ∧
    w.frozen? ⟨B, 1, none⟩ = false ∧ w.frozen? ⟨B, 2, none⟩ = false ∧ B < w.heap.size ∧ Code w B a len

theorem Code.kept {w w' : World} {B : Nat} {a : Option Addr} {len : Nat} {row : Option Nat} (h : Code w B a len) (hg : w.grownBy w' row) (hr : ∀ g, row = some g → B ≤ g) : Code w' B a len := by
  rcases h with h | ⟨A, h1, h2, h3⟩
  · exact .inl h
  · refine .inr ⟨A, h1, h2, fun j hj => ?_⟩
    obtain ⟨c, hc, hh⟩ := h3 j hj
    refine ⟨c, hc, hg.cell hh ?_⟩
    intro e
    have := hr _ e.symm
    rw [add_block] at this
    omega

theorem Src.kept {w w' : World} {B : Nat} {a : Option Addr} {len cap n : Nat} {row : Option Nat} (h : Src w B a len cap n) (hg : w.grownBy w' row) (hr : ∀ g, row = some g → B < g) : Src w' B a len cap n := by
  obtain ⟨x, h0, h1, h2, h3, h4, h5, h6⟩ := h
  have hne : some B ≠ row := by intro e; have := hr _ e.symm; omega
  refine ⟨x, hg.cell h0 hne, hg.cell h1 hne, hg.cell h2 hne, ?_, ?_, Nat.lt_of_lt_of_le h5 hg.size, h6.kept hg (fun g e => Nat.le_of_lt (hr g e))⟩
  · rw [hg.frozen_far ⟨B, 1, none⟩ h5 hne]; exact h3
  · rw [hg.frozen_far ⟨B, 2, none⟩ h5 hne]; exact h4

theorem grown_set (w : World) (b i : Nat) (v : Value) : w.grownBy (w.setCell ⟨b, i, none⟩ v) (some b) :=
  ⟨rfl, rfl, rfl, by simp, fun k hk hne => Below.heap_setCell w _ v k (by intro e; exact hne (by rw [e]))⟩
theorem grown_drew (w : World) (n : Nat) (row : Option Nat) : w.grownBy (w.drewN n) row := ⟨rfl, rfl, rfl, Nat.le_refl _, fun _ _ _ => rfl⟩

/-- the two cells that 'next' writes -/
def nextW (w : World) (B n p q : Nat) (y : Int) : World := (((w.drewN p).setCell ⟨B, 1, none⟩ (.int .i64 (n + 1))).setCell ⟨B, 2, none⟩ (.int .u64 y)).drewN q

theorem nextW_grown (w : World) (B n p q : Nat) (y : Int) : w.grownBy (nextW w B n p q y) (some B) :=
  (((grown_drew w p _).trans (grown_set _ _ _ _)).trans (grown_set _ _ _ _)).trans (grown_drew _ _ _)

theorem nextW_src {w : World} {B : Nat} {a : Option Addr} {len cap n : Nat} (h : Src w B a len cap n) (p q : Nat) (y : Int) : Src (nextW w B n p q y) B a len cap (n + 1) := by
  obtain ⟨x, h0, h1, h2, h3, h4, h5, h6⟩ := h
  have g := nextW_grown w B n p q y
  refine ⟨y, ?_, ?_, ?_, ?_, ?_, Nat.lt_of_lt_of_le h5 g.size, h6.kept g (fun g e => by cases e; exact Nat.le_refl _)⟩
  · unfold nextW
    rw [World.cell?_drewN, World.cell?_setCell_other _ ⟨B, 2, none⟩ ⟨B, 0, none⟩ _ (by simp), World.cell?_setCell_other _ ⟨B, 1, none⟩ ⟨B, 0, none⟩ _ (by simp)]; exact h0
  · unfold nextW
    rw [World.cell?_drewN, World.cell?_setCell_other _ ⟨B, 2, none⟩ ⟨B, 1, none⟩ _ (by simp)]
    exact World.cell?_setCell_same _ _ _ (u := .int .i64 n) h1
  · unfold nextW
    rw [World.cell?_drewN]
    exact World.cell?_setCell_same _ _ _ (u := .int .u64 x) (by rw [World.cell?_setCell_other _ ⟨B, 1, none⟩ ⟨B, 2, none⟩ _ (by simp)]; exact h2)
  · unfold nextW; simpa using h3
  · unfold nextW; simpa using h4

theorem and255 (y : Int) (h : 0 ≤ y) (h' : y < 18446744073709551616) : bits .and .u64 y 255 = y % 256 := bits_mask .u64 64 (by decide) wraps_u64 8 (by decide) y h h'

theorem low_byte (z : Int) : 0 ≤ wrap64 (bits .and .u64 (IntKind.u64.wrap z / 1099511627776) 255) ∧ wrap64 (bits .and .u64 (IntKind.u64.wrap z / 1099511627776) 255) ≤ 255 := by
  have h : 0 ≤ IntKind.u64.wrap z ∧ IntKind.u64.wrap z < 18446744073709551616 := by
    rw [show IntKind.u64.wrap z = z % 18446744073709551616 from IntKind.wrap_u64 z]; omega
  rw [and255 _ (by omega) (by omega)]
  unfold wrap64
  omega

theorem byte_lo (c : Nat) (h : c ≤ 255) : 0 ≤ wrap64 (c : Int) := by unfold wrap64; omega
theorem byte_hi (c : Nat) (h : c ≤ 255) : wrap64 (c : Int) ≤ 255 := by unfold wrap64; omega

set_option maxRecDepth 100000 in
set_option maxHeartbeats 1600000 in
theorem next_out (B : Nat) (a : Option Addr) (len cap n : Nat) (w : World) (hn : n ≤ 1000000) (hl : len ≤ 1000000) (h : Src w B a len cap n) (ho : len ≤ n) :
    Calls Try.prog 37 #[.pointer (some ⟨B, 0, none⟩)] w fun e w' => ∃ r : Int, e = .returned (.int .i64 r) ∧ 0 ≤ r ∧ r ≤ 255 ∧ Src w' B a len cap (n + 1) ∧ w.grownBy w' (some B) := by
  have HS := Lib.hid h
  obtain ⟨x, h0, h1, h2, h3, h4, h5, h6⟩ := h
  have t1 : decide ((n : Int) < (len : Int)) = false := by simp; omega
  have t2 : ¬ (n : Int) < (len : Int) := by omega
  have t3 : ¬ (n : Int) + 1 ≤ (len : Int) := by omega
  clear h5 h6
  go_enter Try.func37, Try.ntmps37
  go_wp2
  go_quiet (fail)
  go_wp2
  go_quiet (fail)
  go_wp2
  go_ret
  exact ⟨_, rfl, (low_byte _).1, (low_byte _).2, nextW_src HS.out _ _ _, nextW_grown _ _ _ _ _ _⟩

set_option maxRecDepth 100000 in
set_option maxHeartbeats 1600000 in
theorem next_in (B : Nat) (a : Option Addr) (len cap n : Nat) (w : World) (hn : n ≤ 1000000) (hl : len ≤ 1000000) (h : Src w B a len cap n) (ho : n < len) :
    Calls Try.prog 37 #[.pointer (some ⟨B, 0, none⟩)] w fun e w' => ∃ r : Int, e = .returned (.int .i64 r) ∧ 0 ≤ r ∧ r ≤ 255 ∧ Src w' B a len cap (n + 1) ∧ w.grownBy w' (some B) := by
  have HS := Lib.hid h
  obtain ⟨x, h0, h1, h2, h3, h4, h5, h6⟩ := h
  rcases h6 with h6 | ⟨A, rfl, hA, hc⟩
  · omega
  obtain ⟨c, hc1, hc2⟩ := hc n ho
  have t1 : decide ((n : Int) < (len : Int)) = true := by simp; omega
  have t2 : (n : Int) < (len : Int) := by omega
  have t3 : (n : Int) + 1 ≤ (len : Int) := by omega
  clear h5 hc hA
  have HC := Lib.hid hc1
  clear hc1
  go_enter Try.func37, Try.ntmps37
  go_wp2
  go_quiet (fail)
  go_wp2
  go_quiet (fail)
  go_wp2
  go_quiet (fail)
  go_wp2
  go_ret
  exact ⟨_, rfl, byte_lo c HC.out, byte_hi c HC.out, nextW_src HS.out _ _ _, nextW_grown _ _ _ _ _ _⟩

theorem next (B : Nat) (a : Option Addr) (len cap n : Nat) (w : World) (hn : n ≤ 1000000) (hl : len ≤ 1000000) (h : Src w B a len cap n) :
    Calls Try.prog 37 #[.pointer (some ⟨B, 0, none⟩)] w fun e w' => ∃ r : Int, e = .returned (.int .i64 r) ∧ 0 ≤ r ∧ r ≤ 255 ∧ Src w' B a len cap (n + 1) ∧ w.grownBy w' (some B) := by
  by_cases ho : n < len
  · exact next_in B a len cap n w hn hl h ho
  · exact next_out B a len cap n w hn hl h (by omega)

set_option maxHeartbeats 800000 in
/-- a choice among few -/
theorem pick (B : Nat) (a : Option Addr) (len cap n : Nat) (w : World) (hn : n ≤ 1000000) (hl : len ≤ 1000000) (h : Src w B a len cap n) (k : Int) (hk0 : 0 ≤ k) (hk : k ≤ 200) :
    Calls Try.prog 27 #[.pointer (some ⟨B, 0, none⟩), .int .i64 k] w fun e w' => ∃ (r : Int) (n' : Nat), e = .returned (.int .i64 r) ∧ 0 ≤ r ∧ (1 < k → r < k) ∧ (k ≤ 1 → r = 0) ∧ n' ≤ n + 1 ∧ Src w' B a len cap n' ∧ w.grownBy w' (some B) := by
  by_cases h1 : k ≤ 1
  · go_enter Try.func27, Try.ntmps27
    go_wp2
    go_ret
    exact ⟨0, n, rfl, by omega, fun _ => by omega, fun _ => rfl, by omega, h, World.grownBy.refl _ _⟩
  · have c1 := next B a len cap n w hn hl h
    have h2 : ¬ 200 < k := by omega
    have h3 : ¬ k = 0 := by omega
    have H := Lib.hid c1
    have HK : 1 < k := by omega
    have H4 := Lib.hid HK
    clear c1 h hn hl hk hk0 HK
    go_enter Try.func27, Try.ntmps27
    go_wp2_with (go_at_call 37; refine H.out.mono ?_; rintro e w' ⟨r, rfl, hr0, hr1, hs, hg⟩)
    go_ret
    have := H4.out
    exact ⟨_, n + 1, rfl, Int.emod_nonneg _ (by omega), fun _ => Int.emod_lt_of_pos _ (by omega), fun h => by omega, Nat.le_refl _, hs, hg⟩

set_option maxHeartbeats 800000 in
theorem one (B : Nat) (a : Option Addr) (len cap n : Nat) (w : World) (hn : n ≤ 1000000) (hl : len ≤ 1000000) (h : Src w B a len cap n) (k : Int) (hk0 : 0 ≤ k) (hk : k ≤ 200) :
    Calls Try.prog 28 #[.pointer (some ⟨B, 0, none⟩), .int .i64 k] w fun e w' => ∃ (b : Bool) (n' : Nat), e = .returned (.bool b) ∧ n' ≤ n + 1 ∧ Src w' B a len cap n' ∧ w.grownBy w' (some B) := by
  have c1 := pick B a len cap n w hn hl h k hk0 hk
  have H := Lib.hid c1
  clear c1 h hn hl hk0 hk
  go_enter Try.func28, Try.ntmps28
  go_wp2_with (go_at_call 27; refine H.out.mono ?_; rintro e w' ⟨r, n', rfl, hr0, hr1, hr2, hs⟩)
  go_ret
  exact ⟨_, n', rfl, hs⟩

theorem cell_lt {w : World} {A : Addr} {v : Value} (h : w.cell? A = some v) : A.block < w.heap.size := by
  rcases Nat.lt_or_ge A.block w.heap.size with h' | h'
  · exact h'
  · simp [World.cell?, Array.getElem?_eq_none h'] at h

set_option maxHeartbeats 800000 in
theorem from_ (a : Option Addr) (len cap : Nat) (w : World) (h : len = 0 ∨ ∃ A, a = some A ∧ ∀ j, j < len → ∃ c : Nat, c ≤ 255 ∧ w.cell? (A.add j) = some (.int .u8 c)) :
    Calls Try.prog 19 #[.slice a len cap] w fun e w' => e = .returned (.pointer (some ⟨w.heap.size, 0, none⟩)) ∧ Src w' w.heap.size a len cap 0 ∧ w'.heap.size = w.heap.size + 1 ∧ w.grownBy w' none := by
  go_enter Try.func19, Try.ntmps19
  go_wp2
  go_ret
  refine ⟨rfl, ⟨0, by simp, by simp, by simp, ?_, ?_, by simp, ?_⟩, by simp, World.grownBy_alloc _ _ _⟩
  · rw [World.frozen?_alloc_new]
  · rw [World.frozen?_alloc_new]
  · rcases h with h | ⟨A, h1, h2⟩
    · exact .inl h
    · by_cases h0 : len = 0
      · exact .inl h0
      · obtain ⟨c0, hc0, hcc⟩ := h2 0 (by omega)
        have hlt := cell_lt hcc
        rw [add_block] at hlt
        refine .inr ⟨A, h1, hlt, fun j hj => ?_⟩
        obtain ⟨c, hc, hh⟩ := h2 j hj
        exact ⟨c, hc, by rw [World.cell?_alloc_lt _ _ _ (by rw [add_block]; exact hlt)]; exact hh⟩

end Go.Proofs.Ytdfdeppfhadopaa
