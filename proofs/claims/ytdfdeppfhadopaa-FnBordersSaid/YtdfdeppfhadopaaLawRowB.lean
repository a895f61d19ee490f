/-
  Walks: slices of bytes that a law is given; A2Word, a2Long, a2At.
-/
import Derived.Test.YtdfdeppfhadopaaDrawn
import Derived.Test.YtdfdeppfhadopaaIsRow
namespace Go.Proofs.Ytdfdeppfhadopaa
open Go.RowKit
open Wd
set_option linter.unusedVariables false

/-- its first cells as bytes -/
def Bytes (w : World) (a : Option Addr) (len : Nat) : Prop := len = 0 ∨ ∃ A, a = some A ∧ ∀ j, j < len → ∃ c : Nat, c ≤ 255 ∧ w.cell? (A.add j) = some (.int .u8 c)

theorem bytes_of {w : World} {a : Option Addr} {len cap : Nat} {zs : List Int} (h : IsRow .u8 w a len cap zs) : Bytes w a len := by
  rcases h with ⟨_, h, _, _⟩ | ⟨x, hx, h1, _, h2, h3, h4⟩
  · exact .inl h
  · refine .inr ⟨x, hx, fun j hj => ?_⟩
    have hj' : j < zs.length := by omega
    have hm := h4 _ (List.getElem_mem hj')
    have hc := h3 j hj'
    rw [List.getD_eq_getElem?_getD, List.getElem?_eq_getElem hj', Option.getD_some] at hc
    have hb : 0 ≤ zs[j] ∧ zs[j] ≤ 255 := by
      simp [Lit.wf, IntKind.min, IntKind.max, IntKind.signed, IntKind.bits] at hm
      exact hm
    exact ⟨zs[j].toNat, by omega, by rw [hc, Int.toNat_of_nonneg hb.1]⟩

theorem Bytes.kept {w w' : World} {a : Option Addr} {len : Nat} (h : Bytes w a len) (hB : Below w.heap.size w w') : Bytes w' a len := by
  rcases h with h | ⟨A, h1, h2⟩
  · exact .inl h
  · refine .inr ⟨A, h1, fun j hj => ?_⟩
    obtain ⟨c, hc, hh⟩ := h2 j hj
    exact ⟨c, hc, by rw [hB.cell (cell_lt hh)]; exact hh⟩

set_option maxHeartbeats 800000 in
theorem a2Word (a : Option Addr) (len cap : Nat) (w : World) (hl : len ≤ 1000000) (h : Bytes w a len) (most : Int) (hm0 : 0 ≤ most) (hm : most ≤ 150) :
    Calls Try.prog 7 #[.slice a len cap, .int .i64 most] w fun e w' => ∃ u : ByteArray, e = .returned (.string u) ∧ u.size ≤ most ∧ Few u.data.toList ∧ Below w.heap.size w w' := by
  have c1 := from_ a len cap w h
  have H1 := Lib.hid c1
  clear c1
  go_enter Try.func7, Try.ntmps7
  go_wp2_with fail
  refine H1.out.mono ?_; rintro e w1 ⟨rfl, hs1, hz1, hg1⟩
  have c2 := drawn w.heap.size a len cap w1 hl hs1 most hm0 hm
  have H2 := Lib.hid c2
  clear c2
  go_wp2_with fail
  refine H2.out.mono ?_; rintro e w2 ⟨u, rfl, hu1, hu2, hg2⟩
  go_wp2
  go_ret
  exact ⟨u, rfl, hu1, hu2, ((Below.refl _ w).grown hg1 (Nat.le_refl _) (by intro k h; cases h)).grown hg2 hg1.size (by intro k h; cases h; exact Nat.le_refl _)⟩

set_option maxHeartbeats 800000 in
theorem a2Long_in (a b : Option Addr) (la lb ca cb : Nat) (w : World) (h1 : la ≤ 3000) (h2 : lb ≤ 3000) :
    Calls Try.prog 6 #[.slice a la ca, .slice b lb cb] w fun e w' => e = .returned (.bool false) ∧ w' = w := by
  have t1 : ¬ 3000 < (la : Int) := by omega
  have t2 : ¬ 3000 < (lb : Int) := by omega
  go_enter Try.func6, Try.ntmps6
  go_wp2
  go_ret
  exact ⟨rfl, rfl⟩

set_option maxHeartbeats 800000 in
theorem a2Long_out (a b : Option Addr) (la lb ca cb : Nat) (w : World) (h : ¬ (la ≤ 3000 ∧ lb ≤ 3000)) :
    Calls Try.prog 6 #[.slice a la ca, .slice b lb cb] w fun e w' => e = .returned (.bool true) ∧ w' = w := by
  by_cases h1 : la ≤ 3000
  · have t1 : ¬ 3000 < (la : Int) := by omega
    have t2 : 3000 < (lb : Int) := by omega
    clear h
    go_enter Try.func6, Try.ntmps6
    go_wp2
    go_ret
    exact ⟨rfl, rfl⟩
  · have t1 : 3000 < (la : Int) := by omega
    clear h
    go_enter Try.func6, Try.ntmps6
    go_wp2
    go_ret
    exact ⟨rfl, rfl⟩
end Go.Proofs.Ytdfdeppfhadopaa
