/-
  Walks: impl.isFinal and what it returns, impl.finalsWhere, impl.NotAuto$1.
-/
import Derived.Test.YtddjcgaejjldbaaNotM
namespace Go.Proofs.Ytddjcgaejjldbaa
open Go.RowKit
open Wd
set_option linter.unusedVariables false
theorem isFinal_any (c0 c1 f n : Value) (A A' : Option Addr) (a b a' b' : Nat) (hf : f = .slice A a b) (hn : n = .slice A' a' b') (i j : Int) (h0 : c0 = .int .i64 i) (h1 : c1 = .int .i64 j) (w : World) :
    Calls Try.prog 76 #[.agg #[c0, c1, f, n]] w fun e w' => e = .returned (.func (.func 127) #[] #[.pointer (some ⟨w.heap.size, 0, none⟩)]) ∧ w' = w.alloc (.cells #[c0, c1, f, n] 39) := by
  subst hf hn h0 h1
  have hmf : ∀ (fn : Fn) (first cap : Array Value) (w : World), (Instr.makeFunc fn first cap).run Try.prog w = .ok (.func fn first cap) w := fun _ _ _ _ => rfl
  go_enter Try.func76, Try.ntmps76
  go_wp2_with fail
  go_ret
  exact ⟨rfl, rfl⟩
theorem final_any (s : Int) (P : Nat) (c0 c1 f n : Value) (fin : List Int) (w : World) (hl : fin.length ≤ 1048576) (hP : B4 w P c0 c1 f n 39) (hF : IsL w f fin) :
    Calls Try.prog 127 #[.int .i64 s, .pointer (some ⟨P, 0, none⟩)] w fun e w' => e = .returned (.bool (hasN fin s)) ∧ w' = w := by
  have HC := Lib.hid (containsI_any f fin s w hl hF)
  obtain ⟨⟨p0, p1, p2, p3⟩, _⟩ := blk4_cells hP
  obtain ⟨A, c, rfl⟩ := hF.shape
  clear hP hF
  go_enter Try.func127, Try.ntmps127
  go_wp2_with fail
  refine HC.out.mono ?_
  rintro e w5 ⟨rfl, rfl⟩
  go_wp2_with fail
  go_ret
  exact ⟨rfl, rfl⟩
theorem notFinal_any (s : Int) (Q P : Nat) (c0 c1 f n : Value) (fin : List Int) (w : World) (hl : fin.length ≤ 1048576) (hP : B4 w P c0 c1 f n 39) (hF : IsL w f fin)
    (hQ : w.cell? ⟨Q, 0, none⟩ = some (.func (.func 127) #[] #[.pointer (some ⟨P, 0, none⟩)])) :
    Calls Try.prog 78 #[.int .i64 s, .pointer (some ⟨Q, 0, none⟩)] w fun e w' => e = .returned (.bool (!hasN fin s)) ∧ w' = w := by
  have HC := Lib.hid (final_any s P c0 c1 f n fin w hl hP hF)
  clear hP hF
  generalize hasN fin s = b at *
  go_enter Try.func78, Try.ntmps78
  go_wp2_with fail
  refine HC.out.mono ?_
  rintro e w5 ⟨rfl, rfl⟩
  cases b
  all_goals
    go_wp2_with fail
    go_ret
    exact ⟨rfl, rfl⟩
set_option maxRecDepth 100000 in
set_option maxHeartbeats 1600000 in
theorem finals_one (Q : Nat) (p : Nat → Bool) (m : Nat) (hm : m ≤ 1048576) (w : World) (h : ∀ W, Below w.heap.size w W → ∀ k : Nat, k < m → Calls Try.prog 78 #[.int .i64 (k : Int), .pointer (some ⟨Q, 0, none⟩)] W fun e w' => e = .returned (.bool (p k)) ∧ w' = W) :
    Calls Try.prog 77 #[.int .i64 (m : Int), .func (.func 78) #[] #[.pointer (some ⟨Q, 0, none⟩)]] w fun e w' => ∃ y, e = .returned y ∧ OwnsI w' w.heap.size y (finK p m) ∧ Below w.heap.size w w' := by
  obtain ⟨i0, hi, hz0, hz1, hz2⟩ := info_parts Try.info_int64
  have hb := (Below.refl _ w).alloc (Nat.le_refl _) (.cells #[] 2)
  have HB := Lib.hid hb
  have HL := Lib.hid (World.ownsRow_lit (base := w.heap.size) (e := 2) (size := 1) w #[] 0 (Nat.le_refl _) (by decide) rfl)
  have HH := Lib.hid h
  clear hb h
  go_enter Try.func77, Try.ntmps77
  go_wp2_with fail
  go_loopw [5, 9] (fun y i wr => ∃ k : Nat, k ≤ m ∧ i = .int .i64 k ∧ OwnsI wr w.heap.size y (finK p k) ∧ Below w.heap.size w wr) (fun _ i _ => m - (intOf i).toNat)
  case atStart => exact ⟨0, Nat.zero_le _, rfl, HL.out, HB.out⟩
  case round =>
    obtain ⟨k, hk, rfl, hown, hB⟩ := hrel
    obtain ⟨wo, rfl⟩ : ∃ wo : World, wo = wr := ⟨_, rfl⟩
    by_cases hlt : k < m
    · have HC := Lib.hid (HH.out wo hB k hlt)
      have HO := Lib.hid hown
      have HBW := Lib.hid hB
      have hlen := finK_len p k
      cases hp : p k
      · rw [hp] at HC
        have HNX := Lib.hid (finK_no hp)
        clear hp hown hB
        go_wp2_with fail
        refine HC.out.mono ?_
        rintro e w5 ⟨rfl, rfl⟩
        go_wp2_with fail
        go_roundw
        case rel => exact ⟨k + 1, by omega, by go_num, by rw [HNX.out]; exact HO.out, HBW.out⟩
        case measure => simp [intOf]; omega
      · rw [hp] at HC
        have HNX := Lib.hid (finK_yes hp)
        obtain ⟨A2, c2, rfl⟩ := own_slice hown
        generalize hfk : finK p k = fk at *
        clear hp hown hB hfk
        go_wp2_with fail
        refine HC.out.mono ?_
        rintro e w5 ⟨rfl, rfl⟩
        have hs5 : w.heap.size ≤ w5.heap.size := HBW.out.size
        go_wp2_with (first | (at_builtin; refine wpList_append_own _ rfl _ _ 35 rfl w.heap.size 2 i0 (.int .i64 0) 1 8 Try.underlying35 hi hz0 hz1 hz2 rfl (by decide) _ _ _ rfl (HO.out.alloc _) ⟨w5.heap.size, 0, none⟩ 1 1 [.int .i64 k] rfl rfl (one_new _ _ _) (one_int _ _) (by unfold maxLen; omega) (by omega) (by simp; omega) ?_))
        intro v' w6 hown hg _
        have HO6 : Hid (OwnsI w6 w.heap.size v' (fk ++ [(k : Int)])) := Lib.hid (by
          unfold OwnsI
          rw [List.length_append, iv_app]
          exact hown)
        have HB6 := Lib.hid ((HBW.out.alloc hs5 _).grown hg (by simp; omega) (fun q hq => (HO.out.lt q hq).1))
        clear hown hg
        go_wp2_with fail
        go_roundw
        case rel => exact ⟨k + 1, by omega, by go_num, by rw [HNX.out]; exact HO6.out, HB6.out⟩
        case measure => simp [intOf]; omega
    · obtain rfl : k = m := by omega
      go_wp2_with fail
      go_ret
      exact ⟨_, rfl, hown, hB⟩
end Go.Proofs.Ytddjcgaejjldbaa
