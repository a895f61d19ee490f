/-
  Walks: the model's drawn plain word.
-/
import Derived.Test.YtdfdeppfhadopaaSrc
namespace Go.Proofs.Ytdfdeppfhadopaa
open Go.RowKit
open Wd
set_option linter.unusedVariables false

def Few (l : List UInt8) : Prop := ∀ c ∈ l, 97 ≤ c ∧ c ≤ 99
theorem size_of (l : List UInt8) : (ByteArray.mk l.toArray).size = l.length := by simp [ByteArray.size]
def strLen : Value → Nat
  | .string u => u.size
  | _ => 0
theorem cut_size (l : List UInt8) (q : Nat) (h : q < l.length) : ((ByteArray.mk l.toArray).extract 0 (1 + q)).size = q + 1 := by
  rw [ByteArray.size_extract, size_of]; omega
theorem cut_few {l : List UInt8} (hl : Few l) (x : Nat) : Few ((ByteArray.mk l.toArray).extract 0 x).data.toList := by
  intro c hc
  apply hl
  simp at hc
  exact List.mem_of_mem_take hc
theorem few_app {u : ByteArray} (h : Few u.data.toList) : Few (u ++ u).data.toList := by
  intro c hc
  simp at hc
  exact h c (by simpa using hc)
theorem wrap_q {q n : Nat} (h : q < n) (hn : n ≤ 1000) : wrap64 (1 + (q : Int)) = 1 + (q : Int) := by unfold wrap64; omega
theorem nonneg_q (q : Nat) : (0 : Int) ≤ 1 + (q : Int) := by omega
theorem le_q {q n : Nat} (h : q < n) : 1 + (q : Int) ≤ (n : Int) := by omega
theorem few_nat (q : Nat) (h : (q : Int) ≤ 2) : ((UInt8.ofNat (97 + q)).toNat : Int) = 97 + (q : Int) := by
  have h : q ≤ 2 := by omega
  match q, h with
  | 0, _ => rfl
  | 1, _ => rfl
  | 2, _ => rfl
theorem few_snoc {l : List UInt8} (hl : Few l) (q : Nat) (h : (q : Int) ≤ 2) : Few (l ++ [UInt8.ofNat (97 + q)]) := by
  intro c hc
  rcases List.mem_append.1 hc with hc | hc
  · exact hl c hc
  · have h : q ≤ 2 := by omega
    rw [List.mem_singleton.1 hc]
    match q, h with
    | 0, _ => decide
    | 1, _ => decide
    | 2, _ => decide

set_option maxRecDepth 100000 in
set_option maxHeartbeats 1600000 in
theorem drawn (B : Nat) (a : Option Addr) (len cap : Nat) (w : World) (hl : len ≤ 1000000) (h : Src w B a len cap 0) (most : Int) (hm0 : 0 ≤ most) (hm : most ≤ 150) :
    Calls Try.prog 18 #[.pointer (some ⟨B, 0, none⟩), .int .i64 most] w fun e w' => ∃ u : ByteArray, e = .returned (.string u) ∧ u.size ≤ most ∧ Few u.data.toList ∧ w.grownBy w' (some B) := by
  have c1 := pick B a len cap 0 w (by omega) hl h 3 (by decide) (by decide)
  have H1 := Lib.hid c1
  have t1 : wrap64 (most + 1) = most + 1 := by unfold wrap64; omega
  clear c1
  go_enter Try.func18, Try.ntmps18
  go_wp2_with fail
  refine H1.out.mono ?_; rintro e w1 ⟨r, n1, rfl, hr0, hr1, hr2, hn1, hs1, hg1⟩
  have hBw : B < w.heap.size := by obtain ⟨_, _, _, _, _, _, h5, _⟩ := h; exact h5
  have hsz1 := hg1.size
  have hown0 : (w1.alloc (.cells #[] 5)).ownsRow w.heap.size 5 1 (.slice (some ⟨w1.heap.size, 0, none⟩) 0 0) 0 (bv []) := World.ownsRow_lit w1 #[] 0 hsz1 (by decide) rfl
  have hs1' : Src (w1.alloc (.cells #[] 5)) B a len cap n1 := hs1.kept (World.grownBy_alloc w1 _ none) (by intro g h; cases h)
  have hg1' : w.grownBy (w1.alloc (.cells #[] 5)) (some B) := hg1.trans (World.grownBy_alloc w1 _ _)
  have c2 := pick B a len cap n1 _ (by omega) hl hs1' (most + 1) (by omega) (by omega)
  have H2 := Lib.hid c2
  clear c2
  go_wp2_with fail
  refine H2.out.mono ?_; rintro e w2 ⟨r2, n2, rfl, hq0, hq1, hq2, hn2, hs2, hg2⟩
  have hown2 := hown0.kept hg2 (.inr (by simp [Value.ownBlock]; omega))
  have hg02 := hg1'.trans hg2
  have hle : r2 ≤ most := by by_cases h : most = 0 <;> omega
  have hr : 0 ≤ r ∧ r ≤ 2 := by omega
  have hr20 : 0 ≤ r2 := hq0
  clear hs1 hs1' hg1 hg1' hown0 hg2 hr0 hr1 hq0 hq1 hq2
  obtain ⟨i0, hi, hz0, hz1, hz2⟩ := info_parts Try.info_u8
  go_wp2
  go_loopw [6, 7] (fun v i wr => ∃ (l : List UInt8) (k n' : Nat), i = .int .i64 k ∧ (l.length : Int) + k ≤ most ∧ Few l ∧ n' + k ≤ 200 ∧ Src wr B a len cap n' ∧ wr.ownsRow w.heap.size 5 1 v l.length (bv l) ∧ w.grownBy wr (some B)) (fun _ i _ => (intOf i).toNat)
  case atStart => exact ⟨[], r2.toNat, n2, by rw [Int.toNat_of_nonneg hr20], by rw [Int.toNat_of_nonneg hr20]; simpa using hle, (fun c hc => by simp at hc), by omega, hs2, hown2, hg02⟩
  case round =>
    obtain ⟨l, k, n', rfl, hlen, hfew, hnk, hs, hown, hg⟩ := hrel
    cases k with
    | succ m =>
      have c3 := pick B a len cap n' wr (by omega) hl hs (1 + r) (by omega) (by omega)
      have H3 := Lib.hid c3
      have HL := Lib.hid hlen
      clear c3 hlen
      go_wp2_with fail
      refine H3.out.mono ?_; rintro e w3 ⟨r3, n3, rfl, hp0, hp1, hp2, hn3, hs3, hg3⟩
      have hp : r3 ≤ 2 := by by_cases h : r = 0 <;> omega
      have hown3 := hown.kept hg3 (by rcases hown.2 with ⟨rfl, _⟩ | ⟨g, cp, cur, rfl, hb, _⟩; exact .inl rfl; exact .inr (by simp [Value.ownBlock]; omega))
      have hg03 := hg.trans hg3
      have hsz3 := hg03.size
      clear hs hown hg hg3 hp1 hp2
      obtain ⟨q, rfl⟩ : ∃ q : Nat, r3 = q := ⟨r3.toNat, by omega⟩
      go_wp2_with (first | (at_builtin; refine wpList_append_own _ rfl _ _ 22 rfl w.heap.size 5 i0 (.int .u8 0) 1 1 Try.underlying22 hi hz0 hz1 hz2 rfl (by decide) _ _ _ rfl (hown3.alloc _) ⟨w3.heap.size, 0, none⟩ 1 1 [.int .u8 (97 + (q : Int))] rfl rfl (one_new _ _ _) (one_int _ _) ?c3 ?c4 ?c5 ?_))
      case c3 => unfold maxLen; have := HL.out; omega
      case c4 => have := HL.out; omega
      case c5 => exact base_alloc hsz3 _
      · intro v' w4 hown4 hgrow _
        have hg04 : w.grownBy w4 (some B) := (hg03.trans (World.grownBy_alloc w3 _ _)).andThen hgrow (fun j hj => .inl (hown3.lt j hj).1)
        have hs4 : Src w4 B a len cap n3 := (hs3.kept (World.grownBy_alloc w3 _ none) (by intro g h; cases h)).kept hgrow (fun j hj => Nat.lt_of_lt_of_le hBw (hown3.lt j hj).1)
        have hown5 : w4.ownsRow w.heap.size 5 1 v' (l ++ [UInt8.ofNat (97 + q)]).length (bv (l ++ [UInt8.ofNat (97 + q)])) := by
          rw [bv_app, bv_one, List.length_append, show ((UInt8.ofNat (97 + q)).toNat : Int) = 97 + (q : Int) from few_nat q hp]; exact hown4
        clear hown4 hgrow hown3 hg03 hs3
        go_wp2
        go_roundw
        case rel => exact ⟨_, m, n3, rfl, by have := HL.out; simp; omega, few_snoc hfew q hp, by omega, hs4, hown5, hg04⟩
        case measure => simp [intOf]
    | zero =>
      have hconv := conv_owned (P := Try.prog) (src := 22) (dst := 9) hown Try.underlying22 Try.underlying5 Try.underlying9
      have c4 := one B a len cap n' wr (by omega) hl hs 3 (by decide) (by decide)
      have H4 := Lib.hid c4
      have HL := Lib.hid hlen
      clear c4 hown hlen
      go_wp2_with fail
      refine H4.out.mono ?_; rintro e w5 ⟨b, n5, rfl, hn5, hs5, hg5⟩
      have hg05 := hg.trans hg5
      clear hs hg hg5
      cases b with
      | false =>
        go_wp2
        go_ret
        exact ⟨⟨l.toArray⟩, rfl, by have := HL.out; rw [size_of]; omega, hfew, hg05⟩
      | true =>
        by_cases h0 : l = []
        · subst h0
          go_wp2
          go_ret
          exact ⟨⟨#[]⟩, rfl, hm0, (fun c hc => by simp at hc), hg05⟩
        · have h1 : 0 < l.length := List.length_pos_iff.2 h0
          have c5 := pick B a len cap n5 w5 (by omega) hl hs5 (l.length : Int) (by omega) (by have := HL.out; omega)
          have H5 := Lib.hid c5
          have H0 := Lib.hid h0
          clear h0 c5
          go_wp2_with fail
          refine H5.out.mono ?_; rintro e w6 ⟨r6, n6, rfl, hr60, hr61, hr62, hn6, hs6, hg6⟩
          have hg06 := hg05.trans hg6
          obtain ⟨q, rfl⟩ : ∃ q : Nat, r6 = q := ⟨r6.toNat, by omega⟩
          have hq : q < l.length := by by_cases h : l.length = 1 <;> omega
          have t2 := wrap_q hq (by have := HL.out; omega)
          have t3 := nonneg_q q
          have t4 := le_q hq
          clear hs5 hg05 hg6 hr61 hr62
          go_wp2_with fail
          clear t2 t3 t4
          have z1 := cut_size l q hq
          have z2 := cut_few hfew (1 + q)
          generalize (ByteArray.mk l.toArray).extract 0 (1 + q) = u0 at z1 z2 ⊢
          go_loopw [9] (fun v wr => ∃ (u : ByteArray) (n' : Nat), v = .string u ∧ 1 ≤ u.size ∧ u.size ≤ 300 ∧ Few u.data.toList ∧ n' ≤ 210 + u.size ∧ Src wr B a len cap n' ∧ w.grownBy wr (some B)) (fun v _ => most.toNat - strLen v)
          case atStart => exact ⟨u0, n6, rfl, by omega, by have := HL.out; omega, z2, by omega, hs6, hg06⟩
          case round =>
            obtain ⟨u, n7, rfl, hu1, hu2, hu3, hn7, hs7, hg7⟩ := hrel
            by_cases hlt : (u.size : Int) < most
            · have c8 := one B a len cap n7 wr (by omega) hl hs7 2 (by decide) (by decide)
              have H8 := Lib.hid c8
              clear c8
              go_wp2_with fail
              refine H8.out.mono ?_; rintro e w8 ⟨b, n8, rfl, hn8, hs8, hg8⟩
              have hg08 := hg7.trans hg8
              have t5 : ¬ most < (u.size : Int) := by omega
              have t6 : (u.size : Int) ≤ most := by omega
              cases b with
              | true =>
                go_wp2_with fail
                go_roundw
                case rel => exact ⟨u ++ u, n8, rfl, by rw [ByteArray.size_append]; omega, by rw [ByteArray.size_append]; omega, few_app hu3, by rw [ByteArray.size_append]; omega, hs8, hg08⟩
                case measure => simp [strLen, ByteArray.size_append]; omega
              | false =>
                go_wp2_with fail
                go_ret
                exact ⟨u, rfl, t6, hu3, hg08⟩
            · by_cases heq : (u.size : Int) ≤ most
              · go_wp2_with fail
                go_ret
                exact ⟨u, rfl, heq, hu3, hg7⟩
              · go_wp2_with fail
                go_ret
                exact ⟨⟨l.toArray⟩, rfl, by have := HL.out; rw [size_of]; omega, hfew, hg7⟩

end Go.Proofs.Ytdfdeppfhadopaa
