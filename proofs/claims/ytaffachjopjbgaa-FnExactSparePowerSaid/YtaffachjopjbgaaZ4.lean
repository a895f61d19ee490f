/-
  Contracts and numbers of the functions that the laws of this place call, one text behind the other. No condition beyond those that each theorem names.
-/
import Derived.Test.YtaffachjopjbgaaZ1
import Derived.Test.YtaffachjopjbgaaZ2
import Derived.Test.YtaffachjopjbgaaZ3
import Derived.Lib.Strings
import Derived.Outline
import Derived.Deep.QuietTactic
import Derived.BigQuiet
import Derived.Deep.RegionHeld3
import Derived.Deep.AppendLies
import Derived.Lib.OthersKept
import Derived.Lib.IndexAny
namespace Go.Proofs.Ytaffachjopjbgaa
open Go.RowKit
open Wd
set_option linter.unusedVariables false
namespace Wd
/-- the letter with a number -/
def ltB (l : Nat) : UInt8 := UInt8.ofNat (97 + l)
/-- the greatest number up to m of first letters of a pattern with which a word ends -/
def fitL (p w : List UInt8) : Nat → Nat
  | 0 => 0
  | m + 1 => if (p.take (m + 1)).isSuffixOf w = true then m + 1 else fitL p w m
def fitN (p w : List UInt8) : Nat := fitL p w (min p.length w.length)
def patRow (p : List UInt8) (n : Nat) : List Int := (List.range 4).map fun l => ((fitN p (p.take n ++ [ltB l]) : Nat) : Int)
def patNx (p : List UInt8) : List (List Int) := (List.range (p.length + 1)).map (patRow p)
/-- the automaton of a pattern -/
def patA (p : List UInt8) : Au := ⟨(p.length : Int) + 1, 0, [(p.length : Int)], patNx p⟩
end Wd
theorem ltB_nat {l : Nat} (h : l < 4) : (ltB l).toNat = 97 + l := by unfold ltB; simp; omega
theorem fitL_le (p w : List UInt8) : ∀ m, fitL p w m ≤ m
  | 0 => Nat.le_refl _
  | m + 1 => by
    rw [fitL]
    split
    · exact Nat.le_refl _
    · exact Nat.le_succ_of_le (fitL_le p w m)
theorem fitN_le (p w : List UInt8) : fitN p w ≤ p.length := Nat.le_trans (fitL_le p w _) (Nat.min_le_left _ _)
theorem fitL_yes {p w : List UInt8} {m : Nat} (h : (p.take (m + 1)).isSuffixOf w = true) : fitL p w (m + 1) = m + 1 := by rw [fitL, if_pos h]
theorem fitL_no {p w : List UInt8} {m : Nat} (h : (p.take (m + 1)).isSuffixOf w = false) : fitL p w (m + 1) = fitL p w m := by rw [fitL, if_neg (by rw [h]; simp)]
theorem suffix_drop {p w : List UInt8} {m : Nat} (h1 : m ≤ p.length) (h2 : m ≤ w.length) : (p.take m).isSuffixOf w = decide (w.drop (w.length - m) = p.take m) := by
  have hl : (p.take m).length = m := by rw [List.length_take]; omega
  rw [Bool.eq_iff_iff, List.isSuffixOf_iff_suffix, decide_eq_true_iff, List.suffix_iff_eq_drop, hl]
  exact eq_comm
theorem suffix_nil (w : List UInt8) : ([] : List UInt8).isSuffixOf w = true := by rw [List.isSuffixOf_iff_suffix]; exact List.nil_suffix
theorem patRow_len (p : List UInt8) (n : Nat) : (patRow p n).length = 4 := by simp [patRow]
theorem patNx_len (p : List UInt8) : (patNx p).length = p.length + 1 := by simp [patNx]
theorem patNx_get {p : List UInt8} {n : Nat} (h : n < (patNx p).length) : (patNx p)[n] = patRow p n := by simp [patNx]
theorem patRow_get {p : List UInt8} {n l : Nat} (h : l < (patRow p n).length) : (patRow p n)[l] = ((fitN p (p.take n ++ [ltB l]) : Nat) : Int) := by simp [patRow]
theorem patRow_ok (p : List UInt8) (n : Nat) : rowOk ((p.length : Int) + 1) (patRow p n) = true := by
  unfold rowOk
  rw [patRow_len, Bool.and_eq_true]
  refine ⟨rfl, List.all_eq_true.2 fun x hx => ?_⟩
  unfold patRow at hx
  obtain ⟨l, _, rfl⟩ := List.mem_map.1 hx
  have := fitN_le p (p.take n ++ [ltB l])
  rw [decide_eq_true_iff]
  omega
theorem patNx_ok (p : List UInt8) : (patNx p).all (rowOk ((p.length : Int) + 1)) = true := by
  refine List.all_eq_true.2 fun r hr => ?_
  unfold patNx at hr
  obtain ⟨n, _, rfl⟩ := List.mem_map.1 hr
  exact patRow_ok p n
theorem patA_ok {p : List UInt8} (h : p.length ≤ 20) : aOk (patA p) = true := by
  unfold aOk patA
  simp only [Bool.and_eq_true, decide_eq_true_iff]
  refine ⟨⟨⟨⟨by omega, by omega⟩, by omega, by omega⟩, ?_⟩, patNx_ok p, by rw [patNx_len]; omega⟩
  unfold risesL
  rw [decide_eq_true_iff]
  intro k hk
  have hk0 : k = 0 := by simpa using hk
  subst hk0
  unfold goodAt
  refine ⟨⟨?_, ?_⟩, fun h => by omega⟩
  · show (0 : Int) ≤ (p.length : Int); omega
  · show (p.length : Int) ≤ (p.length : Int) + 1 - 1; omega
theorem patA_few {p : List UInt8} (h : p.length ≤ 2000) : FewA (patA p) := by
  refine ⟨?_, ?_, fun r hr => ?_⟩
  · show (1 : Nat) ≤ 1048576; omega
  · show (patNx p).length ≤ 1048576; rw [patNx_len]; omega
  · unfold patA patNx at hr
    obtain ⟨n, _, rfl⟩ := List.mem_map.1 hr
    rw [patRow_len]; omega
end Go.Proofs.Ytaffachjopjbgaa
namespace Go.Proofs.Ytaffachjopjbgaa
open Go.RowKit
open Wd
set_option linter.unusedVariables false
theorem mnP_any (a b : Nat) (w : World) : Calls Try.prog 203 #[.int .i64 (a : Int), .int .i64 (b : Int)] w fun e w' => e = .returned (.int .i64 ((min a b : Nat) : Int)) ∧ w' = w := by
  by_cases h : (a : Int) < b
  · have hm : ((min a b : Nat) : Int) = a := by omega
    rw [hm]
    go_enter Try.func203, Try.ntmps203
    go_wp2_with fail
    go_ret
    exact ⟨rfl, rfl⟩
  · have hm : ((min a b : Nat) : Int) = b := by omega
    rw [hm]
    go_enter Try.func203, Try.ntmps203
    go_wp2_with fail
    go_ret
    exact ⟨rfl, rfl⟩
theorem extract_listP (s : ByteArray) (a b : Nat) : (s.extract a b).data.toList = (s.data.toList.drop a).take (b - a) := by
  rw [ByteArray.data_extract, Array.toList_extract, List.extract_eq_take_drop]
theorem suffix_extract (p u : ByteArray) (j m : Nat) (hj : u.size = j + m) (hm : m ≤ p.size) : ((u.extract j u.size).toList == (p.extract 0 m).toList) = (p.data.toList.take m).isSuffixOf u.data.toList := by
  have hl : u.data.toList.length = u.size := by simp
  rw [ByteArray.toList_eq, ByteArray.toList_eq, extract_listP, extract_listP, suffix_drop (by simpa using hm) (by rw [hl]; omega), hl, show u.size - m = j from by omega, List.drop_zero, Nat.sub_zero]
  rw [List.take_of_length_le (by rw [List.length_drop, hl]; omega)]
  rw [Bool.eq_iff_iff]
  simp
set_option maxRecDepth 100000 in
set_option maxHeartbeats 1600000 in
theorem l04Fit_any (p u : ByteArray) (w : World) (hp : p.size ≤ 2000) (hu : u.size ≤ 4000) :
    Calls Try.prog 159 #[.string p, .string u] w fun e w' => e = .returned (.int .i64 ((fitN p.data.toList u.data.toList : Nat) : Int)) ∧ ∃ q, w' = w.drewN q := by
  have HMN := Lib.hid (fun W => mnP_any p.size u.size W)
  obtain ⟨R, hR⟩ : ∃ R, R = fitN p.data.toList u.data.toList := ⟨_, rfl⟩
  rw [← hR]
  have hR2 : fitL p.data.toList u.data.toList (min p.size u.size) = R := by rw [hR]; unfold fitN; simp
  have HR := Lib.hid hR2
  clear hR hR2
  have hmin1 : min p.size u.size ≤ p.size := Nat.min_le_left _ _
  have hmin2 : min p.size u.size ≤ u.size := Nat.min_le_right _ _
  generalize min p.size u.size = mm at *
  go_enter Try.func159, Try.ntmps159
  go_wp2_with fail
  refine (HMN.out _).mono ?_
  rintro e w1 ⟨rfl, rfl⟩
  go_wp2_with fail
  go_loopw [5] (fun i wr => ∃ m : Nat, m ≤ p.size ∧ m ≤ u.size ∧ i = .int .i64 m ∧ fitL p.data.toList u.data.toList m = R ∧ ∃ q, wr = w1.drewN q) (fun i _ => (intOf i).toNat)
  case atStart => exact ⟨mm, hmin1, hmin2, rfl, HR.out, 0, rfl⟩
  case round =>
    obtain ⟨m, hmp, hmu, rfl, hfit, q, rfl⟩ := hrel
    by_cases hm : 0 < m
    · obtain ⟨k, hk⟩ : ∃ k, m = k + 1 := ⟨m - 1, by omega⟩
      obtain ⟨j, hj⟩ : ∃ j, u.size = j + m := ⟨u.size - m, by omega⟩
      have hw1 : IntKind.i64.wrap ((u.size : Int) - (m : Int)) = (j : Int) := by rw [IntKind.wrap_i64]; omega
      have hw2 : IntKind.i64.wrap ((m : Int) - 1) = (k : Int) := by rw [IntKind.wrap_i64]; omega
      have hb := suffix_extract p u j m hj hmp
      have hm0 : (0 : Int) < (m : Int) := by omega
      have b1 : (0 : Int) ≤ (j : Int) := by omega
      have b2 : (j : Int) ≤ (u.size : Int) := by omega
      have b3 : (0 : Int) ≤ (m : Int) := by omega
      have b4 : (m : Int) ≤ (p.size : Int) := by omega
      have HK := Lib.hid hk
      cases hs : (p.data.toList.take m).isSuffixOf u.data.toList
      · rw [hs] at hb
        have HN : Hid (fitL p.data.toList u.data.toList k = R) := Lib.hid (by rw [← hfit, hk, fitL_no (by rw [← hk]; exact hs)])
        clear hs hfit hj hk hm
        go_upto_region 4 with fail
        go_quiet (fail)
        go_wp2_with fail
        go_roundw
        all_goals first | exact ⟨k, by have := HK.out; omega, by have := HK.out; omega, rfl, HN.out, _, rfl⟩ | ((repeat apply Exists.intro); exact ⟨⟨k, by have := HK.out; omega, by have := HK.out; omega, rfl, HN.out, _, rfl⟩, rfl⟩) | (have := HK.out; simp [intOf]; omega)
      · rw [hs] at hb
        have HN : Hid (m = R) := Lib.hid (by rw [← hfit, hk, fitL_yes (by rw [← hk]; exact hs)])
        clear hs hfit hj hk hm
        go_upto_region 4 with fail
        go_quiet (fail)
        go_wp2_with fail
        go_ret
        exact ⟨by rw [HN.out]; rfl, _, World.drewN_drewN _ _ _⟩
    · obtain rfl : m = 0 := by omega
      have HN : Hid (0 = R) := Lib.hid (by rw [← hfit]; rfl)
      clear hfit hm
      go_wp2_with fail
      go_ret
      exact ⟨by rw [← HN.out]; rfl, _, rfl⟩
namespace Wd
/-- the code of a grammar and a pattern -/
def askN (g p : Bool) (n : Nat) : Int := if g = true ∧ p = true then (if n = 0 then 4 else if 20 < n then 3 else 0) else 1
end Wd
set_option maxRecDepth 100000 in
set_option maxHeartbeats 1600000 in
theorem l04Asked_any (pg : Nat) (gs : List Rl) (p : ByteArray) (w : World) (hfr : FewR gs) (hpm : p.size ≤ maxLen) (hg : GP w pg gs) :
    Calls Try.prog 93 #[.pointer (some ⟨pg, 0, none⟩), .string p] w fun e w' => e = .returned (.int .i64 (askN (gOk gs) (okL p.data.toList) p.size)) ∧ Below w.heap.size w w' := by
  have HG := Lib.hid (l02Ok_any pg gs w hfr hg)
  have HW := Lib.hid (fun W => specOk p W hpm)
  unfold askN
  cases hok : gOk gs
  · rw [hok] at HG
    rw [if_neg (by simp)]
    clear hok
    go_enter Try.func93, Try.ntmps93
    go_wp2_with fail
    refine HG.out.mono ?_
    rintro e w3 ⟨rfl, hB3⟩
    have HB3 := Lib.hid hB3
    clear hB3
    go_wp2_with fail
    go_ret
    exact ⟨rfl, HB3.out⟩
  · rw [hok] at HG
    cases ho : okL p.data.toList
    · rw [ho] at HW
      rw [if_neg (by simp)]
      clear hok ho
      go_enter Try.func93, Try.ntmps93
      go_wp2_with fail
      refine HG.out.mono ?_
      rintro e w3 ⟨rfl, hB3⟩
      have HB3 := Lib.hid hB3
      clear hB3
      go_wp2_with fail
      refine (HW.out _).mono ?_
      rintro e w4 ⟨rfl, hw4⟩
      subst hw4
      go_wp2_with fail
      go_ret
      exact ⟨rfl, HB3.out⟩
    · rw [ho] at HW
      rw [if_pos ⟨rfl, rfl⟩]
      clear hok ho
      by_cases h0 : p.size = 0
      · rw [if_pos h0]
        have he : p = ⟨#[]⟩ := by
          have : p.data.size = 0 := h0
          obtain ⟨d⟩ := p
          simp only at this
          rw [Array.eq_empty_of_size_eq_zero this]
        subst he
        go_enter Try.func93, Try.ntmps93
        go_wp2_with fail
        refine HG.out.mono ?_
        rintro e w3 ⟨rfl, hB3⟩
        have HB3 := Lib.hid hB3
        clear hB3
        go_wp2_with fail
        refine (HW.out _).mono ?_
        rintro e w4 ⟨rfl, hw4⟩
        subst hw4
        go_wp2_with fail
        go_ret
        exact ⟨rfl, HB3.out⟩
      · rw [if_neg h0]
        have hne : (p.toList == (⟨#[]⟩ : ByteArray).toList) = false := by
          rw [ByteArray.toList_eq, ByteArray.toList_eq, beq_eq_false_iff_ne]
          intro e
          have h9 : p.data.toList.length = 0 := by rw [e]; rfl
          exact h0 (by simpa using h9)
        have hne2 : (p.toList == ([] : List UInt8)) = false := by
          rw [ByteArray.toList_eq, beq_eq_false_iff_ne]
          intro e
          have h9 : p.data.toList.length = 0 := by rw [e]; rfl
          exact h0 (by simpa using h9)
        by_cases h20 : 20 < p.size
        · rw [if_pos h20]
          have hd : (20 : Int) < (p.size : Int) := by omega
          clear h0
          go_enter Try.func93, Try.ntmps93
          go_wp2_with fail
          refine HG.out.mono ?_
          rintro e w3 ⟨rfl, hB3⟩
          have HB3 := Lib.hid hB3
          clear hB3
          go_wp2_with fail
          refine (HW.out _).mono ?_
          rintro e w4 ⟨rfl, hw4⟩
          subst hw4
          go_wp2_with fail
          go_ret
          exact ⟨rfl, HB3.out⟩
        · rw [if_neg h20]
          have hd : ¬ (20 : Int) < (p.size : Int) := by omega
          clear h0
          go_enter Try.func93, Try.ntmps93
          go_wp2_with fail
          refine HG.out.mono ?_
          rintro e w3 ⟨rfl, hB3⟩
          have HB3 := Lib.hid hB3
          clear hB3
          go_wp2_with fail
          refine (HW.out _).mono ?_
          rintro e w4 ⟨rfl, hw4⟩
          subst hw4
          go_wp2_with fail
          go_ret
          exact ⟨rfl, HB3.out⟩
end Go.Proofs.Ytaffachjopjbgaa
namespace Go.Proofs.Ytaffachjopjbgaa
open Go.RowKit
open Wd
set_option linter.unusedVariables false
/-- a row of the pattern's automaton, so many letters yet -/
def RSt (wo : World) (row : List Int) (l : Nat) (tv : Value) (wr : World) : Prop := OwnsI wr wo.heap.size tv (row.take l) ∧ Below wo.heap.size wo wr
theorem rst_start (wo : World) (row : List Int) : RSt wo row 0 (.slice (some ⟨wo.heap.size, 0, none⟩) 0 0) (wo.alloc (.cells #[] 2)) :=
  ⟨by rw [List.take_zero]; exact World.ownsRow_lit (base := wo.heap.size) (e := 2) (size := 1) wo #[] 0 (Nat.le_refl _) (by decide) rfl, (Below.refl _ wo).alloc (Nat.le_refl _) _⟩
theorem RSt.kept {wo wr w1 : World} {row : List Int} {l : Nat} {tv : Value} (h : RSt wo row l tv wr) (hb : Below wr.heap.size wr w1) : RSt wo row l tv w1 :=
  ⟨own_below h.1 hb (Nat.le_refl _), h.2.trans (hb.mono h.2.size)⟩
theorem RSt.append {wo wr w5 : World} {row : List Int} {l : Nat} {tv tv' : Value} {o : Obj} {z : Int} (h : RSt wo row l tv wr) (hl : l < row.length) (hz : row[l] = z)
    (hown : w5.ownsRow wo.heap.size 2 1 tv' (l + 1) (iv (row.take l) ++ [.int .i64 z])) (hg : (wr.alloc o).grownBy w5 tv.ownBlock) : RSt wo row (l + 1) tv' w5 := by
  subst hz
  refine ⟨?_, (h.2.alloc h.2.size o).grown hg (by have := h.2.size; simp; omega) (fun q hq => (h.1.lt q hq).1)⟩
  unfold OwnsI
  rw [List.take_succ_eq_append_getElem hl, List.length_append, iv_app, List.length_take, Nat.min_eq_left (by omega)]
  exact hown
end Go.Proofs.Ytaffachjopjbgaa
namespace Go.Proofs.Ytaffachjopjbgaa
open Go.RowKit
open Wd
set_option linter.unusedVariables false
theorem convL_any (l : Nat) (hl : l < 4) (w : World) (g : Nat) (h : w.cell? ⟨g, 0, none⟩ = some (.int .u8 (97 + (l : Int)))) :
    (convert 158 9 (.slice (some ⟨g, 0, none⟩) 1 1)).run Try.prog w = .ok (.string ⟨#[ltB l]⟩) w := by
  refine run_convert_bytes_back (P := Try.prog) w 158 9 5 ⟨g, 0, none⟩ 1 [ltB l] Try.underlying158 Try.underlying5 Try.underlying9 (fun j hj => ?_)
  match j, hj with
  | 0, _ =>
    rw [show ((⟨g, 0, none⟩ : Addr).add 0) = ⟨g, 0, none⟩ from rfl, h]
    have := ltB_nat hl
    simp [this]
set_option maxRecDepth 100000 in
set_option maxHeartbeats 12800000 in
theorem l04Pattern_any (p : ByteArray) (w : World) (hp : p.size ≤ 20) :
    Calls Try.prog 94 #[.string p] w fun e w' => ∃ f n U, e = .returned (.agg #[.int .i64 (patA p.data.toList).st, .int .i64 (patA p.data.toList).go, f, n]) ∧ OwnA w' w.heap.size f n U (patA p.data.toList).fin (patA p.data.toList).nx ∧ Below w.heap.size w w' := by
  have hl : p.data.toList.length = p.size := by simp
  unfold patA
  simp only
  have hnl := patNx_len p.data.toList
  rw [hl] at hnl ⊢
  have HNG := Lib.hid (fun k (hk : k < (patNx p.data.toList).length) => patNx_get hk)
  have HNL := Lib.hid hnl
  clear hnl
  obtain ⟨S, hS⟩ : ∃ S, S = p.size := ⟨_, rfl⟩
  rw [← hS] at hp HNL ⊢
  have HSZ := Lib.hid hS
  have hw1 : wrap64 ((S : Int) + 1) = (S : Int) + 1 := by unfold wrap64; omega
  obtain ⟨hRb, hFb, hXb, hB3, hs3⟩ := al3 w (.cells #[.int .i64 0, .int .i64 0, .slice none 0 0, .slice none 0 0] 33) (.cells #[.int .i64 (S : Int)] 2) (.cells #[.int .i64 ((S : Int) + 1), .int .i64 0, .slice (some ⟨w.heap.size + 1, 0, none⟩) 1 1, .slice none 0 0] 33)
  have hown : OwnsI (((w.alloc (.cells #[.int .i64 0, .int .i64 0, .slice none 0 0, .slice none 0 0] 33)).alloc (.cells #[.int .i64 (S : Int)] 2)).alloc (.cells #[.int .i64 ((S : Int) + 1), .int .i64 0, .slice (some ⟨w.heap.size + 1, 0, none⟩) 1 1, .slice none 0 0] 33)) w.heap.size (.slice (some ⟨w.heap.size + 1, 0, none⟩) 1 1) [(S : Int)] := by
    have h1 := World.ownsRow_lit (base := w.heap.size) (e := 2) (size := 1) (w.alloc (.cells #[.int .i64 0, .int .i64 0, .slice none 0 0, .slice none 0 0] 33)) #[.int .i64 (S : Int)] 1 (by simp) (by decide) rfl
    rw [show (w.alloc (.cells #[.int .i64 0, .int .i64 0, .slice none 0 0, .slice none 0 0] 33)).heap.size = w.heap.size + 1 from by simp] at h1
    exact h1.alloc _
  have hG3 : GSt w (w.heap.size + 2) ((S : Int) + 1) 0 [(S : Int)] (.slice (some ⟨w.heap.size + 1, 0, none⟩) 1 1) ((patNx p.data.toList).take 0) (.slice none 0 0) (((w.alloc (.cells #[.int .i64 0, .int .i64 0, .slice none 0 0, .slice none 0 0] 33)).alloc (.cells #[.int .i64 (S : Int)] 2)).alloc (.cells #[.int .i64 ((S : Int) + 1), .int .i64 0, .slice (some ⟨w.heap.size + 1, 0, none⟩) 1 1, .slice none 0 0] 33)) :=
    ⟨hXb, ⟨[], _, hown, fun q hq => (hown.lt q hq).2, by rw [hs3]; omega, Nat.le_refl _, ⟨World.ownsRow_nil _ _ _ _, by rw [List.take_zero]; exact Rws.nil _ _⟩⟩, by omega, hB3⟩
  have HG3 := Lib.hid hG3
  have HR3 : Hid (B4 _ w.heap.size (.int .i64 0) (.int .i64 0) (.slice none 0 0) (.slice none 0 0) 33) := Lib.hid hRb
  have HS3 := Lib.hid hs3
  obtain ⟨⟨x0, x1, x2, x3⟩, _⟩ := blk4_cells (show B4 _ (w.heap.size + 2) _ _ _ _ _ from hXb)
  clear hRb hFb hXb hB3 hs3 hown hG3 hS hl
  obtain ⟨PL, hPL⟩ : ∃ PL, PL = p.data.toList := ⟨_, rfl⟩
  rw [← hPL] at HG3 HNL HNG ⊢
  have HPL := Lib.hid hPL
  clear hPL
  have HSZ2 : Hid (p.size = S) := Lib.hid HSZ.out.symm
  go_enter Try.func94, Try.ntmps94
  go_upto_region 2 with fail
  rw [HSZ2.out, hw1]
  generalize ((w.alloc (.cells #[.int .i64 0, .int .i64 0, .slice none 0 0, .slice none 0 0] 33)).alloc (.cells #[.int .i64 (S : Int)] 2)).alloc (.cells #[.int .i64 ((S : Int) + 1), .int .i64 0, .slice (some ⟨w.heap.size + 1, 0, none⟩) 1 1, .slice none 0 0] 33) = w3 at *
  obtain ⟨X, hX⟩ : ∃ X, X = w.heap.size + 2 := ⟨_, rfl⟩
  rw [← hX] at HG3 x0 x1 x2 x3 ⊢
  have HRK := Lib.hid (fun W (hb : Below w3.heap.size w3 W) => HR3.out.kept hb)
  have HXE := Lib.hid hX
  clear hX
  go_wp2_with fail
  clear x0 x1 x2 x3
  go_loopw [4] (fun i wr => ∃ (k : Nat) (n : Value), k ≤ S + 1 ∧ i = .int .i64 k ∧ GSt w X ((S : Int) + 1) 0 [(S : Int)] (.slice (some ⟨w.heap.size + 1, 0, none⟩) 1 1) ((patNx PL).take k) n wr ∧ B4 wr w.heap.size (.int .i64 0) (.int .i64 0) (.slice none 0 0) (.slice none 0 0) 33) (fun i _ => S + 1 - (intOf i).toNat)
  case atStart => exact ⟨0, _, Nat.zero_le _, rfl, HG3.out, HR3.out⟩
  case round =>
    obtain ⟨k, n, hk, rfl, hst, hR⟩ := hrel
    obtain ⟨wo, rfl⟩ : ∃ wo : World, wo = wr := ⟨_, rfl⟩
    have HS := Lib.hid hst
    have HR := Lib.hid hR
    by_cases hlt : k < S + 1
    · have hkg : k < (patNx PL).length := by rw [HNL.out]; exact hlt
      have HTK : Hid ((patNx PL).take (k + 1) = (patNx PL).take k ++ [patRow PL k]) := Lib.hid (by rw [List.take_succ_eq_append_getElem hkg, HNG.out k hkg])
      have hrl := patRow_len PL k
      have HRG := Lib.hid (fun l (hl : l < (patRow PL k).length) => patRow_get hl)
      have HRL := Lib.hid hrl
      have HRS := Lib.hid (rst_start wo (patRow PL k))
      have hkS : (k : Int) ≤ (S : Int) := by omega
      have hkP : (k : Int) ≤ (p.size : Int) := by rw [HSZ2.out]; omega
      have k0 : (0 : Int) ≤ (k : Int) := by omega
      have hkS1 : (k : Int) < (S : Int) + 1 := by omega
      obtain ⟨row, hrow⟩ : ∃ row, row = patRow PL k := ⟨_, rfl⟩
      rw [← hrow] at HRL HRS HTK
      have HROW := Lib.hid hrow
      clear hkg hrl hrow hst hR
      go_wp2_with fail
      go_loopw [5, 6] (fun tv b wr => ∃ l : Nat, l ≤ 4 ∧ b = .int .u8 (97 + (l : Int)) ∧ RSt wo row l tv wr) (fun _ b _ => 101 - (intOf b).toNat)
      case atStart => exact ⟨0, by omega, rfl, HRS.out⟩
      case round =>
        obtain ⟨l, hl4, rfl, hst⟩ := hrel
        obtain ⟨wu, rfl⟩ : ∃ wu : World, wu = wr := ⟨_, rfl⟩
        by_cases hl : l < 4
        · obtain ⟨i0, hi, hz0, hz1, hz2⟩ := info_parts Try.info_int64
          have hlr : l < row.length := by rw [HRL.out]; exact hl
          obtain ⟨A3, c3, hA3⟩ := own_slice hst.1
          rw [List.length_take, Nat.min_eq_left (by omega)] at hA3
          subst hA3
          have HST := Lib.hid hst
          have HLR := Lib.hid hlr
          obtain ⟨z, hz⟩ : ∃ z, z = row[l] := ⟨_, rfl⟩
          have HZ : Hid (row[l]'HLR.out = z) := Lib.hid hz.symm
          have hzf : z = ((fitN PL (PL.take k ++ [ltB l]) : Nat) : Int) := by
            rw [hz]
            simp only [HROW.out]
            exact HRG.out l (by rw [← HROW.out]; exact hlr)
          have HFT : Hid (∀ W (u : ByteArray), Below wu.heap.size wu W → u.data.toList = PL.take k ++ [ltB l] → Calls Try.prog 159 #[.string p, .string u] W fun e w' => e = .returned (.int .i64 z) ∧ Below wu.heap.size wu w') := Lib.hid (fun W u hb hu => by
            have hus : u.size ≤ 4000 := by
              have h1 : u.data.toList.length = u.size := by simp
              rw [hu, List.length_append, List.length_take] at h1
              have h2 : PL.length = S := by rw [HPL.out, HSZ.out]; simp
              simp at h1
              omega
            refine (l04Fit_any p u W (by rw [HSZ2.out]; omega) hus).mono ?_
            rintro e w' ⟨he, q, hw⟩
            rw [hu, ← HPL.out, ← hzf] at he
            exact ⟨he, by rw [hw]; exact below_drewN hb q⟩)
          have hwl : IntKind.u8.wrap (97 + (l : Int) + 1) = 97 + ((l : Int) + 1) := by
            match l, hl with
            | 0, _ => rfl
            | 1, _ => rfl
            | 2, _ => rfl
            | 3, _ => rfl
          have hle : 97 + (l : Int) ≤ 100 := by omega
          have hcv : (convert 158 9 (.slice (some ⟨wu.heap.size, 0, none⟩) 1 1)).run Try.prog (wu.alloc (.cells #[.int .u8 (97 + (l : Int))] 5)) = .ok (.string ⟨#[ltB l]⟩) (wu.alloc (.cells #[.int .u8 (97 + (l : Int))] 5)) := convL_any l hl _ _ (cell_of_row _ _ 0 _ _ _ (heap_alloc_new wu (.cells #[.int .u8 (97 + (l : Int))] 5)))
          have hcw : (convert 158 9 (.slice (some ⟨wu.heap.size, 0, none⟩) 1 1)).run Try.prog (wu.alloc (.cells #[.int .u8 (97 + (l : Int))] 5)).drew = .ok (.string ⟨#[ltB l]⟩) (wu.alloc (.cells #[.int .u8 (97 + (l : Int))] 5)).drew := convL_any l hl _ _ (cell_of_row _ _ 0 _ _ _ (heap_alloc_new wu (.cells #[.int .u8 (97 + (l : Int))] 5)))
          have hcx : ∀ m, (convert 158 9 (.slice (some ⟨wu.heap.size, 0, none⟩) 1 1)).run Try.prog ((wu.alloc (.cells #[.int .u8 (97 + (l : Int))] 5)).drewN m) = .ok (.string ⟨#[ltB l]⟩) ((wu.alloc (.cells #[.int .u8 (97 + (l : Int))] 5)).drewN m) := fun m => convL_any l hl _ _ (cell_of_row _ _ 0 _ _ _ (heap_alloc_new wu (.cells #[.int .u8 (97 + (l : Int))] 5)))
          have hcy : ∀ m, (convert 158 9 (.slice (some ⟨wu.heap.size, 0, none⟩) 1 1)).run Try.prog ((wu.drewN m).alloc (.cells #[.int .u8 (97 + (l : Int))] 5)) = .ok (.string ⟨#[ltB l]⟩) ((wu.drewN m).alloc (.cells #[.int .u8 (97 + (l : Int))] 5)) := fun m => convL_any l hl _ _ (cell_of_row _ _ 0 _ _ _ (heap_alloc_new (wu.drewN m) (.cells #[.int .u8 (97 + (l : Int))] 5)))
          have hcz : (convert 158 9 (.slice (some ⟨wu.heap.size, 0, none⟩) 1 1)).run Try.prog (wu.drew.alloc (.cells #[.int .u8 (97 + (l : Int))] 5)) = .ok (.string ⟨#[ltB l]⟩) (wu.drew.alloc (.cells #[.int .u8 (97 + (l : Int))] 5)) := convL_any l hl _ _ (cell_of_row _ _ 0 _ _ _ (heap_alloc_new wu.drew (.cells #[.int .u8 (97 + (l : Int))] 5)))
          have hps : (k : Int) ≤ (p.size : Int) := by rw [HSZ2.out]; exact hkS
          have hc1 : (9223372036854775807 < (p.extract 0 k).size + 1) = False := by
            have h1 : (p.extract 0 k).size ≤ p.size := by rw [ByteArray.size_extract]; omega
            have := HSZ2.out
            simp; omega
          have hc2 : (9223372036854775807 < min k p.size + 1) = False := by
            have := HSZ2.out
            have := Nat.min_le_right k p.size
            simp only [eq_iff_iff, iff_false]; omega
          have HUS : Hid ((p.extract 0 k ++ ⟨#[ltB l]⟩).data.toList = PL.take k ++ [ltB l]) := Lib.hid (by
            rw [ByteArray.data_append, Array.toList_append, extract_listP, HPL.out, List.drop_zero, Nat.sub_zero])
          have HO : Hid (∀ W, Below wu.heap.size wu W → W.ownsRow wo.heap.size 2 1 (.slice A3 l c3) l (iv (row.take l))) := Lib.hid (fun W hb => by
            have := own_below hst.1 hb (Nat.le_refl _)
            unfold OwnsI at this
            rwa [List.length_take, Nat.min_eq_left (by omega)] at this)
          have hws : wo.heap.size ≤ wu.heap.size := hst.2.size
          have HB1 : Hid (Below wu.heap.size wu (wu.alloc (.cells #[.int .u8 (97 + (l : Int))] 5))) := Lib.hid ((Below.refl _ wu).alloc (Nat.le_refl _) _)
          clear hst hz hzf
          go_upto_region 9 with fail
          go_region_law ((first
              | (go_simp
                 go_at_call 159
                 refine (HFT.out _ _ ?_ ?_).mono ?_
                 (first | exact HB1.out | exact below_drewN HB1.out 1 | exact below_drewN HB1.out _)
                 exact HUS.out
                 rintro e w9 ⟨rfl, hB9⟩
                 have HB9 := Lib.hid hB9
                 have hs9 : wu.heap.size ≤ w9.heap.size := hB9.size
                 have HST9 : Hid (RSt wo row l (.slice A3 l c3) w9) := Lib.hid (HST.out.kept hB9)
                 clear hB9)
              | (refine step_append_lies _ (by rfl) _ _ 22 (by rfl) wo.heap.size 2 i0 (.int .i64 0) 1 8 Try.underlying22 hi hz0 hz1 hz2 (by rfl) (by decide) (.slice A3 l c3) l (iv (row.take l)) (by rfl) ?_ ⟨w9.heap.size, 0, none⟩ 1 1 [.int .i64 z] (by rfl) (by rfl) ?_ (one_int _ _) (by decide) ?_ ?_ ?_ (w9.heap.size + 1) ?_ ?_
                 (first | exact World.ownsRow.alloc (HO.out _ HB9.out) _ | exact own_drewN (World.ownsRow.alloc (HO.out _ HB9.out) _) 1)
                 (first | exact one_new w9 _ _ | exact one_newD w9 _ _)
                 (unfold maxLen; omega)
                 omega
                 (simp; omega)
                 simp
                 intro g8 c8 w8 hown' hgrow _ _
                 have hG : (w9.alloc (.cells #[.int .i64 z] 2)).grownBy w8 (Value.slice A3 l c3).ownBlock := by first | exact hgrow | exact grown_undrew hgrow
                 have HN8 := Lib.hid (RSt.append HST9.out HLR.out HZ.out hown' hG)
                 clear hG hown' hgrow)))
          all_goals
            go_wp2_with fail
            go_roundw
            all_goals first | exact ⟨l + 1, by omega, by go_num, HN8.out⟩ | ((repeat apply Exists.intro); exact ⟨⟨l + 1, by omega, by go_num, HN8.out⟩, rfl⟩) | (simp [intOf]; done) | (simp [intOf]; omega) | omega
        · obtain rfl : l = 4 := by omega
          obtain ⟨i0, hi, hz0, hz1, hz2⟩ := info_parts Try.info_ints
          have hO4 := hst.1
          rw [List.take_of_length_le (by rw [HRL.out]; exact Nat.le_refl _)] at hO4
          have HO4 := Lib.hid hO4
          clear hO4
          have HBU := Lib.hid hst.2
          obtain ⟨U, B, hown⟩ := HS.out.own
          have HOW := Lib.hid hown
          have hUl : U.length = k := by rw [hown.2.2.2.2.len, List.length_take, HNL.out]; omega
          have HUL := Lib.hid hUl
          obtain ⟨An', cn', hAn⟩ := own_slice hown.2.2.2.2.outer
          rw [hUl] at hAn
          subst hAn
          have hBs : B ≤ wo.heap.size := hown.2.2.2.1
          have hws : wo.heap.size ≤ wu.heap.size := hst.2.size
          have HOUT : Hid (∀ o, (wu.alloc o).ownsRow B 22 1 (.slice An' k cn') k U) := Lib.hid (fun o => by
            have := ((hown.2.2.2.2.kept hst.2).outer.alloc o)
            rwa [hUl] at this)
          have HX9 := Lib.hid (HS.out.out.kept hst.2)
          have hX9 : X < wu.heap.size := HX9.out.lt
          have hXw : w.heap.size < X := by have := HXE.out; omega
          have HWB : Hid (w.heap.size < B) := Lib.hid (by have := hown.2.2.1; have := HXE.out; omega)
          obtain ⟨⟨y0, y1, y2, y3⟩, d0, d1, d2, d3⟩ := blk4_cells HX9.out
          obtain ⟨A9, c9, hA9⟩ := own_slice HO4.out
          rw [HRL.out] at hA9
          subst hA9
          have HR9 := Lib.hid (HR.out.kept hst.2)
          clear hst hown hUl
          go_wp2_with (first | (at_builtin; refine wpList_append_own _ rfl _ _ 23 rfl B 22 i0 (.slice none 0 0) 1 24 Try.underlying23 hi hz0 hz1 hz2 rfl (by decide) _ _ _ rfl (HOUT.out _) ⟨wu.heap.size, 0, none⟩ 1 1 [.slice A9 4 c9] rfl rfl (one_new _ _ _) (one_slice _ _ _) (by unfold maxLen; omega) (by omega) (by simp; omega) ?_))
          intro n' w10 hown' hgrow _
          obtain ⟨hb4, hnew⟩ := GSt.append HS.out HOW.out HBU.out HO4.out (by rw [HUL.out]; exact hown') hgrow
          have HNEW : Hid (GSt w X ((S : Int) + 1) 0 [(S : Int)] (.slice (some ⟨w.heap.size + 1, 0, none⟩) 1 1) ((patNx PL).take (k + 1)) n' (w10.setCell ⟨X, 3, none⟩ n')) := Lib.hid (by rw [HTK.out]; exact hnew)
          have HR10 : Hid (B4 (w10.setCell ⟨X, 3, none⟩ n') w.heap.size (.int .i64 0) (.int .i64 0) (.slice none 0 0) (.slice none 0 0) 33) := Lib.hid (B4.far ((HR9.out.alloc _).grown hgrow (fun e => by have h1 := (HOW.out.2.2.2.2.outer.lt _ e).1; have h2 := HWB.out; omega)) _ _ (by simp only; omega))
          obtain ⟨⟨z0, z1, z2, z3⟩, b0, b1, b2, b3⟩ := blk4_cells hb4
          obtain ⟨An2, cn2, rfl⟩ := own_slice hown'
          clear hown' hgrow hb4 hnew y0 y1 y2 y3 d0 d1 d2 d3
          go_wp2_with fail
          go_roundw
          all_goals first | exact ⟨k + 1, _, by omega, by go_num, HNEW.out, HR10.out⟩ | ((repeat apply Exists.intro); exact ⟨⟨k + 1, _, by omega, by go_num, HNEW.out, HR10.out⟩, rfl⟩) | (simp [intOf]; done) | (simp [intOf]; omega) | omega
    · obtain rfl : k = S + 1 := by omega
      have hlt2 : ¬ ((S : Int) + 1) ≤ (p.size : Int) := by rw [HSZ2.out]; omega
      have hlt3 : ¬ ((S : Int) + 1) < ((S : Int) + 1) := by omega
      obtain ⟨U, B, hown⟩ := hst.own
      obtain ⟨An', cn', hAn⟩ := own_slice hown.2.2.2.2.outer
      obtain ⟨⟨x0, x1, x2, x3⟩, _⟩ := blk4_cells hst.out
      rw [hAn] at x3
      obtain ⟨⟨r0, r1, r2, r3⟩, g0, g1, g2, g3⟩ := blk4_cells hR
      have HE := Lib.hid (blk4_cells (blk4_all (a' := .int .i64 ((S : Int) + 1)) (b' := .int .i64 0) (c' := .slice (some ⟨w.heap.size + 1, 0, none⟩) 1 1) (d' := .slice An' U.length cn') hR)).1
      have HBW := Lib.hid hst.below
      have HA9 := Lib.hid (hst.ownA hR (.int .i64 ((S : Int) + 1)) (.int .i64 0) (.slice (some ⟨w.heap.size + 1, 0, none⟩) 1 1) (.slice An' U.length cn'))
      have hXw : w.heap.size ≠ X := by have := HXE.out; omega
      have HTA : Hid ((patNx PL).take (S + 1) = patNx PL) := Lib.hid (List.take_of_length_le (by rw [HNL.out]; exact Nat.le_refl _))
      subst hAn
      clear hown hst hR
      go_wp2_with fail
      obtain ⟨y0, y1, y2, y3⟩ := HE.out
      obtain ⟨U', hA⟩ := HA9.out
      refine bodyPost_ret (v := .agg #[.int .i64 ((S : Int) + 1), .int .i64 0, .slice (some ⟨w.heap.size + 1, 0, none⟩) 1 1, .slice An' U.length cn']) (by simp [results, Try.results94, go_sem, y0, y1, y2, y3]) rfl ⟨_, _, rfl, ⟨U', ?_⟩, ?_⟩
      · rw [HTA.out] at hA
        exact hA
      · exact (((HBW.out.setCell (Nat.le_refl _) _).setCell (Nat.le_refl _) _).setCell (Nat.le_refl _) _).setCell (Nat.le_refl _) _
end Go.Proofs.Ytaffachjopjbgaa
namespace Go.Proofs.Ytaffachjopjbgaa
open Go.RowKit
open Wd
set_option linter.unusedVariables false
theorem letter_textP (k : Nat) (hk : k < 4) (w : World) : (convert 21 9 (.int .i32 (97 + (k : Int)))).run Try.prog w = .ok (.string ⟨#[ltB k]⟩) w := by
  have h0 : (convert 21 9 (.int .i32 97)).run Try.prog w = .ok (.string ⟨#[97]⟩) w := by kernel_rfl
  have h1 : (convert 21 9 (.int .i32 98)).run Try.prog w = .ok (.string ⟨#[98]⟩) w := by kernel_rfl
  have h2 : (convert 21 9 (.int .i32 99)).run Try.prog w = .ok (.string ⟨#[99]⟩) w := by kernel_rfl
  have h3 : (convert 21 9 (.int .i32 100)).run Try.prog w = .ok (.string ⟨#[100]⟩) w := by kernel_rfl
  match k, hk with
  | 0, _ => exact h0
  | 1, _ => exact h1
  | 2, _ => exact h2
  | 3, _ => exact h3
theorem grown_iterAtP (w : World) (k : Nat) (s : ByteArray) (pos : Nat) : w.grownBy (w.iterAt k s pos) (some k) :=
  ⟨rfl, rfl, rfl, by rw [Lib.iterAt_size]; exact Nat.le_refl _, fun i _ hi => Lib.iterAt_other w k i s pos (fun e => hi (by rw [e]))⟩
theorem own_iter_neP {w : World} {B e s n I pos : Nat} {v : Value} {xs : List Value} {str : ByteArray} (h : w.ownsRow B e s v n xs) (hi : w.heap[I]? = some (.stringIter str pos)) : v.ownBlock ≠ some I := by
  rcases h.2 with ⟨rfl, _⟩ | ⟨g', cap, cur, rfl, _, hh, _⟩
  · simp [Value.ownBlock]
  · intro he
    have : g' = I := by simpa [Value.ownBlock] using he
    subst this
    rw [hh] at hi
    cases hi
theorem abcd_atP (k : Nat) (hk : k < 4) : ((⟨#[97, 98, 99, 100]⟩ : ByteArray)[k]'(by show k < 4; exact hk)).toNat = 97 + k := by
  match k, hk with
  | 0, _ => rfl
  | 1, _ => rfl
  | 2, _ => rfl
  | 3, _ => rfl
theorem abcd_nextP (w : World) (I k : Nat) (hk : k < 4) (hi : w.heap[I]? = some (.stringIter ⟨#[97, 98, 99, 100]⟩ k)) (ty : TypeId) :
    (Instr.next (.pointer (some ⟨I, 0, none⟩)) true ty).run Try.prog w = .ok (.tuple #[.bool true, .int .i64 k, .int .i32 (97 + (k : Int))]) (w.iterAt I ⟨#[97, 98, 99, 100]⟩ (k + 1)) := by
  have h1 := abcd_atP k hk
  have := Lib.run_next_ascii_at (P := Try.prog) w I ⟨#[97, 98, 99, 100]⟩ k ty hi (by show k < 4; exact hk) (by rw [h1]; omega)
  rw [h1] at this
  rw [this]
  simp
theorem abcd_endP (w : World) (I k : Nat) (hk : ¬ k < 4) (hi : w.heap[I]? = some (.stringIter ⟨#[97, 98, 99, 100]⟩ k)) (ty : TypeId) :
    (Instr.next (.pointer (some ⟨I, 0, none⟩)) true ty).run Try.prog w = .ok (.tuple #[.bool false]) w :=
  Lib.run_next_end_at w I ⟨#[97, 98, 99, 100]⟩ k ty hi hk
theorem fitN_eq {PL ul : List UInt8} {m : Nat} (h : (PL.take m).isSuffixOf ul = true) : fitL PL ul m = m := by
  cases m with
  | zero => rfl
  | succ m => exact fitL_yes h
/-- between two letters -/
def RIt (wo : World) (row : List Int) (I l : Nat) (tv : Value) (wr : World) : Prop := RSt wo row l tv wr ∧ wr.heap[I]? = some (.stringIter ⟨#[97, 98, 99, 100]⟩ l)
set_option maxRecDepth 100000 in
set_option maxHeartbeats 12800000 in
theorem patternAuto_any (p : ByteArray) (w : World) (hp : p.size ≤ 20) :
    Calls Try.prog 112 #[.string p] w fun e w' => ∃ f n U, e = .returned (.agg #[.int .i64 (patA p.data.toList).st, .int .i64 (patA p.data.toList).go, f, n]) ∧ OwnA w' w.heap.size f n U (patA p.data.toList).fin (patA p.data.toList).nx ∧ Below w.heap.size w w' := by
  have hl : p.data.toList.length = p.size := by simp
  unfold patA
  simp only
  have hnl := patNx_len p.data.toList
  rw [hl] at hnl ⊢
  have HNG := Lib.hid (fun k (hk : k < (patNx p.data.toList).length) => patNx_get hk)
  have HNL := Lib.hid hnl
  clear hnl
  obtain ⟨S, hS⟩ : ∃ S, S = p.size := ⟨_, rfl⟩
  rw [← hS] at hp HNL ⊢
  have HSZ := Lib.hid hS
  have hw1 : wrap64 ((S : Int) + 1) = (S : Int) + 1 := by unfold wrap64; omega
  obtain ⟨hRb, hFb, hXb, hB3, hs3⟩ := al3 w (.cells #[.int .i64 0, .int .i64 0, .slice none 0 0, .slice none 0 0] 33) (.cells #[.int .i64 (S : Int)] 2) (.cells #[.int .i64 ((S : Int) + 1), .int .i64 0, .slice (some ⟨w.heap.size + 1, 0, none⟩) 1 1, .slice none 0 0] 33)
  have hown : OwnsI (((w.alloc (.cells #[.int .i64 0, .int .i64 0, .slice none 0 0, .slice none 0 0] 33)).alloc (.cells #[.int .i64 (S : Int)] 2)).alloc (.cells #[.int .i64 ((S : Int) + 1), .int .i64 0, .slice (some ⟨w.heap.size + 1, 0, none⟩) 1 1, .slice none 0 0] 33)) w.heap.size (.slice (some ⟨w.heap.size + 1, 0, none⟩) 1 1) [(S : Int)] := by
    have h1 := World.ownsRow_lit (base := w.heap.size) (e := 2) (size := 1) (w.alloc (.cells #[.int .i64 0, .int .i64 0, .slice none 0 0, .slice none 0 0] 33)) #[.int .i64 (S : Int)] 1 (by simp) (by decide) rfl
    rw [show (w.alloc (.cells #[.int .i64 0, .int .i64 0, .slice none 0 0, .slice none 0 0] 33)).heap.size = w.heap.size + 1 from by simp] at h1
    exact h1.alloc _
  have hG3 : GSt w (w.heap.size + 2) ((S : Int) + 1) 0 [(S : Int)] (.slice (some ⟨w.heap.size + 1, 0, none⟩) 1 1) ((patNx p.data.toList).take 0) (.slice none 0 0) (((w.alloc (.cells #[.int .i64 0, .int .i64 0, .slice none 0 0, .slice none 0 0] 33)).alloc (.cells #[.int .i64 (S : Int)] 2)).alloc (.cells #[.int .i64 ((S : Int) + 1), .int .i64 0, .slice (some ⟨w.heap.size + 1, 0, none⟩) 1 1, .slice none 0 0] 33)) :=
    ⟨hXb, ⟨[], _, hown, fun q hq => (hown.lt q hq).2, by rw [hs3]; omega, Nat.le_refl _, ⟨World.ownsRow_nil _ _ _ _, by rw [List.take_zero]; exact Rws.nil _ _⟩⟩, by omega, hB3⟩
  have HG3 := Lib.hid hG3
  have HR3 : Hid (B4 _ w.heap.size (.int .i64 0) (.int .i64 0) (.slice none 0 0) (.slice none 0 0) 33) := Lib.hid hRb
  have HS3 := Lib.hid hs3
  obtain ⟨⟨x0, x1, x2, x3⟩, _⟩ := blk4_cells (show B4 _ (w.heap.size + 2) _ _ _ _ _ from hXb)
  clear hRb hFb hXb hB3 hs3 hown hG3 hS hl
  obtain ⟨PL, hPL⟩ : ∃ PL, PL = p.data.toList := ⟨_, rfl⟩
  rw [← hPL] at HG3 HNL HNG ⊢
  have HPL := Lib.hid hPL
  clear hPL
  have HSZ2 : Hid (p.size = S) := Lib.hid HSZ.out.symm
  go_enter Try.func112, Try.ntmps112
  go_upto_region 2 with fail
  rw [HSZ2.out, hw1]
  generalize ((w.alloc (.cells #[.int .i64 0, .int .i64 0, .slice none 0 0, .slice none 0 0] 33)).alloc (.cells #[.int .i64 (S : Int)] 2)).alloc (.cells #[.int .i64 ((S : Int) + 1), .int .i64 0, .slice (some ⟨w.heap.size + 1, 0, none⟩) 1 1, .slice none 0 0] 33) = w3 at *
  obtain ⟨X, hX⟩ : ∃ X, X = w.heap.size + 2 := ⟨_, rfl⟩
  rw [← hX] at HG3 x0 x1 x2 x3 ⊢
  have HRK := Lib.hid (fun W (hb : Below w3.heap.size w3 W) => HR3.out.kept hb)
  have HXE := Lib.hid hX
  clear hX
  go_wp2_with fail
  clear x0 x1 x2 x3
  go_loopw [19] (fun i wr => ∃ (k : Nat) (n : Value), k ≤ S + 1 ∧ i = .int .i64 k ∧ GSt w X ((S : Int) + 1) 0 [(S : Int)] (.slice (some ⟨w.heap.size + 1, 0, none⟩) 1 1) ((patNx PL).take k) n wr ∧ B4 wr w.heap.size (.int .i64 0) (.int .i64 0) (.slice none 0 0) (.slice none 0 0) 33) (fun i _ => S + 1 - (intOf i).toNat)
  case atStart => exact ⟨0, _, Nat.zero_le _, rfl, HG3.out, HR3.out⟩
  case round =>
    obtain ⟨k, n, hk, rfl, hst, hR⟩ := hrel
    obtain ⟨wo, rfl⟩ : ∃ wo : World, wo = wr := ⟨_, rfl⟩
    have HS := Lib.hid hst
    have HR := Lib.hid hR
    by_cases hlt : k < S + 1
    · have hkg : k < (patNx PL).length := by rw [HNL.out]; exact hlt
      have HTK : Hid ((patNx PL).take (k + 1) = (patNx PL).take k ++ [patRow PL k]) := Lib.hid (by rw [List.take_succ_eq_append_getElem hkg, HNG.out k hkg])
      have hrl := patRow_len PL k
      have HRG := Lib.hid (fun l (hl : l < (patRow PL k).length) => patRow_get hl)
      have HRL := Lib.hid hrl
      have HRS := Lib.hid (rst_start wo (patRow PL k))
      have hkS : (k : Int) ≤ (S : Int) := by omega
      have hkP : (k : Int) ≤ (p.size : Int) := by rw [HSZ2.out]; omega
      have k0 : (0 : Int) ≤ (k : Int) := by omega
      have hkS1 : (k : Int) < (S : Int) + 1 := by omega
      obtain ⟨row, hrow⟩ : ∃ row, row = patRow PL k := ⟨_, rfl⟩
      rw [← hrow] at HRL HRS HTK
      have HROW := Lib.hid hrow
      clear hkg hrl hrow hst hR
      have HRI : Hid (RIt wo row (wo.heap.size + 1) 0 (.slice (some ⟨wo.heap.size, 0, none⟩) 0 0) ((wo.alloc (.cells #[] 2)).alloc (.stringIter ⟨#[97, 98, 99, 100]⟩ 0))) := Lib.hid ⟨HRS.out.kept ((Below.refl _ _).alloc (Nat.le_refl _) _), by
        have := heap_alloc_new (wo.alloc (.cells #[] 2)) (.stringIter ⟨#[97, 98, 99, 100]⟩ 0)
        rwa [show (wo.alloc (.cells #[] 2)).heap.size = wo.heap.size + 1 from by simp] at this⟩
      obtain ⟨I, hI⟩ : ∃ I, I = wo.heap.size + 1 := ⟨_, rfl⟩
      have HIE := Lib.hid hI
      rw [← hI] at HRI
      clear hI
      go_wp2_with fail
      rw [← HIE.out]
      go_loopw [5] (fun tv wr => ∃ l : Nat, l ≤ 4 ∧ RIt wo row I l tv wr) (fun _ wr => 4 - wr.iterPos I)
      case atStart => exact ⟨0, by omega, HRI.out⟩
      case round =>
        obtain ⟨l, hl4, hst⟩ := hrel
        obtain ⟨wu, rfl⟩ : ∃ wu : World, wu = wr := ⟨_, rfl⟩
        have hms := iterPos_of hst.2
        by_cases hl : l < 4
        · obtain ⟨i0, hi, hz0, hz1, hz2⟩ := info_parts Try.info_int64
          have hnx := abcd_nextP wu I l hl hst.2
          have hlr : l < row.length := by rw [HRL.out]; exact hl
          have hb1 := grown_iterAtP wu I ⟨#[97, 98, 99, 100]⟩ (l + 1)
          have hIw : wo.heap.size ≤ I := by have := HIE.out; omega
          obtain ⟨A3, c3, hA3⟩ := own_slice hst.1.1
          rw [List.length_take, Nat.min_eq_left (by omega)] at hA3
          subst hA3
          have HSR : Hid (RSt wo row l (.slice A3 l c3) (wu.iterAt I ⟨#[97, 98, 99, 100]⟩ (l + 1))) := Lib.hid ⟨World.ownsRow.kept hst.1.1 hb1 (.inr (own_iter_neP hst.1.1 hst.2)), Lib.below_iterAt hst.1.2 hIw _ _⟩
          have HIT : Hid ((wu.iterAt I ⟨#[97, 98, 99, 100]⟩ (l + 1)).heap[I]? = some (.stringIter ⟨#[97, 98, 99, 100]⟩ (l + 1))) := Lib.hid (Lib.iterAt_heap wu I _ l (l + 1) hst.2)
          clear hst hb1 hIw
          generalize wu.iterAt I ⟨#[97, 98, 99, 100]⟩ (l + 1) = w1 at *
          have hcv := fun W => letter_textP l hl W
          have HLR := Lib.hid hlr
          obtain ⟨z, hz⟩ : ∃ z, z = fitN PL (PL.take k ++ [ltB l]) := ⟨_, rfl⟩
          have HZ : Hid (row[l]'HLR.out = ((z : Nat) : Int)) := Lib.hid (by
            simp only [HROW.out]
            exact (HRG.out l (by rw [← HROW.out]; exact hlr)).trans (by rw [hz]))
          have HUS : Hid ((p.extract 0 k ++ ⟨#[ltB l]⟩).data.toList = PL.take k ++ [ltB l]) := Lib.hid (by
            rw [ByteArray.data_append, Array.toList_append, extract_listP, HPL.out, List.drop_zero, Nat.sub_zero])
          have hle : (p.extract 0 k).size = k := by rw [ByteArray.size_extract]; omega
          have hus : (p.extract 0 k ++ ⟨#[ltB l]⟩ : ByteArray).size = k + 1 := by rw [ByteArray.size_append, hle]; rfl
          have hc1 : (9223372036854775807 < (p.extract 0 k).size + 1) = False := by rw [hle]; simp; omega
          have hc2 : (9223372036854775807 < min k p.size + 1) = False := by
            have := HSZ2.out
            have := Nat.min_le_right k p.size
            simp only [eq_iff_iff, iff_false]; omega
          have HFIT : Hid (∀ u : ByteArray, u.data.toList = PL.take k ++ [ltB l] → fitL PL u.data.toList (min (k + 1) S) = z) := Lib.hid (fun u hu => by
            rw [hu, hz]
            unfold fitN
            have h2 : PL.length = S := by rw [HPL.out, HSZ.out]; simp
            rw [h2, List.length_append, List.length_take, h2, Nat.min_eq_left (by omega : k ≤ S), Nat.min_comm]
            rfl)
          clear hz hlr
          go_upto_region 10 with fail
          have HU2 := HUS.out
          have HF2 := HFIT.out _ HU2
          have HHS : Hid (∀ q W, Calls Try.prog 166 #[.string (p.extract 0 k ++ ⟨#[ltB l]⟩), .string q] W fun e w' => e = .returned (.bool (q.data.toList.isSuffixOf (p.extract 0 k ++ ⟨#[ltB l]⟩).data.toList)) ∧ w' = W) := Lib.hid (fun q W => (Try.strings_HasSuffix _ q W (by rw [hus]; omega)).mono (fun e w' h => ⟨h.1.trans rfl, h.2⟩))
          have hul : (p.extract 0 k ++ ⟨#[ltB l]⟩).data.toList.length = k + 1 := by rw [← hus]; simp; rfl
          generalize p.extract 0 k ++ ⟨#[ltB l]⟩ = u at *
          have HF3 := Lib.hid HF2
          have HUL := Lib.hid hul
          clear HU2 HF2 hul hle
          go_wp2_with fail
          go_loopw [9] (fun i wr => ∃ m : Nat, m ≤ S ∧ m ≤ k + 1 ∧ i = .int .i64 m ∧ fitL PL u.data.toList m = z ∧ w1 = wr) (fun i _ => (intOf i).toNat)
          case atStart => exact ⟨min (k + 1) S, by omega, by omega, by (congr 1; rw [HSZ2.out]; omega), HF3.out, rfl⟩
          case round =>
            obtain ⟨m, hm1, hm2, rfl, hfit, rfl⟩ := hrel
            have hmp : (m : Int) ≤ (p.size : Int) := by rw [HSZ2.out]; omega
            have m0 : (0 : Int) ≤ (m : Int) := by omega
            have hql : (p.extract 0 m).data.toList = PL.take m := by rw [extract_listP, HPL.out, List.drop_zero, Nat.sub_zero]
            have HC := Lib.hid (HHS.out (p.extract 0 m) w1)
            rw [hql] at HC
            clear hql
            cases hs : (PL.take m).isSuffixOf u.data.toList
            · rw [hs] at HC
              obtain ⟨j, hj⟩ : ∃ j, m = j + 1 := by
                cases m with
                | zero => rw [List.take_zero, suffix_nil] at hs; cases hs
                | succ j => exact ⟨j, rfl⟩
              have HN : Hid (fitL PL u.data.toList j = z) := Lib.hid (by rw [← hfit, hj, fitL_no (by rw [← hj]; exact hs)])
              have hw2 : IntKind.i64.wrap ((m : Int) - 1) = (j : Int) := by rw [IntKind.wrap_i64]; omega
              have HJ := Lib.hid hj
              clear hs hfit hj
              go_wp2_with fail
              refine HC.out.mono ?_
              rintro e w9 ⟨rfl, hw9⟩
              obtain rfl := hw9.symm
              go_wp2_with fail
              go_roundw
              case rel => exact ⟨j, by have := HJ.out; omega, by have := HJ.out; omega, rfl, HN.out, by first | rfl | trivial⟩
              case measure => (have := HJ.out; simp [intOf]; omega)
            · rw [hs] at HC
              have HN : Hid (m = z) := Lib.hid (by rw [← hfit]; exact (fitN_eq hs).symm)
              have HO : Hid (∀ o, (w1.alloc o).ownsRow wo.heap.size 2 1 (.slice A3 l c3) l (iv (row.take l))) := Lib.hid (fun o => by
                have := HSR.out.1.alloc o
                rwa [List.length_take, Nat.min_eq_left (by rw [HRL.out]; omega)] at this)
              have hws : wo.heap.size ≤ w1.heap.size := HSR.out.2.size
              clear hs hfit
              go_wp2_with fail
              refine HC.out.mono ?_
              rintro e w9 ⟨rfl, hw9⟩
              obtain rfl := hw9.symm
              go_wp2_with (first | (at_builtin; refine wpList_append_own _ rfl _ _ 22 rfl wo.heap.size 2 i0 (.int .i64 0) 1 8 Try.underlying22 hi hz0 hz1 hz2 rfl (by decide) _ _ _ rfl (HO.out _) ⟨w1.heap.size, 0, none⟩ 1 1 [.int .i64 (m : Int)] rfl rfl (one_new _ _ _) (one_int _ _) (by unfold maxLen; omega) (by omega) (by simp; omega) ?_))
              intro v' w5 hown' hgr _
              have HZ2 : Hid (row[l]'HLR.out = (m : Int)) := Lib.hid (by rw [HN.out]; exact HZ.out)
              have HN5 := Lib.hid (RSt.append HSR.out HLR.out HZ2.out hown' hgr)
              have HI5 : Hid (w5.heap[I]? = some (.stringIter ⟨#[97, 98, 99, 100]⟩ (l + 1))) := Lib.hid (by
                have hIl : I < w1.heap.size := (Array.getElem?_eq_some_iff.1 HIT.out).1
                rw [hgr.block I (by simp; omega) (fun e => own_iter_neP HSR.out.1 HIT.out e.symm), ((Below.refl _ w1).alloc (Nat.le_refl _) _).block I hIl]
                exact HIT.out)
              have hm5 := iterPos_of HI5.out
              clear hown' hgr
              go_wp2_with fail
              go_roundw
              all_goals first | exact ⟨l + 1, by omega, HN5.out, HI5.out⟩ | ((repeat apply Exists.intro); exact ⟨⟨l + 1, by omega, HN5.out, HI5.out⟩, rfl⟩) | (simp [intOf]; done) | (simp [intOf]; omega) | omega
        · obtain rfl : l = 4 := by omega
          have hnx := abcd_endP wu I 4 (by omega) hst.2
          have hst := hst.1
          obtain ⟨i0, hi, hz0, hz1, hz2⟩ := info_parts Try.info_ints
          have hO4 := hst.1
          rw [List.take_of_length_le (by rw [HRL.out]; exact Nat.le_refl _)] at hO4
          have HO4 := Lib.hid hO4
          clear hO4
          have HBU := Lib.hid hst.2
          obtain ⟨U, B, hown⟩ := HS.out.own
          have HOW := Lib.hid hown
          have hUl : U.length = k := by rw [hown.2.2.2.2.len, List.length_take, HNL.out]; omega
          have HUL := Lib.hid hUl
          obtain ⟨An', cn', hAn⟩ := own_slice hown.2.2.2.2.outer
          rw [hUl] at hAn
          subst hAn
          have hBs : B ≤ wo.heap.size := hown.2.2.2.1
          have hws : wo.heap.size ≤ wu.heap.size := hst.2.size
          have HOUT : Hid (∀ o, (wu.alloc o).ownsRow B 22 1 (.slice An' k cn') k U) := Lib.hid (fun o => by
            have := ((hown.2.2.2.2.kept hst.2).outer.alloc o)
            rwa [hUl] at this)
          have HX9 := Lib.hid (HS.out.out.kept hst.2)
          have hX9 : X < wu.heap.size := HX9.out.lt
          have hXw : w.heap.size < X := by have := HXE.out; omega
          have HWB : Hid (w.heap.size < B) := Lib.hid (by have := hown.2.2.1; have := HXE.out; omega)
          obtain ⟨⟨y0, y1, y2, y3⟩, d0, d1, d2, d3⟩ := blk4_cells HX9.out
          obtain ⟨A9, c9, hA9⟩ := own_slice HO4.out
          rw [HRL.out] at hA9
          subst hA9
          have HR9 := Lib.hid (HR.out.kept hst.2)
          clear hst hown hUl
          go_wp2_with (first | (at_builtin; refine wpList_append_own _ rfl _ _ 23 rfl B 22 i0 (.slice none 0 0) 1 24 Try.underlying23 hi hz0 hz1 hz2 rfl (by decide) _ _ _ rfl (HOUT.out _) ⟨wu.heap.size, 0, none⟩ 1 1 [.slice A9 4 c9] rfl rfl (one_new _ _ _) (one_slice _ _ _) (by unfold maxLen; omega) (by omega) (by simp; omega) ?_))
          intro n' w10 hown' hgrow _
          obtain ⟨hb4, hnew⟩ := GSt.append HS.out HOW.out HBU.out HO4.out (by rw [HUL.out]; exact hown') hgrow
          have HNEW : Hid (GSt w X ((S : Int) + 1) 0 [(S : Int)] (.slice (some ⟨w.heap.size + 1, 0, none⟩) 1 1) ((patNx PL).take (k + 1)) n' (w10.setCell ⟨X, 3, none⟩ n')) := Lib.hid (by rw [HTK.out]; exact hnew)
          have HR10 : Hid (B4 (w10.setCell ⟨X, 3, none⟩ n') w.heap.size (.int .i64 0) (.int .i64 0) (.slice none 0 0) (.slice none 0 0) 33) := Lib.hid (B4.far ((HR9.out.alloc _).grown hgrow (fun e => by have h1 := (HOW.out.2.2.2.2.outer.lt _ e).1; have h2 := HWB.out; omega)) _ _ (by simp only; omega))
          obtain ⟨⟨z0, z1, z2, z3⟩, b0, b1, b2, b3⟩ := blk4_cells hb4
          obtain ⟨An2, cn2, rfl⟩ := own_slice hown'
          clear hown' hgrow hb4 hnew y0 y1 y2 y3 d0 d1 d2 d3
          go_wp2_with fail
          go_roundw
          all_goals first | exact ⟨k + 1, _, by omega, by go_num, HNEW.out, HR10.out⟩ | ((repeat apply Exists.intro); exact ⟨⟨k + 1, _, by omega, by go_num, HNEW.out, HR10.out⟩, rfl⟩) | (simp [intOf]; done) | (simp [intOf]; omega) | omega
    · obtain rfl : k = S + 1 := by omega
      have hlt2 : ¬ ((S : Int) + 1) ≤ (p.size : Int) := by rw [HSZ2.out]; omega
      have hlt3 : ¬ ((S : Int) + 1) < ((S : Int) + 1) := by omega
      obtain ⟨U, B, hown⟩ := hst.own
      obtain ⟨An', cn', hAn⟩ := own_slice hown.2.2.2.2.outer
      obtain ⟨⟨x0, x1, x2, x3⟩, _⟩ := blk4_cells hst.out
      rw [hAn] at x3
      obtain ⟨⟨r0, r1, r2, r3⟩, g0, g1, g2, g3⟩ := blk4_cells hR
      have HE := Lib.hid (blk4_cells (blk4_all (a' := .int .i64 ((S : Int) + 1)) (b' := .int .i64 0) (c' := .slice (some ⟨w.heap.size + 1, 0, none⟩) 1 1) (d' := .slice An' U.length cn') hR)).1
      have HBW := Lib.hid hst.below
      have HA9 := Lib.hid (hst.ownA hR (.int .i64 ((S : Int) + 1)) (.int .i64 0) (.slice (some ⟨w.heap.size + 1, 0, none⟩) 1 1) (.slice An' U.length cn'))
      have hXw : w.heap.size ≠ X := by have := HXE.out; omega
      have HTA : Hid ((patNx PL).take (S + 1) = patNx PL) := Lib.hid (List.take_of_length_le (by rw [HNL.out]; exact Nat.le_refl _))
      subst hAn
      clear hown hst hR
      go_wp2_with fail
      obtain ⟨y0, y1, y2, y3⟩ := HE.out
      obtain ⟨U', hA⟩ := HA9.out
      refine bodyPost_ret (v := .agg #[.int .i64 ((S : Int) + 1), .int .i64 0, .slice (some ⟨w.heap.size + 1, 0, none⟩) 1 1, .slice An' U.length cn']) (by simp [results, Try.results112, go_sem, y0, y1, y2, y3]) rfl ⟨_, _, rfl, ⟨U', ?_⟩, ?_⟩
      · rw [HTA.out] at hA
        exact hA
      · exact (((HBW.out.setCell (Nat.le_refl _) _).setCell (Nat.le_refl _) _).setCell (Nat.le_refl _) _).setCell (Nat.le_refl _) _
end Go.Proofs.Ytaffachjopjbgaa
namespace Go.Proofs.Ytaffachjopjbgaa
open Go.RowKit
open Wd
set_option linter.unusedVariables false
namespace Wd
def autPatternAuto (p : ByteArray) : Au × Int := if askN true (okL p.data.toList) p.size = 0 then (patA p.data.toList, 0) else (zeroA, askN true (okL p.data.toList) p.size)
end Wd
theorem ask_size {g q : Bool} {n : Nat} (h : askN g q n = 0) : g = true ∧ q = true ∧ 0 < n ∧ n ≤ 20 := by
  unfold askN at h
  split at h
  · next h1 =>
    refine ⟨h1.1, h1.2, ?_⟩
    split at h
    · omega
    · split at h
      · omega
      · omega
  · omega
theorem autPatternAuto_few (p : ByteArray) : FewA (autPatternAuto p).1 := by
  unfold autPatternAuto
  split
  · next h =>
    have := (ask_size h).2.2.2
    exact patA_few (by have : p.data.toList.length = p.size := by simp
                       omega)
  · exact zeroA_few
theorem gp_nil (w : World) : GP (w.alloc (.cells #[.slice none 0 0] 37)) w.heap.size [] :=
  ⟨.slice none 0 0, cell_new w _ _, none, 0, rfl, .inl rfl⟩
theorem few_nil : FewR [] := by
  unfold FewR
  simp [sumL]
theorem empty_byte {p : ByteArray} (h : p.size = 0) : p = ⟨#[]⟩ := by
  have h0 : p.data.size = 0 := h
  obtain ⟨d⟩ := p
  simp only at h0
  rw [Array.eq_empty_of_size_eq_zero h0]
theorem full_byte {p : ByteArray} (h : p.size ≠ 0) : (p.toList == ([] : List UInt8)) = false := by
  rw [ByteArray.toList_eq, beq_eq_false_iff_ne]
  intro e
  have h9 : p.data.toList.length = 0 := by rw [e]; rfl
  exact h (by simpa using h9)
theorem OwnA.set4 {w : World} {lo : Nat} {f n : Value} {U : List Value} {fin : List Int} {nx : List (List Int)} (h : OwnA w lo f n U fin nx) {R : Nat} (hR : R < lo) (d0 d1 d2 d3 : Value) : OwnA ((((w.setCell ⟨R, 0, none⟩ d0).setCell ⟨R, 1, none⟩ d1).setCell ⟨R, 2, none⟩ d2).setCell ⟨R, 3, none⟩ d3) lo f n U fin nx := by
  have one : ∀ {w : World} (i : Nat) (d : Value), OwnA w lo f n U fin nx → OwnA (w.setCell ⟨R, i, none⟩ d) lo f n U fin nx := fun i d h => ⟨own_setLow h.fin _ _ hR, h.nx.setLow _ _ hR, h.ne⟩
  exact one 3 d3 (one 2 d2 (one 1 d1 (one 0 d0 h)))
theorem fault_any (p : ByteArray) (w : World) : Calls Try.prog 111 #[.string p] w fun e w' => e = .returned (.int .i64 (askN true true p.size)) ∧ w' = w := by
  unfold askN
  rw [if_pos ⟨rfl, rfl⟩]
  by_cases h0 : p.size = 0
  · rw [if_pos h0]
    have he := empty_byte h0
    subst he
    go_enter Try.func111, Try.ntmps111
    go_wp2_with fail
    go_ret
    exact ⟨rfl, rfl⟩
  · rw [if_neg h0]
    have hne := full_byte h0
    have hne2 : p.toList ≠ [] := by
      intro e
      rw [e] at hne
      simp at hne
    have hne3 : p.toList.isEmpty = false := by
      cases h : p.toList with
      | nil => exact absurd h hne2
      | cons a b => rfl
    by_cases h20 : 20 < p.size
    · rw [if_pos h20]
      have hd : (20 : Int) < (p.size : Int) := by omega
      clear h0
      go_enter Try.func111, Try.ntmps111
      go_wp2_with fail
      go_ret
      exact ⟨rfl, rfl⟩
    · rw [if_neg h20]
      have hd : ¬ (20 : Int) < (p.size : Int) := by omega
      clear h0
      go_enter Try.func111, Try.ntmps111
      go_wp2_with fail
      go_ret
      exact ⟨rfl, rfl⟩
set_option maxRecDepth 100000 in
set_option maxHeartbeats 3200000 in
theorem specPatternAuto (p : ByteArray) (w : World) (hp : p.size ≤ maxLen) :
    Calls Try.prog 43 #[.string p] w fun e w' => ∃ y, e = .returned (.tuple #[y, .int .i64 (autPatternAuto p).2]) ∧ IsAu w' y (autPatternAuto p).1 ∧ Below w.heap.size w w' := by
  have hb : Below w.heap.size w (w.alloc (.cells #[.int .i64 0, .int .i64 0, .slice none 0 0, .slice none 0 0] 33)) := (Below.refl _ w).alloc (Nat.le_refl _) _
  have hR : B4 (w.alloc (.cells #[.int .i64 0, .int .i64 0, .slice none 0 0, .slice none 0 0] 33)) w.heap.size (.int .i64 0) (.int .i64 0) (.slice none 0 0) (.slice none 0 0) 33 := B4.new w _ _ _ _ _
  have hG := gp_nil (w.alloc (.cells #[.int .i64 0, .int .i64 0, .slice none 0 0, .slice none 0 0] 33))
  rw [show (w.alloc (.cells #[.int .i64 0, .int .i64 0, .slice none 0 0, .slice none 0 0] 33)).heap.size = w.heap.size + 1 from by simp] at hG
  have hB2 := hb.alloc hb.size (.cells #[.slice none 0 0] 37)
  have hR2 := hR.alloc (.cells #[.slice none 0 0] 37)
  have HA := Lib.hid (l04Asked_any (w.heap.size + 1) [] p _ few_nil hp hG)
  rw [show gOk [] = true from rfl] at HA
  have HB2 := Lib.hid hB2
  have HR2 := Lib.hid hR2
  clear hb hR hG hB2 hR2
  unfold autPatternAuto
  obtain ⟨c, hc⟩ : ∃ c, c = askN true (okL p.data.toList) p.size := ⟨_, rfl⟩
  rw [← hc] at HA ⊢
  have HP := Lib.hid (fun (h0 : c = 0) W => l04Pattern_any p W (by have := (ask_size (hc.symm.trans h0)).2.2.2; exact this))
  clear hc
  by_cases h0 : c = 0
  · rw [if_pos h0]
    have HQ := Lib.hid (HP.out h0)
    subst h0
    go_enter Try.func43, Try.ntmps43
    go_wp2_with fail
    refine HA.out.mono ?_
    rintro e w3 ⟨rfl, hB3⟩
    have HB3 := Lib.hid (HB2.out.trans (hB3.mono HB2.out.size))
    have HR3 := Lib.hid (HR2.out.kept hB3)
    clear hB3
    go_wp2_with fail
    refine (HQ.out _).mono ?_
    rintro e w4 ⟨f, n, U, rfl, hA, hB4⟩
    have HB4 := Lib.hid (HB3.out.trans (hB4.mono HB3.out.size))
    have HR4 := Lib.hid (HR3.out.kept hB4)
    have HS4 := Lib.hid hB4.size
    obtain ⟨Af, cf, rfl⟩ := own_slice hA.fin
    obtain ⟨An, cn, rfl⟩ := own_slice hA.nx.outer
    have HAA := Lib.hid hA
    have HWW : Hid (w.heap.size < w3.heap.size) := Lib.hid HR3.out.lt
    obtain ⟨⟨r0, r1, r2, r3⟩, g0, g1, g2, g3⟩ := blk4_cells HR4.out
    obtain ⟨ST, hST⟩ : ∃ ST, ST = (patA p.data.toList).st := ⟨_, rfl⟩
    obtain ⟨GO, hGO⟩ : ∃ GO, GO = (patA p.data.toList).go := ⟨_, rfl⟩
    rw [← hST, ← hGO]
    have HE := Lib.hid (blk4_cells (blk4_all (a' := .int .i64 ST) (b' := .int .i64 GO) (c' := .slice Af (patA p.data.toList).fin.length cf) (d' := .slice An U.length cn) HR4.out)).1
    have HST := Lib.hid hST
    have HGO := Lib.hid hGO
    clear hA hB4 hST hGO
    go_wp2_with fail
    obtain ⟨y0, y1, y2, y3⟩ := HE.out
    refine bodyPost_ret (v := .tuple #[.agg #[.int .i64 ST, .int .i64 GO, .slice Af (patA p.data.toList).fin.length cf, .slice An U.length cn], .int .i64 0]) (by simp [results, Try.results43, go_sem, y0, y1, y2, y3]) rfl ⟨_, rfl, ?_, ?_⟩
    · rw [HST.out, HGO.out]
      have hlo := HWW.out
      exact (OwnA.set4 HAA.out (R := w.heap.size) hlo _ _ _ _).isAu
    · exact (((HB4.out.setCell (Nat.le_refl _) _).setCell (Nat.le_refl _) _).setCell (Nat.le_refl _) _).setCell (Nat.le_refl _) _
  · rw [if_neg h0]
    have hd : (c == 0) = false := by simp [h0]
    have hd2 : (c != 0) = true := by simp [h0]
    go_enter Try.func43, Try.ntmps43
    go_wp2_with fail
    refine HA.out.mono ?_
    rintro e w3 ⟨rfl, hB3⟩
    have HB3 := Lib.hid (HB2.out.trans (hB3.mono HB2.out.size))
    have HR3 := Lib.hid (HR2.out.kept hB3)
    obtain ⟨⟨r0, r1, r2, r3⟩, g0, g1, g2, g3⟩ := blk4_cells HR3.out
    have HE := Lib.hid (blk4_cells (blk4_all (a' := .int .i64 0) (b' := .int .i64 0) (c' := .slice none 0 0) (d' := .slice none 0 0) HR3.out)).1
    clear hB3
    go_wp2_with fail
    obtain ⟨y0, y1, y2, y3⟩ := HE.out
    refine bodyPost_ret (v := .tuple #[.agg #[.int .i64 0, .int .i64 0, .slice none 0 0, .slice none 0 0], .int .i64 c]) (by simp [results, Try.results43, go_sem, y0, y1, y2, y3]) rfl ⟨_, rfl, zeroA_is _, ?_⟩
    exact (((HB3.out.setCell (Nat.le_refl _) _).setCell (Nat.le_refl _) _).setCell (Nat.le_refl _) _).setCell (Nat.le_refl _) _
set_option maxRecDepth 100000 in
set_option maxHeartbeats 3200000 in
theorem implPatternAuto (p : ByteArray) (w : World) (hp : p.size ≤ maxLen) :
    Calls Try.prog 44 #[.string p] w fun e w' => ∃ f n U, e = .returned (.tuple #[.agg #[.int .i64 (autPatternAuto p).1.st, .int .i64 (autPatternAuto p).1.go, f, n], .int .i64 (autPatternAuto p).2]) ∧ OwnA w' w.heap.size f n U (autPatternAuto p).1.fin (autPatternAuto p).1.nx ∧ Below w.heap.size w w' := by
  have hb : Below w.heap.size w (w.alloc (.cells #[.int .i64 0, .int .i64 0, .slice none 0 0, .slice none 0 0] 33)) := (Below.refl _ w).alloc (Nat.le_refl _) _
  have hR : B4 (w.alloc (.cells #[.int .i64 0, .int .i64 0, .slice none 0 0, .slice none 0 0] 33)) w.heap.size (.int .i64 0) (.int .i64 0) (.slice none 0 0) (.slice none 0 0) 33 := B4.new w _ _ _ _ _
  have HB2 := Lib.hid hb
  have HR2 := Lib.hid hR
  have HV := Lib.hid (implOk p (w.alloc (.cells #[.int .i64 0, .int .i64 0, .slice none 0 0, .slice none 0 0] 33)) hp)
  have HF := Lib.hid (fault_any p (w.alloc (.cells #[.int .i64 0, .int .i64 0, .slice none 0 0, .slice none 0 0] 33)))
  clear hb hR
  unfold autPatternAuto
  cases ho : okL p.data.toList
  · rw [ho] at HV
    have ha : askN true false p.size = 1 := by unfold askN; rw [if_neg (by simp)]
    rw [ha, if_neg (by omega)]
    clear ho ha
    go_enter Try.func44, Try.ntmps44
    go_wp2_with fail
    refine HV.out.mono ?_
    rintro e w3 ⟨rfl, hw3⟩
    subst hw3
    obtain ⟨⟨r0, r1, r2, r3⟩, g0, g1, g2, g3⟩ := blk4_cells HR2.out
    have HE := Lib.hid (blk4_cells (blk4_all (a' := .int .i64 0) (b' := .int .i64 0) (c' := .slice none 0 0) (d' := .slice none 0 0) HR2.out)).1
    go_wp2_with fail
    obtain ⟨y0, y1, y2, y3⟩ := HE.out
    refine bodyPost_ret (v := .tuple #[.agg #[.int .i64 0, .int .i64 0, .slice none 0 0, .slice none 0 0], .int .i64 1]) (by first | (simp [results, Try.results44, go_sem]; done) | simp [results, Try.results44, go_sem, y0, y1, y2, y3]) rfl ⟨_, _, _, rfl, zeroA_own _ _, ?_⟩
    first | exact HB2.out | exact (Below.refl _ w).alloc (Nat.le_refl _) _ | exact (((HB2.out.setCell (Nat.le_refl _) _).setCell (Nat.le_refl _) _).setCell (Nat.le_refl _) _).setCell (Nat.le_refl _) _
  · rw [ho] at HV
    obtain ⟨c, hc⟩ : ∃ c, c = askN true true p.size := ⟨_, rfl⟩
    rw [← hc] at HF ⊢
    have HP := Lib.hid (fun (h0 : c = 0) W => patternAuto_any p W (by have := (ask_size (hc.symm.trans h0)).2.2.2; exact this))
    clear hc ho
    by_cases h0 : c = 0
    · rw [if_pos h0]
      have HQ := Lib.hid (HP.out h0)
      subst h0
      go_enter Try.func44, Try.ntmps44
      go_wp2_with fail
      refine HV.out.mono ?_
      rintro e w3 ⟨rfl, hw3⟩
      subst hw3
      go_wp2_with fail
      refine HF.out.mono ?_
      rintro e w3 ⟨rfl, hw3⟩
      obtain rfl := hw3.symm
      go_wp2_with fail
      refine (HQ.out _).mono ?_
      rintro e w4 ⟨f, n, U, rfl, hA, hB4⟩
      have HB4 := Lib.hid (HB2.out.trans (hB4.mono HB2.out.size))
      have HR4 := Lib.hid (HR2.out.kept hB4)
      obtain ⟨Af, cf, rfl⟩ := own_slice hA.fin
      obtain ⟨An, cn, rfl⟩ := own_slice hA.nx.outer
      have HAA := Lib.hid hA
      have HWW : Hid (w.heap.size < (w.alloc (.cells #[.int .i64 0, .int .i64 0, .slice none 0 0, .slice none 0 0] 33)).heap.size) := Lib.hid (by simp)
      obtain ⟨⟨r0, r1, r2, r3⟩, g0, g1, g2, g3⟩ := blk4_cells HR4.out
      obtain ⟨ST, hST⟩ : ∃ ST, ST = (patA p.data.toList).st := ⟨_, rfl⟩
      obtain ⟨GO, hGO⟩ : ∃ GO, GO = (patA p.data.toList).go := ⟨_, rfl⟩
      rw [← hST, ← hGO]
      have HE := Lib.hid (blk4_cells (blk4_all (a' := .int .i64 ST) (b' := .int .i64 GO) (c' := .slice Af (patA p.data.toList).fin.length cf) (d' := .slice An U.length cn) HR4.out)).1
      have HST := Lib.hid hST
      have HGO := Lib.hid hGO
      clear hA hB4 hST hGO
      go_wp2_with fail
      obtain ⟨y0, y1, y2, y3⟩ := HE.out
      refine bodyPost_ret (v := .tuple #[.agg #[.int .i64 ST, .int .i64 GO, .slice Af (patA p.data.toList).fin.length cf, .slice An U.length cn], .int .i64 0]) (by simp [results, Try.results44, go_sem, y0, y1, y2, y3]) rfl ⟨_, _, U, by rw [HST.out, HGO.out], ?_, ?_⟩
      · exact ((OwnA.set4 HAA.out (R := w.heap.size) HWW.out _ _ _ _).lower (by simp))
      · exact (((HB4.out.setCell (Nat.le_refl _) _).setCell (Nat.le_refl _) _).setCell (Nat.le_refl _) _).setCell (Nat.le_refl _) _
    · rw [if_neg h0]
      have hd : (c == 0) = false := by simp [h0]
      have hd2 : (c != 0) = true := by simp [h0]
      go_enter Try.func44, Try.ntmps44
      go_wp2_with fail
      refine HV.out.mono ?_
      rintro e w3 ⟨rfl, hw3⟩
      subst hw3
      go_wp2_with fail
      refine HF.out.mono ?_
      rintro e w3 ⟨rfl, hw3⟩
      obtain rfl := hw3.symm
      obtain ⟨⟨r0, r1, r2, r3⟩, g0, g1, g2, g3⟩ := blk4_cells HR2.out
      have HE := Lib.hid (blk4_cells (blk4_all (a' := .int .i64 0) (b' := .int .i64 0) (c' := .slice none 0 0) (d' := .slice none 0 0) HR2.out)).1
      go_wp2_with fail
      obtain ⟨y0, y1, y2, y3⟩ := HE.out
      refine bodyPost_ret (v := .tuple #[.agg #[.int .i64 0, .int .i64 0, .slice none 0 0, .slice none 0 0], .int .i64 c]) (by first | (simp [results, Try.results44, go_sem]; done) | simp [results, Try.results44, go_sem, y0, y1, y2, y3]) rfl ⟨_, _, _, rfl, zeroA_own _ _, ?_⟩
      first | exact HB2.out | exact (Below.refl _ w).alloc (Nat.le_refl _) _ | exact (((HB2.out.setCell (Nat.le_refl _) _).setCell (Nat.le_refl _) _).setCell (Nat.le_refl _) _).setCell (Nat.le_refl _) _
end Go.Proofs.Ytaffachjopjbgaa
