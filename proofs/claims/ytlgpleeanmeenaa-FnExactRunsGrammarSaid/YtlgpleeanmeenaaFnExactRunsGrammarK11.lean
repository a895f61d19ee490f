/-
  PlainT, RgT, Text, GramMk, GramHd, in one text.
-/
import Derived.Test.YtlgpleeanmeenaaFnExactRunsGrammarK10
import Derived.Test.YtlgpleeanmeenaaFnExactRunsGrammarK9
import Derived.Test.YtlgpleeanmeenaaBase
import Derived.Outline
import Derived.Test.YtlgpleeanmeenaaFnExactRunsGrammarK1
import Derived.Deep.RegionHeld3
namespace Go.Proofs.Ytlgpleeanmeenaa
open Go.RowKit
open Wd
set_option linter.unusedVariables false

set_option maxRecDepth 100000 in
set_option maxHeartbeats 3200000 in
theorem specPlainGrammar (s : ByteArray) (w : World) (hs : s.size ≤ maxLen) :
    Calls Try.prog 23 #[.string s] w fun e w' => ∃ y, e = .returned (.tuple #[.agg #[y], .int .i64 (gramPlainGrammar s).2]) ∧ OwnsR w' w.heap.size y (gramPlainGrammar s).1 ∧ Below w.heap.size w w' := by
  have hb := (Below.refl _ w).alloc (Nat.le_refl _) (.cells #[.slice none 0 0] 26)
  have HB := Lib.hid hb
  have hvr := Var.new w (.slice none 0 0) 26
  have HVR := Lib.hid hvr
  have hx := hvr.cell
  have c1 := fun W => specOk s W hs
  unfold gramPlainGrammar
  cases h : okL s.data.toList
  · rw [if_neg (by simp)]
    rw [h] at c1
    have H1 := Lib.hid c1
    clear c1 h hb hvr
    obtain ⟨x0, x1⟩ := hx
    go_enter Try.func23, Try.ntmps23
    go_wp2_with fail
    refine (H1.out _).mono ?_
    rintro e w1 ⟨rfl, rfl⟩
    go_wp2_with fail
    refine bodyPost_ret (v := .tuple #[.agg #[.slice none 0 0], .int .i64 1]) (by simp [results, Try.results23, go_sem, x0]) rfl ⟨_, rfl, World.ownsRow_nil _ _ _ _, HB.out⟩
  · rw [if_pos rfl]
    rw [h] at c1
    have H1 := Lib.hid c1
    have hlen := okL_len h
    have hsz : s.size ≤ 2000 := by simpa using hlen
    by_cases hl : 400 < s.size
    · have hno := plainG_long h (by simpa using hl)
      have hG : limG (plainG s.data.toList) = [] := by unfold limG; rw [hno]; rfl
      have hC : limC (plainG s.data.toList) = 3 := by unfold limC; rw [hno]; rfl
      rw [hG, hC]
      clear c1 h hb hvr hno hG hC
      obtain ⟨x0, x1⟩ := hx
      go_enter Try.func23, Try.ntmps23
      go_wp2_with fail
      refine (H1.out _).mono ?_
      rintro e w1 ⟨rfl, rfl⟩
      go_wp2_with fail
      refine bodyPost_ret (v := .tuple #[.agg #[.slice none 0 0], .int .i64 3]) (by simp [results, Try.results23, go_sem, x0]) rfl ⟨_, rfl, World.ownsRow_nil _ _ _ _, HB.out⟩
    · have HPL := Lib.hid (fun W => l02Plain_any s W h)
      have HFW := Lib.hid (plainG_few hlen)
      clear c1 h hb hvr hx hlen
      generalize plainG s.data.toList = pg at *
      go_enter Try.func23, Try.ntmps23
      go_wp2_with fail
      refine (H1.out _).mono ?_
      rintro e w1 ⟨rfl, rfl⟩
      go_wp2_with fail
      refine (HPL.out _).mono ?_
      rintro e w3 ⟨y, rfl, ho, hB3⟩
      have HV3 := Lib.hid (HVR.out.kept hB3)
      have HB3 := Lib.hid (HB.out.trans (hB3.mono HB.out.size))
      have hT := told_any y pg w3 HFW.out (Rules.of_own ho)
      have hlo := lim_own ho
      have hne : (limV pg y).ownBlock ≠ some w.heap.size := by
        intro hq
        have h7 := (hlo.lt _ hq).1
        rw [World.size_alloc] at h7
        omega
      obtain ⟨Ay, cy, rfl⟩ := own_slice ho
      obtain ⟨Al, cl, hl⟩ := own_slice hlo
      rw [hl] at hT hlo hne
      have HLO := Lib.hid hlo
      have HT := Lib.hid hT
      have HNE := Lib.hid hne
      clear hT hlo hl hne ho hB3
      go_wp2_with fail
      refine HT.out.mono ?_
      rintro e w5 ⟨rfl, hB5⟩
      obtain ⟨x0, x1⟩ := (HV3.out.kept hB5).cell
      have HO5 := Lib.hid (own_lower (own_below HLO.out hB5 (Nat.le_refl _)) (show w.heap.size ≤ _ by simp))
      have HB5 := Lib.hid (HB3.out.trans (hB5.mono HB3.out.size))
      clear hB5
      go_wp2_with fail
      refine bodyPost_ret (v := .tuple #[.agg #[.slice Al (limG pg).length cl], .int .i64 (limC pg)]) (by simp [results, Try.results23, go_sem, x0]) rfl ⟨_, rfl, ?_, HB5.out.setCell (by simp) _⟩
      exact World.ownsRow.kept HO5.out (only_setCell (World.grownBy.refl w5 (some w.heap.size)) (p := ⟨w.heap.size, 0, none⟩) (.inl rfl) _) (.inr HNE.out)

set_option maxRecDepth 100000 in
set_option maxHeartbeats 3200000 in
theorem implPlainGrammar (s : ByteArray) (w : World) (hs : s.size ≤ maxLen) :
    Calls Try.prog 24 #[.string s] w fun e w' => ∃ y, e = .returned (.tuple #[.agg #[y], .int .i64 (gramPlainGrammar s).2]) ∧ OwnsR w' w.heap.size y (gramPlainGrammar s).1 ∧ Below w.heap.size w w' := by
  have hb := (Below.refl _ w).alloc (Nat.le_refl _) (.cells #[.slice none 0 0] 26)
  have HB := Lib.hid hb
  have hvr := Var.new w (.slice none 0 0) 26
  have HVR := Lib.hid hvr
  have hx := hvr.cell
  have c1 := fun W => implOk s W hs
  unfold gramPlainGrammar
  cases h : okL s.data.toList
  · rw [if_neg (by simp)]
    rw [h] at c1
    have H1 := Lib.hid c1
    clear c1 h hb hvr
    obtain ⟨x0, x1⟩ := hx
    go_enter Try.func24, Try.ntmps24
    go_wp2_with fail
    refine (H1.out _).mono ?_
    rintro e w1 ⟨rfl, rfl⟩
    go_wp2_with fail
    refine bodyPost_ret (v := .tuple #[.agg #[.slice none 0 0], .int .i64 1]) (by simp [results, Try.results24, go_sem, x0]) rfl ⟨_, rfl, World.ownsRow_nil _ _ _ _, HB.out⟩
  · rw [if_pos rfl]
    rw [h] at c1
    have H1 := Lib.hid c1
    have hlen := okL_len h
    have hsz : s.size ≤ 2000 := by simpa using hlen
    have HPL := Lib.hid (fun W => plainRules_any s W h)
    have HFW := Lib.hid (plainG_few hlen)
    clear c1 h hb hvr hx hlen
    generalize plainG s.data.toList = pg at *
    go_enter Try.func24, Try.ntmps24
    go_wp2_with fail
    refine (H1.out _).mono ?_
    rintro e w1 ⟨rfl, rfl⟩
    go_wp2_with fail
    refine (HPL.out _).mono ?_
    rintro e w3 ⟨y, rfl, ho, hB3⟩
    have HV3 := Lib.hid (HVR.out.kept hB3)
    have HB3 := Lib.hid (HB.out.trans (hB3.mono HB.out.size))
    have hT := limited_any y pg w3 HFW.out (Rules.of_own ho)
    have hlo := lim_own ho
    have hne : (limV pg y).ownBlock ≠ some w.heap.size := by
      intro hq
      have h7 := (hlo.lt _ hq).1
      rw [World.size_alloc] at h7
      omega
    obtain ⟨Ay, cy, rfl⟩ := own_slice ho
    obtain ⟨Al, cl, hl⟩ := own_slice hlo
    rw [hl] at hT hlo hne
    have HLO := Lib.hid hlo
    have HT := Lib.hid hT
    have HNE := Lib.hid hne
    clear hT hlo hl hne ho hB3
    go_wp2_with fail
    refine HT.out.mono ?_
    rintro e w5 ⟨rfl, hB5⟩
    obtain ⟨x0, x1⟩ := (HV3.out.kept hB5).cell
    have HO5 := Lib.hid (own_lower (own_below HLO.out hB5 (Nat.le_refl _)) (show w.heap.size ≤ _ by simp))
    have HB5 := Lib.hid (HB3.out.trans (hB5.mono HB3.out.size))
    clear hB5
    go_wp2_with fail
    refine bodyPost_ret (v := .tuple #[.agg #[.slice Al (limG pg).length cl], .int .i64 (limC pg)]) (by simp [results, Try.results24, go_sem, x0]) rfl ⟨_, rfl, ?_, HB5.out.setCell (by simp) _⟩
    exact World.ownsRow.kept HO5.out (only_setCell (World.grownBy.refl w5 (some w.heap.size)) (p := ⟨w.heap.size, 0, none⟩) (.inl rfl) _) (.inr HNE.out)
end Go.Proofs.Ytlgpleeanmeenaa
namespace Go.Proofs.Ytlgpleeanmeenaa
open Go.RowKit
open Wd
set_option linter.unusedVariables false
theorem jpF_leR (P : Nat → List Rl → List Rl × Int) : ∀ (m k : Nat) (g : List Rl), g.length ≤ 1048576 → (jpF P m k g).1.length ≤ 1048576
  | 0, k, g, h => by unfold jpF; exact h
  | m + 1, k, g, h => by
    unfold jpF
    split
    · split
      · next hj =>
        refine jpF_leR P m (k + 1) _ ?_
        have h1 := trimG_le (joinG g (P k g).1)
        have h2 := (gOk_iff.1 hj).1
        omega
      · simp
    · simp
theorem gramRunsGrammar_len (s : ByteArray) : (gramRunsGrammar s).1.length ≤ 1048576 := by
  unfold gramRunsGrammar
  split
  · exact jpF_leR _ _ _ _ (by simp)
  · simp
theorem specRunsGrammar (s : ByteArray) (w : World) (hs : s.size ≤ maxLen) :
    Calls Try.prog 36 #[.string s] w fun e w' => ∃ y, e = .returned (.tuple #[.agg #[y], .int .i64 (gramRunsGrammar s).2]) ∧ OwnsR w' w.heap.size y (gramRunsGrammar s).1 ∧ Below w.heap.size w w' :=
  specRunsGrammar_by s w hs (fun s W h => l02Plain_any s W h)
theorem implRunsGrammar (s : ByteArray) (w : World) (hs : s.size ≤ maxLen) :
    Calls Try.prog 37 #[.string s] w fun e w' => ∃ y, e = .returned (.tuple #[.agg #[y], .int .i64 (gramRunsGrammar s).2]) ∧ OwnsR w' w.heap.size y (gramRunsGrammar s).1 ∧ Below w.heap.size w w' :=
  implRunsGrammar_by s w hs (fun s W h => implPlainGrammar s W h)
end Go.Proofs.Ytlgpleeanmeenaa
namespace Go.Proofs.Ytlgpleeanmeenaa
open Go.RowKit
open Wd
set_option linter.unusedVariables false

namespace Wd
/-- the digits of a number, in front of a text -/
def dig : Nat → Nat → ByteArray → ByteArray
  | 0, _, out => out
  | f + 1, k, out => if k = 0 then out else dig f (k / 10) (⟨#[UInt8.ofNat (48 + k % 10)]⟩ ++ out)
theorem dig_done (f : Nat) (out : ByteArray) : dig f 0 out = out := by cases f <;> simp [dig]
theorem dig_step {f k : Nat} (out : ByteArray) (h : 0 < k) (hf : k ≤ f + 1) : dig (f + 1) k out = dig f (k / 10) (⟨#[UInt8.ofNat (48 + k % 10)]⟩ ++ out) := by
  rw [dig, if_neg (by omega)]
/-- the text of a mark -/
def mkT (k : Nat) : ByteArray := if k = 0 then ⟨#[109, 48]⟩ else ⟨#[109]⟩ ++ dig k k ⟨#[]⟩
end Wd

set_option maxRecDepth 100000 in
set_option maxHeartbeats 800000 in
theorem markText_pos (n : Nat) (h0 : 0 < n) (h1 : n ≤ 4000000) (w : World) :
    Calls Try.prog 75 #[.int .i64 n] w fun e w' => e = .returned (.string (mkT n)) ∧ Below w.heap.size w w' := by
  have hmk : mkT n = ⟨#[109]⟩ ++ dig n n ⟨#[]⟩ := by rw [mkT, if_neg (by omega)]
  have HM := Lib.hid hmk
  have hp : (0 : Int) < (n : Int) := by omega
  clear hmk
  go_enter Try.func75, Try.ntmps75
  go_wp2
  go_loopw [3, 0] (fun x i wr => ∃ (k f : Nat) (out : ByteArray), i = .int .i64 k ∧ x = .string out ∧ k ≤ f ∧ k ≤ n ∧ out.size + k ≤ n ∧ dig f k out = dig n n ⟨#[]⟩ ∧ Below w.heap.size w wr)
    (fun _ i _ => (intOf i).toNat)
  case atStart => exact ⟨n, n, ⟨#[]⟩, rfl, rfl, Nat.le_refl _, Nat.le_refl _, by simp [ByteArray.size], rfl, Below.refl _ _⟩
  case round =>
    obtain ⟨k, f, out, rfl, rfl, hf, hkn, hsz, hd, hB⟩ := hrel
    by_cases hk : 0 < k
    · obtain ⟨f', rfl⟩ : ∃ f', f = f' + 1 := ⟨f - 1, by omega⟩
      rw [dig_step out hk hf] at hd
      have hlt : k / 10 < k := Nat.div_lt_self hk (by omega)
      have hmod : k % 10 < 10 := Nat.mod_lt _ (by omega)
      have hu : (UInt8.ofNat (48 + k % 10)).toNat = 48 + k % 10 := by simp; omega
      generalize hcc : UInt8.ofNat (48 + k % 10) = c at hd hu
      have hs2 := hB.size
      have hconv : (convert 69 9 (.slice (some ⟨wr.heap.size, 0, none⟩) 1 1)).run Try.prog (wr.alloc (.cells #[.int .u8 (48 + (k : Int) % 10)] 5)) = .ok (.string ⟨#[c]⟩) (wr.alloc (.cells #[.int .u8 (48 + (k : Int) % 10)] 5)) := run_convert_bytes_back (P := Try.prog) (wr.alloc (.cells #[.int .u8 (48 + (k : Int) % 10)] 5)) 69 9 5 ⟨wr.heap.size, 0, none⟩ 1 [c] Try.underlying69 Try.underlying5 Try.underlying9 (fun j hj => by
        match j, hj with
        | 0, _ => simp [Addr.add, hu])
      have hadd := run_string_add_sum (P := Try.prog) (wr.alloc (.cells #[.int .u8 (48 + (k : Int) % 10)] 5)) ⟨#[c]⟩ out (by have : (⟨#[c]⟩ : ByteArray).size = 1 := rfl; omega)
      have hso : (⟨#[c]⟩ ++ out : ByteArray).size = 1 + out.size := by rw [ByteArray.size_append]; rfl
      have HD := Lib.hid hd
      clear hd hcc hu
      have kp : (0 : Int) < (k : Int) := by omega
      go_wp2
      go_roundw
      case rel => exact ⟨k / 10, f', _, by go_num, rfl, by omega, by omega, by rw [hso]; omega, HD.out, hB.alloc hs2 _⟩
      case measure => simp [intOf]; omega
    · have hk0 : k = 0 := by omega
      subst hk0
      rw [dig_done] at hd
      subst hd
      have hadd := run_string_add_sum (P := Try.prog) wr ⟨#[109]⟩ (dig n n ⟨#[]⟩) (by have : (⟨#[109]⟩ : ByteArray).size = 1 := rfl; omega)
      rw [← HM.out] at hadd
      go_wp2
      go_ret
      exact ⟨rfl, hB⟩

theorem markText (n : Nat) (h1 : n ≤ 4000000) (w : World) :
    Calls Try.prog 75 #[.int .i64 n] w fun e w' => e = .returned (.string (mkT n)) ∧ Below w.heap.size w w' := by
  by_cases h0 : 0 < n
  · exact markText_pos n h0 h1 w
  · have : n = 0 := by omega
    subst this
    go_enter Try.func75, Try.ntmps75
    go_wp2
    go_ret
    exact ⟨rfl, Below.refl _ _⟩
end Go.Proofs.Ytlgpleeanmeenaa
namespace Go.Proofs.Ytlgpleeanmeenaa
open Go.RowKit
open Wd
set_option linter.unusedVariables false

namespace Wd
/-- the marks' rules -/
def mkR (k n : Nat) : List Rl := (List.range n).map fun j => ⟨mkT (k + 3 * j), ((k + 3 * j + 1 : Nat) : Int), ((k + 3 * j + 2 : Nat) : Int)⟩
theorem mkR_len (k n : Nat) : (mkR k n).length = n := by simp [mkR]
theorem mkR_set (k : Nat) (gs : List Rl) (j : Nat) (h : j < gs.length) :
    (mkR k j ++ gs.drop j).set j ⟨mkT (k + 3 * j), ((k + 3 * j + 1 : Nat) : Int), ((k + 3 * j + 2 : Nat) : Int)⟩ = mkR k (j + 1) ++ gs.drop (j + 1) := by
  have e2 : (mkR k j).length = j := mkR_len k j
  rw [List.set_append_right _ _ (by omega), e2, Nat.sub_self, List.drop_eq_getElem_cons h, List.set_cons_zero]
  simp [mkR, List.range_succ]
theorem mkR_all (k : Nat) (gs : List Rl) : mkR k gs.length ++ gs.drop gs.length = mkR k gs.length := by simp
end Wd
theorem rGrownBelow {w w' : World} (h : Below w.heap.size w w') (row : Option Nat) : w.grownBy w' row := ⟨h.os, h.tape, h.output, h.size, fun i hi _ => h.block i hi⟩
theorem rGrownTrans {a b c : World} {row : Option Nat} (h : a.grownBy b row) (h' : b.grownBy c row) : a.grownBy c row :=
  ⟨h'.os.trans h.os, h'.tape.trans h.tape, h'.output.trans h.output, Nat.le_trans h.size h'.size, fun i hi hne => (h'.block i (Nat.lt_of_lt_of_le hi h.size) hne).trans (h.block i hi hne)⟩
theorem own_cells3 {w : World} {B e g c : Nat} {gs : List Rl} (h : w.ownsRow B e 3 (.slice (some ⟨g, 0, none⟩) gs.length c) gs.length (rv gs)) (k : Nat) (hk : k < gs.length) :
    (w.cell? ⟨g, k * 3, none⟩ = some (.string gs[k].L) ∧ w.cell? ⟨g, k * 3 + 1, none⟩ = some (.int .i64 gs[k].l) ∧ w.cell? ⟨g, k * 3 + 2, none⟩ = some (.int .i64 gs[k].r)) ∧
    w.frozen? ⟨g, k * 3, none⟩ = false ∧ w.frozen? ⟨g, k * 3 + 1, none⟩ = false ∧ w.frozen? ⟨g, k * 3 + 2, none⟩ = false := by
  refine ⟨⟨?_, ?_, ?_⟩, h.frozenAt _, h.frozenAt _, h.frozenAt _⟩
  · rw [h.cellAt (k * 3) (by omega)]; exact rv_get gs k hk 0 (by omega)
  · rw [h.cellAt (k * 3 + 1) (by omega)]; exact rv_get gs k hk 1 (by omega)
  · rw [h.cellAt (k * 3 + 2) (by omega)]; exact rv_get gs k hk 2 (by omega)

theorem markR_zero (a : Option Addr) (c : Nat) (k : Int) (w : World) :
    Calls Try.prog 76 #[.slice a 0 c, .int .i64 k] w fun e w' => e = .returned (.int .i64 k) ∧ w = w' := by
  go_enter Try.func76, Try.ntmps76
  go_wp2
  refine wp_loop_rounds 1 ?_
  rw [rounds_succ]
  go_wp2
  go_ret
  exact ⟨rfl, rfl⟩

set_option maxRecDepth 100000 in
set_option maxHeartbeats 1600000 in
theorem markR_some (g c n B : Nat) (gs : List Rl) (hng : gs.length = n) (hn : n ≤ 1048576) (k : Nat) (hk1 : k + 3 * n ≤ 3900000) (w : World) (h : w.ownsRow B 146 3 (.slice (some ⟨g, 0, none⟩) n c) n (rv gs)) :
    Calls Try.prog 76 #[.slice (some ⟨g, 0, none⟩) n c, .int .i64 k] w fun e w' => e = .returned (.int .i64 ((k : Int) + 3 * n)) ∧
      w'.ownsRow B 146 3 (.slice (some ⟨g, 0, none⟩) n c) n (rv (mkR k n)) ∧ w.grownBy w' (some g) := by
  have HN := Lib.hid hng
  clear hng
  go_enter Try.func76, Try.ntmps76
  go_wp2
  go_loopw [1, 5] (fun q i wr => ∃ j : Nat, j ≤ n ∧ i = .int .i64 j ∧ q = .int .i64 ((k + 3 * j : Nat) : Int) ∧ wr.ownsRow B 146 3 (.slice (some ⟨g, 0, none⟩) n c) n (rv (mkR k j ++ gs.drop j)) ∧ w.grownBy wr (some g))
    (fun _ i _ => n - (intOf i).toNat)
  case atStart => exact ⟨0, Nat.zero_le _, rfl, rfl, by simpa [mkR] using h, World.grownBy.refl _ _⟩
  case round =>
    obtain ⟨j, hj, rfl, rfl, hown, hgr⟩ := hrel
    by_cases hlt : j < n
    · have hjz : j < gs.length := by rw [HN.out]; exact hlt
      have hl : (mkR k j ++ gs.drop j).length = n := by rw [List.length_append, mkR_len, List.length_drop, HN.out]; omega
      have HM := Lib.hid (markText (k + 3 * j) (by omega) wr)
      have HST := Lib.hid (mkR_set k gs j hjz)
      generalize hq : k + 3 * j = q at HM HST ⊢
      have HQ := Lib.hid hq
      have hq1 : q ≤ 3900000 := by omega
      have HO := Lib.hid hown
      have HGR := Lib.hid hgr
      clear hq hown hgr
      go_wp2_with fail
      refine HM.out.mono ?_
      rintro e w1 ⟨rfl, hb1⟩
      have hown1 := own_below HO.out hb1 (Nat.le_refl _)
      obtain ⟨⟨c0, c1, c2⟩, f0, f1, f2⟩ := own_cells3 (by rw [hl]; exact hown1) j (by rw [hl]; exact hlt)
      have hst := own_set3 hown1 j (by rw [hl]; exact hlt) ⟨mkT q, ((q + 1 : Nat) : Int), ((q + 2 : Nat) : Int)⟩
      rw [HST.out] at hst
      have hg2 := rGrownTrans HGR.out (rGrownTrans (rGrownBelow hb1 (some g)) (only_setCell (only_setCell (only_setCell (World.grownBy.refl w1 (some g)) (p := ⟨g, j * 3, none⟩) (.inl rfl) (.string (mkT q))) (p := ⟨g, j * 3 + 1, none⟩) (.inl rfl) (.int .i64 ((q + 1 : Nat) : Int))) (p := ⟨g, j * 3 + 2, none⟩) (.inl rfl) (.int .i64 ((q + 2 : Nat) : Int))))
      generalize (mkR k j ++ gs.drop j)[j] = z at c0 c1 c2
      obtain ⟨zL, zl, zr⟩ := z
      simp only at c0 c1 c2
      simp only at hst
      generalize mkT q = t at *
      have HS2 := Lib.hid hst
      have HG2 := Lib.hid hg2
      clear hst hg2 hown1 hb1 HM HST hl hjz
      go_wp2
      go_roundw
      case rel => exact ⟨j + 1, by omega, by go_num, by have := HQ.out; go_num, HS2.out, HG2.out⟩
      case measure => simp [intOf]; omega
    · have hjn : j = n := by omega
      have hown' : wr.ownsRow B 146 3 (.slice (some ⟨g, 0, none⟩) n c) n (rv (mkR k n)) := by
        rw [hjn, ← HN.out, mkR_all, HN.out] at hown; exact hown
      have HJ := Lib.hid hjn
      clear hjn hown
      go_wp2
      go_ret
      exact ⟨ret_int (by have := HJ.out; omega), hown', hgr⟩

theorem markGrammar_any (v : Value) (gs : List Rl) (B : Nat) (k : Nat) (hk1 : k + 3 * gs.length ≤ 3900000) (w : World) (h : OwnsR w B v gs) (hn : gs.length ≤ 1048576) :
    Calls Try.prog 21 #[.agg #[v], .int .i64 k] w fun e w' => e = .returned (.int .i64 ((k : Int) + 3 * gs.length)) ∧ OwnsR w' B v (mkR k gs.length) ∧ w.grownBy w' v.ownBlock := by
  have hb := (Below.refl _ w).alloc (Nat.le_refl _) (.cells #[v] 26)
  have h1 := own_below h hb (Nat.le_refl _)
  rcases h.2 with ⟨rfl, h0⟩ | ⟨g, c, cur, rfl, _⟩
  · have HB := Lib.hid hb
    have hgs : gs = [] := List.eq_nil_of_length_eq_zero h0
    subst hgs
    have HZ := Lib.hid (fun W => markR_zero none 0 k W)
    clear h h1 h0 hb
    go_enter Try.func21, Try.ntmps21
    go_wp2_with fail
    refine (HZ.out _).mono ?_
    rintro e w1 ⟨rfl, rfl⟩
    go_wp2_with fail
    go_ret
    exact ⟨by simp, World.ownsRow_nil _ _ _ _, rGrownBelow HB.out _⟩
  · have HB := Lib.hid hb
    have HM := Lib.hid (markR_some g c gs.length B gs rfl hn k hk1 _ h1)
    clear h h1 hb
    go_enter Try.func21, Try.ntmps21
    go_wp2_with fail
    refine HM.out.mono ?_
    rintro e w1 ⟨rfl, h2, h3⟩
    have H2 := Lib.hid h2
    have H3 := Lib.hid h3
    clear h2 h3
    go_wp2_with fail
    go_ret
    exact ⟨rfl, by unfold OwnsR; rw [mkR_len]; exact H2.out, rGrownTrans (rGrownBelow HB.out _) H3.out⟩
end Go.Proofs.Ytlgpleeanmeenaa
namespace Go.Proofs.Ytlgpleeanmeenaa
open Go.RowKit
open Wd
set_option linter.unusedVariables false

theorem heldR_zero (a : Option Addr) (c : Nat) (k : Int) (w : World) :
    Calls Try.prog 77 #[.slice a 0 c, .int .i64 k] w fun e w' => e = .returned (.int .i64 k) ∧ w = w' := by
  go_enter Try.func77, Try.ntmps77
  go_wp2
  refine wp_loop_rounds 1 ?_
  rw [rounds_succ]
  go_wp2
  go_ret
  exact ⟨rfl, rfl⟩

theorem mkR_at (k n j : Nat) (h : j < n) : (mkR k n)[j]? = some ⟨mkT (k + 3 * j), ((k + 3 * j + 1 : Nat) : Int), ((k + 3 * j + 2 : Nat) : Int)⟩ := by
  simp [mkR, h]

set_option maxRecDepth 100000 in
set_option maxHeartbeats 1600000 in
theorem heldR_some (g c n : Nat) (hn : n ≤ 1048576) (k : Nat) (hk1 : k ≤ 100000) (w : World) (hg : g < w.heap.size) (h : ∀ j u, (rv (mkR k n))[j]? = some u → w.cell? ⟨g, j, none⟩ = some u) :
    Calls Try.prog 77 #[.slice (some ⟨g, 0, none⟩) n c, .int .i64 k] w fun e w' => e = .returned (.int .i64 ((k : Int) + 3 * n)) ∧ Below w.heap.size w w' := by
  have H := Lib.hid h
  clear h
  go_enter Try.func77, Try.ntmps77
  go_wp2
  go_loopw [1, 5] (fun q i wr => ∃ j : Nat, j ≤ n ∧ i = .int .i64 j ∧ q = .int .i64 ((k + 3 * j : Nat) : Int) ∧ Below w.heap.size w wr) (fun _ i _ => n - (intOf i).toNat)
  case atStart => exact ⟨0, Nat.zero_le _, rfl, rfl, Below.refl _ _⟩
  case round =>
    obtain ⟨j, hj, rfl, rfl, hB⟩ := hrel
    by_cases hlt : j < n
    · have hjl : j < (mkR k n).length := by rw [mkR_len]; exact hlt
      obtain ⟨c0, c1, c2⟩ := rules_cells H.out hjl
      have hm : (mkR k n)[j] = ⟨mkT (k + 3 * j), ((k + 3 * j + 1 : Nat) : Int), ((k + 3 * j + 2 : Nat) : Int)⟩ := by
        have := mkR_at k n j hlt
        rw [List.getElem?_eq_getElem hjl] at this
        simpa using this
      rw [hm] at c0 c1 c2
      have HM := Lib.hid (fun W => markText (k + 3 * j) (by omega) W)
      generalize hq : k + 3 * j = q at HM c0 c1 c2 ⊢
      have HQ := Lib.hid hq
      have hq1 : q ≤ 3500000 := by omega
      simp only at c0 c1 c2
      generalize mkT q = t at *
      have hc := (hB.cell (p := ⟨g, j * 3, none⟩) hg).trans c0
      have hc1 := (hB.cell (p := ⟨g, j * 3 + 1, none⟩) hg).trans c1
      have hc2 := (hB.cell (p := ⟨g, j * 3 + 2, none⟩) hg).trans c2
      have gl : g < wr.heap.size := Nat.lt_of_lt_of_le hg hB.size
      have HB := Lib.hid hB
      have HC1 := Lib.hid hc1
      have HC2 := Lib.hid hc2
      clear hq hjl hm c0 c1 c2 hB hc1 hc2
      have j0 : (0 : Int) ≤ (j : Int) := by omega
      have j1 : (j : Int) < (n : Int) := by omega
      go_wp2
      go_region_held3 (fun w' => w'.cell? ⟨g, j * 3, none⟩ = some (.string t)) (first | assumption | go_keep) ((first | (go_at_call 75; refine (HM.out _).mono ?_; rintro e w2 ⟨rfl, hb2⟩; have hq2 := (hb2.cell (p := ⟨g, j * 3, none⟩) (by simpa using gl)).trans hc; have HB2 := Lib.hid hb2; clear hb2)))
      have hd1 := (HB2.out.cell (p := ⟨g, j * 3 + 1, none⟩) (by simpa using gl)).trans HC1.out
      have hd2 := (HB2.out.cell (p := ⟨g, j * 3 + 2, none⟩) (by simpa using gl)).trans HC2.out
      have hb3 : Below w.heap.size w w2 := (HB.out.drew).trans (HB2.out.mono (show w.heap.size ≤ wr.drew.heap.size from HB.out.size))
      clear hc hq2
      go_wp2
      go_roundw
      case rel => exact ⟨j + 1, by omega, by go_num, by have := HQ.out; go_num, hb3⟩
      case measure => simp [intOf]; omega
    · have hjn : j = n := by omega
      have HJ := Lib.hid hjn
      clear hjn
      go_wp2
      go_ret
      exact ⟨ret_int (by have := HJ.out; omega), hB⟩

theorem heldGrammar_any (v : Value) (n B : Nat) (k : Nat) (hk1 : k ≤ 100000) (w : World) (h : OwnsR w B v (mkR k n)) (hn : n ≤ 1048576) :
    Calls Try.prog 22 #[.agg #[v], .int .i64 k] w fun e w' => e = .returned (.int .i64 ((k : Int) + 3 * n)) ∧ Below w.heap.size w w' := by
  have hb := (Below.refl _ w).alloc (Nat.le_refl _) (.cells #[v] 26)
  have h1 := own_below h hb (Nat.le_refl _)
  unfold OwnsR at h1
  rw [mkR_len] at h1
  have hk0 : ¬ ((k : Int) + 3 * n) < 0 := by omega
  rcases h1.2 with ⟨rfl, h0⟩ | ⟨g, c, cur, rfl, _, hh, _⟩
  · have HB := Lib.hid hb
    subst h0
    have HZ := Lib.hid (fun W => heldR_zero none 0 k W)
    clear h h1 hb
    go_enter Try.func22, Try.ntmps22
    go_wp2_with fail
    refine (HZ.out _).mono ?_
    rintro e w1 ⟨rfl, rfl⟩
    go_wp2_with fail
    go_ret
    exact ⟨by simp, HB.out⟩
  · have HB := Lib.hid hb
    have hg := (Array.getElem?_eq_some_iff.1 hh).1
    have HM := Lib.hid (heldR_some g c n hn k hk1 _ hg (fun j u hu => by have := h1.cells (g := g) rfl j u hu; unfold Addr.add at this; split at this <;> simp_all))
    clear h h1 hb hh hg
    go_enter Try.func22, Try.ntmps22
    go_wp2_with fail
    refine HM.out.mono ?_
    rintro e w1 ⟨rfl, hB1⟩
    have HB1 := Lib.hid (HB.out.trans (hB1.mono (by simp)))
    clear hB1
    go_wp2_with fail
    go_ret
    exact ⟨rfl, HB1.out⟩
end Go.Proofs.Ytlgpleeanmeenaa
