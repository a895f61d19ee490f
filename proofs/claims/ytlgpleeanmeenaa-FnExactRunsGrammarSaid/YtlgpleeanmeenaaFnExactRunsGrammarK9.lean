/-
  RsG, RsI, RgI, RsS, GJoinL, RgS, in one text.
-/
import Derived.Test.YtlgpleeanmeenaaFnExactRunsGrammarK7
import Derived.OwnWalk
import Derived.Deep.QuietTactic
import Derived.BigQuiet
import Derived.Test.YtlgpleeanmeenaaOk
import Derived.Test.YtlgpleeanmeenaaFnExactRunsGrammarK4
import Derived.Deep.Cut
import Derived.Test.YtlgpleeanmeenaaFnExactRunsGrammarK8
import Derived.Test.YtlgpleeanmeenaaFnExactRunsGrammarK3
import Derived.Deep.RegionHeld3
import Derived.Deep.RegionLaw
import Derived.Deep.AppendLies
namespace Go.Proofs.Ytlgpleeanmeenaa
open Go.RowKit
open Wd
set_option linter.unusedVariables false
theorem Try.info_bytes : (Try.prog.info? 69).map (fun i => (i.zero, i.size, i.bytes)) = some (some (.slice none 0 0), 1, 24) := by kernel_rfl
/-- a part of the bytes, as a slice -/
def gpV (B c : Nat) (p : Nat × Nat) : Value := .slice (some ⟨B, p.1, none⟩) (p.2 - p.1) (c - p.1)
theorem one_gp (B c : Nat) (p : Nat × Nat) : ∀ u ∈ [gpV B c p], u.oneCell' = true := by intro u hu; simp at hu; subst hu; rfl
/-- all parts are there -/
def GFin (l : List UInt8) (G : List (Nat × Nat)) : Prop := rsK l l.length = G.map (runP l) ∧ (∀ p ∈ G, p.1 < p.2 ∧ p.2 ≤ l.length) ∧ G.length ≤ l.length
/-- between two places -/
def GpRel (l : List UInt8) (w : World) (B c : Nat) (v si ei : Value) (wr : World) : Prop :=
  ∃ (e s : Nat) (G : List (Nat × Nat)), ei = .int .i64 e ∧ si = .int .i64 s ∧ 1 ≤ e ∧ e ≤ l.length + 1 ∧ (GInv l e s G ∨ (e = l.length + 1 ∧ GFin l G)) ∧ wr.ownsRow w.heap.size 69 1 v G.length (G.map (gpV B c)) ∧ Below w.heap.size w wr
set_option maxRecDepth 100000 in
set_option maxHeartbeats 6400000 in
theorem groupsOf_any (l : List UInt8) (B c : Nat) (w : World) (hl : l.length ≤ 2000) (hc : l.length ≤ c) (hcm : c ≤ maxLen) (hB : B < w.heap.size) (hcell : ∀ j (hj : j < l.length), w.cell? ⟨B, j, none⟩ = some (.int .u8 l[j].toNat)) :
    Calls Try.prog 86 #[.slice (some ⟨B, 0, none⟩) l.length c] w fun e w' => ∃ (y : Value) (G : List (Nat × Nat)), e = .returned y ∧ w'.ownsRow w.heap.size 69 1 y G.length (G.map (gpV B c)) ∧ GFin l G ∧ Below w.heap.size w w' := by
  obtain ⟨i0, hi, hz0, hz1, hz2⟩ := info_parts Try.info_bytes
  unfold maxLen at hcm
  have HC := Lib.hid hcell
  obtain ⟨n, hn⟩ : ∃ n, n = l.length := ⟨_, rfl⟩
  rw [← hn] at hl hc ⊢
  have HN := Lib.hid hn
  have HST : Hid (GpRel l w B c (.slice (some ⟨w.heap.size, 0, none⟩) 0 0) (.int .i64 0) (.int .i64 1) (w.alloc (.cells #[] 69))) := Lib.hid (by
    refine ⟨1, 0, [], rfl, rfl, by omega, by omega, ?_, World.ownsRow_lit w #[] 0 (Nat.le_refl _) (by decide) rfl, (Below.refl _ _).alloc (Nat.le_refl _) _⟩
    rcases Nat.eq_zero_or_pos l.length with h | h
    · refine .inr ⟨by omega, ?_, by simp, by simp⟩
      rw [h]; rfl
    · exact .inl (GInv.start h))
  clear hcell hn
  go_enter Try.func86, Try.ntmps86
  go_wp2
  go_loopw [3, 4, 5] (fun v si ei wr => GpRel l w B c v si ei wr) (fun _ _ ei _ => n + 1 - (intOf ei).toNat)
  case atStart => exact HST.out
  case round =>
    obtain ⟨e, s, G, rfl, rfl, h1, h2, hinv, hown, hB1⟩ := hrel
    obtain ⟨wo, rfl⟩ : ∃ wo : World, wo = wr := ⟨_, rfl⟩
    rw [← HN.out] at h2
    by_cases hle : e ≤ n
    · have hg : GInv l e s G := by
        rcases hinv with h | ⟨h, _⟩
        · exact h
        · have := HN.out; omega
      have hsl : s < e := hg.1
      have hGl : G.length ≤ s := hg.2.2.2.2.2
      have hsz := hB1.size
      clear hinv
      by_cases hen : e = n
      · have HFN : Hid (GFin l (G ++ [(s, e)])) := Lib.hid (by
          have h9 : GInv l l.length s G := by rw [← HN.out, ← hen]; exact hg
          rw [hen, HN.out]
          exact h9.last)
        have HEN := Lib.hid hen
        have hne1 : ((e : Int) == (n : Int)) = true := by simp; omega
        have hne2 : (e == n) = true := by simpa using hen
        clear hg hen
        go_wp2_with fail
        go_quiet (fail)
        have hown5 : (wo.drewN nq).ownsRow w.heap.size 69 1 _ G.length (G.map (gpV B c)) := hown
        have hB5 := below_drewN hB1 nq
        clear hown hB1 hne1 hne2
        generalize wo.drewN nq = w5 at *
        have HNW := Lib.hid (one_new w5 (gpV B c (s, e)) 69)
        have hb5 := hB5.size
        have HO5 := Lib.hid hown5
        have HB5 := Lib.hid hB5
        obtain ⟨A5, c5, rfl⟩ := own_slice hown5
        have hs0 : (0 : Int) ≤ (s : Int) := by omega
        have hs1 : (s : Int) ≤ (e : Int) := by omega
        have hs2 : (e : Int) ≤ (n : Int) := by omega
        have hs3 : (n : Int) ≤ (c : Int) := by omega
        obtain ⟨q, hq⟩ : ∃ q, q = G.length := ⟨_, rfl⟩
        rw [← hq] at HO5 ⊢
        have HQ := Lib.hid hq
        have hqs : q ≤ 2000 := by omega
        clear hown5 hB5 hq hGl
        go_wp2_with (first | (at_builtin; refine wpList_append_own _ rfl _ _ 110 rfl w.heap.size 69 i0 (.slice none 0 0) 1 24 Try.underlying110 hi hz0 hz1 hz2 rfl (by decide) _ _ _ rfl (World.ownsRow.alloc HO5.out _) ⟨w5.heap.size, 0, none⟩ 1 1 [gpV B c (s, e)] rfl rfl HNW.out (one_gp B c (s, e)) (by unfold maxLen; omega) (by omega) (by simp; omega) ?_))
        intro v8 w8 hown8 hgrow _
        have HB8 : Hid (Below w.heap.size w w8) := Lib.hid ((HB5.out.alloc hb5 _).grown hgrow (by simp; omega) (fun q hq => (HO5.out.lt q hq).1))
        have HO8 : Hid (w8.ownsRow w.heap.size 69 1 v8 (G ++ [(s, e)]).length ((G ++ [(s, e)]).map (gpV B c))) := Lib.hid (by
          rw [List.map_append, List.length_append, ← HQ.out]
          exact hown8)
        have HNX : Hid (GpRel l w B c v8 (.int .i64 e) (.int .i64 ((e + 1 : Nat) : Int)) w8) := Lib.hid ⟨e + 1, e, G ++ [(s, e)], rfl, rfl, by omega, by have := HN.out; omega, .inr ⟨by rw [HEN.out, HN.out], HFN.out⟩, HO8.out, HB8.out⟩
        clear hown8 hgrow
        go_wp2_with fail
        go_roundw
        all_goals first | exact HNX.out | ((repeat apply Exists.intro); exact ⟨HNX.out, rfl⟩) | (have := HNX.out; simpa using this) | (simp [intOf]; done) | (simp [intOf]; omega) | omega
      · have hel : e < l.length := by have := HN.out; omega
        have hsl2 : s < l.length := by omega
        have a0 := (hB1.cell (p := ⟨B, e, none⟩) hB).trans (HC.out e hel)
        have b0 := (hB1.cell (p := ⟨B, s, none⟩) hB).trans (HC.out s hsl2)
        have hge : l.getD e 0 = l[e] := by rw [List.getD_eq_getElem?_getD, List.getElem?_eq_getElem hel, Option.getD_some]
        have hgs : l.getD s 0 = l[s] := by rw [List.getD_eq_getElem?_getD, List.getElem?_eq_getElem hsl2, Option.getD_some]
        have hne1 : ((e : Int) == (n : Int)) = false := by simp; omega
        have hne2 : (e == n) = false := by simpa using hen
        have he0 : (0 : Int) ≤ (e : Int) := by omega
        have he1 : (e : Int) < (n : Int) := by omega
        have hs00 : (0 : Int) ≤ (s : Int) := by omega
        have hs11 : (s : Int) < (n : Int) := by omega
        by_cases heq : l[e] = l[s]
        · have HGI := Lib.hid (hg.same hel (by rw [hge, hgs]; exact heq))
          have heq' : ((l[e].toNat : Int) != (l[s].toNat : Int)) = false := by rw [heq]; simp
          generalize l[e] = x at *
          generalize l[s] = y at *
          obtain ⟨A5, c5, rfl⟩ := own_slice hown
          have HO := Lib.hid hown
          have HB1 := Lib.hid hB1
          clear hg hge hgs heq hen hown hB1
          go_wp2_with fail
          go_quiet (fail)
          have HNX : Hid (GpRel l w B c (.slice A5 G.length c5) (.int .i64 s) (.int .i64 ((e + 1 : Nat) : Int)) (wo.drewN nq)) := Lib.hid ⟨e + 1, s, G, rfl, rfl, by omega, by have := HN.out; omega, .inl HGI.out, HO.out, below_drewN HB1.out nq⟩
          go_wp2_with fail
          go_roundw
          all_goals first | exact HNX.out | ((repeat apply Exists.intro); exact ⟨HNX.out, rfl⟩) | (have := HNX.out; simpa using this) | (simp [intOf]; done) | (simp [intOf]; omega) | omega
        · have HGI := Lib.hid (hg.cut hel (by rw [hge, hgs]; exact heq))
          have heq' : ((l[e].toNat : Int) != (l[s].toNat : Int)) = true := by
            rw [bne_iff_ne]
            intro h
            exact heq (UInt8.toNat_inj.1 (by omega))
          generalize l[e] = x at *
          generalize l[s] = y at *
          clear hg hge hgs heq hen
          go_wp2_with fail
          go_quiet (fail)
          have hown5 : (wo.drewN nq).ownsRow w.heap.size 69 1 _ G.length (G.map (gpV B c)) := hown
          have hB5 := below_drewN hB1 nq
          clear hown hB1 hne1 hne2 a0 b0 heq' he0 he1 hs00 hs11
          generalize wo.drewN nq = w5 at *
          have HNW := Lib.hid (one_new w5 (gpV B c (s, e)) 69)
          have hb5 := hB5.size
          have HO5 := Lib.hid hown5
          have HB5 := Lib.hid hB5
          obtain ⟨A5, c5, rfl⟩ := own_slice hown5
          have hs0 : (0 : Int) ≤ (s : Int) := by omega
          have hs1 : (s : Int) ≤ (e : Int) := by omega
          have hs2 : (e : Int) ≤ (n : Int) := by omega
          have hs3 : (n : Int) ≤ (c : Int) := by omega
          obtain ⟨q, hq⟩ : ∃ q, q = G.length := ⟨_, rfl⟩
          rw [← hq] at HO5 ⊢
          have HQ := Lib.hid hq
          have hqs : q ≤ 2000 := by omega
          clear hown5 hB5 hq hGl
          go_wp2_with (first | (at_builtin; refine wpList_append_own _ rfl _ _ 110 rfl w.heap.size 69 i0 (.slice none 0 0) 1 24 Try.underlying110 hi hz0 hz1 hz2 rfl (by decide) _ _ _ rfl (World.ownsRow.alloc HO5.out _) ⟨w5.heap.size, 0, none⟩ 1 1 [gpV B c (s, e)] rfl rfl HNW.out (one_gp B c (s, e)) (by unfold maxLen; omega) (by omega) (by simp; omega) ?_))
          intro v8 w8 hown8 hgrow _
          have HB8 : Hid (Below w.heap.size w w8) := Lib.hid ((HB5.out.alloc hb5 _).grown hgrow (by simp; omega) (fun q hq => (HO5.out.lt q hq).1))
          have HO8 : Hid (w8.ownsRow w.heap.size 69 1 v8 (G ++ [(s, e)]).length ((G ++ [(s, e)]).map (gpV B c))) := Lib.hid (by
            rw [List.map_append, List.length_append, ← HQ.out]
            exact hown8)
          have HNX : Hid (GpRel l w B c v8 (.int .i64 e) (.int .i64 ((e + 1 : Nat) : Int)) w8) := Lib.hid ⟨e + 1, e, G ++ [(s, e)], rfl, rfl, by omega, by have := HN.out; omega, .inl HGI.out, HO8.out, HB8.out⟩
          clear hown8 hgrow
          go_wp2_with fail
          go_roundw
          all_goals first | exact HNX.out | ((repeat apply Exists.intro); exact ⟨HNX.out, rfl⟩) | (have := HNX.out; simpa using this) | (simp [intOf]; done) | (simp [intOf]; omega) | omega
    · have hfin : GFin l G := by
        rcases hinv with h | ⟨_, h⟩
        · have := h.2.1; have := HN.out; omega
        · exact h
      obtain ⟨A5, c5, rfl⟩ := own_slice hown
      have HO := Lib.hid hown
      have HB1 := Lib.hid hB1
      have HFN := Lib.hid hfin
      clear hinv hown hB1 hfin
      go_wp2_with fail
      go_ret
      exact ⟨_, G, rfl, HO.out, HFN.out, HB1.out⟩
end Go.Proofs.Ytlgpleeanmeenaa
namespace Go.Proofs.Ytlgpleeanmeenaa
open Go.RowKit
open Wd
set_option linter.unusedVariables false
theorem own_blk_ne {w : World} {B e s n K : Nat} {v : Value} {xs : List Value} {cs : Array Value} {t : TypeId} {fr : Nat × Nat} (h : w.ownsRow B e s v n xs) (hb : w.heap[K]? = some (.cells cs t fr)) (hne : e ≠ t) : some K ≠ v.ownBlock := by
  rcases h.2 with ⟨rfl, _⟩ | ⟨g1, cap, cur, rfl, _, hg, _⟩
  · simp [Value.ownBlock]
  · intro e'
    have : K = g1 := by simpa [Value.ownBlock] using e'
    subst this
    rw [hg] at hb
    injection hb with h1
    injection h1 with _ h2
    exact hne h2
/-- between two groups -/
def RsRel (l : List UInt8) (G : List (Nat × Nat)) (w : World) (Lo B cap : Nat) (bs : Array Value) (fr : Nat × Nat) (gy v i : Value) (wr : World) : Prop :=
  ∃ k : Nat, k ≤ G.length ∧ i = .int .i64 k ∧ OwnsU wr w.heap.size v ((G.take k).map (runP l)) ∧ wr.ownsRow Lo 69 1 gy G.length (G.map (gpV B cap)) ∧ wr.heap[B]? = some (.cells bs 5 fr) ∧ Below w.heap.size w wr
set_option maxRecDepth 100000 in
set_option maxHeartbeats 6400000 in
theorem implRunsOf (s : ByteArray) (w : World) (hs : s.size ≤ maxLen) :
    Calls Try.prog 28 #[.string s] w fun e w' => ∃ y, e = .returned (.tuple #[y, .int .i64 (rsA s).2]) ∧ OwnsU w' w.heap.size y (rsA s).1 ∧ Below w.heap.size w w' := by
  have HOK := Lib.hid (implOk s w hs)
  unfold rsA
  cases hok : okL s.data.toList
  · rw [hok] at HOK
    rw [if_neg (by decide)]
    clear hok
    go_enter Try.func28, Try.ntmps28
    go_wp2_with fail
    refine HOK.out.mono ?_
    rintro e w1 ⟨rfl, rfl⟩
    go_wp2_with fail
    go_ret2
    exact ⟨_, rfl, World.ownsRow_nil _ _ _ _, Below.refl _ _⟩
  · have hs2 : s.size ≤ 2000 := by
      rcases Nat.lt_or_ge 2000 s.size with h | h
      · rw [okL_long (by simpa using h)] at hok; cases hok
      · exact h
    rw [hok] at HOK
    rw [if_pos rfl]
    obtain ⟨i0, hi, hz0, hz1, hz2⟩ := info_parts Try.info_run
    have hll : s.data.toList.length = s.size := by simp
    obtain ⟨l, hl⟩ : ∃ l, l = s.data.toList := ⟨_, rfl⟩
    have hB1 := (Below.refl _ w).alloc (Nat.le_refl _) (.cells #[] 73)
    have hO1 : OwnsU (w.alloc (.cells #[] 73)) w.heap.size (.slice (some ⟨w.heap.size, 0, none⟩) 0 0) [] := World.ownsRow_lit w #[] 0 (Nat.le_refl _) (by decide) rfl
    have hconv := run_bytes_of_string (P := Try.prog) (w.alloc (.cells #[] 73)) 9 69 5 s Try.underlying9 Try.underlying69 Try.underlying5
    have hcg := grownCap_ge (w.alloc (.cells #[] 73)) s.size 0 5
    have hcm := grownCap_le_maxLen (w.alloc (.cells #[] 73)) s.size 0 5 hs
    generalize grownCap (w.alloc (.cells #[] 73)) s.size 0 5 = cap at hconv hcg hcm
    obtain ⟨bs, hbs⟩ : ∃ bs, bs = bytesRow s cap := ⟨_, rfl⟩
    have hbat : ∀ j (hj : j < l.length), bs[j]? = some (.int .u8 l[j].toNat) := fun j hj => by
      subst hl
      rw [hbs]
      have := bytesRow_at s cap j (by simpa using hj)
      simpa using this
    rw [← hbs] at hconv
    have hb2 := hB1.drew.alloc hB1.size (.cells bs 5 (bs.size, bs.size + 1))
    have hO2 : OwnsU ((w.alloc (.cells #[] 73)).drew.alloc (.cells bs 5 (bs.size, bs.size + 1))) w.heap.size (.slice (some ⟨w.heap.size, 0, none⟩) 0 0) [] := World.ownsRow.alloc (show OwnsU (w.alloc (.cells #[] 73)).drew _ _ _ from hO1) _
    have hK2 : ((w.alloc (.cells #[] 73)).drew.alloc (.cells bs 5 (bs.size, bs.size + 1))).heap[w.heap.size + 1]? = some (.cells bs 5 (bs.size, bs.size + 1)) := by
      have := heap_alloc_new (w.alloc (.cells #[] 73)).drew (.cells bs 5 (bs.size, bs.size + 1))
      rw [show (w.alloc (.cells #[] 73)).drew.heap.size = w.heap.size + 1 from by show (w.alloc (.cells #[] 73)).heap.size = _; simp] at this
      exact this
    have hz2 : w.heap.size + 1 < ((w.alloc (.cells #[] 73)).drew.alloc (.cells bs 5 (bs.size, bs.size + 1))).heap.size := by
      rcases Nat.lt_or_ge (w.heap.size + 1) ((w.alloc (.cells #[] 73)).drew.alloc (.cells bs 5 (bs.size, bs.size + 1))).heap.size with h | h
      · exact h
      · rw [Array.getElem?_eq_none h] at hK2; cases hK2
    obtain ⟨fr, hfr⟩ : ∃ fr : Nat × Nat, fr = (bs.size, bs.size + 1) := ⟨_, rfl⟩
    rw [← hfr] at hconv hb2 hO2 hK2 hz2
    generalize (w.alloc (.cells #[] 73)).drew.alloc (.cells bs 5 fr) = w2 at hconv hb2 hO2 hK2 hz2
    rw [show (w.alloc (.cells #[] 73)).heap.size = w.heap.size + 1 from by simp] at hconv
    have hcell : ∀ W : World, W.heap[w.heap.size + 1]? = some (.cells bs 5 fr) → ∀ j (hj : j < l.length), W.cell? ⟨w.heap.size + 1, j, none⟩ = some (.int .u8 l[j].toNat) := fun W h j hj => by
      rw [cell_of_row _ _ _ _ _ _ h]
      exact hbat j hj
    have hgp := groupsOf_any l (w.heap.size + 1) cap w2 (by rw [hl, hll]; exact hs2) (by rw [hl, hll]; exact hcg) hcm hz2 (hcell w2 hK2)
    rw [← hl]
    have hll' : l.length = s.size := by rw [hl]; exact hll
    rw [hll'] at hgp
    have HLL := Lib.hid hll'
    have HGP := Lib.hid hgp
    have HB2 := Lib.hid hb2
    have HO2 := Lib.hid hO2
    have HK2 := Lib.hid hK2
    have HCE := Lib.hid hcell
    have HZ2 := Lib.hid hz2
    have HCG := Lib.hid hcg
    clear hok hB1 hO1 hbs hbat hb2 hO2 hK2 hfr hcell hgp hl hll hll' hz2
    go_enter Try.func28, Try.ntmps28
    go_wp2_with fail
    refine HOK.out.mono ?_
    rintro e w1 ⟨rfl, rfl⟩
    go_wp2_with fail
    refine HGP.out.mono ?_
    rintro e w3 ⟨gy, G, rfl, hgy, hfin, hB3⟩
    obtain ⟨Ag, cg, rfl⟩ := own_slice hgy
    have HFN := Lib.hid hfin
    have HST : Hid (RsRel l G w w2.heap.size (w.heap.size + 1) cap bs fr (.slice Ag G.length cg) (.slice (some ⟨w.heap.size, 0, none⟩) 0 0) (.int .i64 0) w3) := Lib.hid ⟨0, Nat.zero_le _, rfl, own_below HO2.out hB3 (Nat.le_refl _), hgy, (hB3.block _ HZ2.out).trans HK2.out, HB2.out.trans (hB3.mono (by have := HZ2.out; omega))⟩
    have hGN : G.length ≤ 2000 := by have := hfin.2.2; have := HLL.out; omega
    obtain ⟨N, hN⟩ : ∃ N, N = G.length := ⟨_, rfl⟩
    rw [← hN] at HST hGN ⊢
    have HN := Lib.hid hN
    clear hgy hfin hB3 hconv hN
    generalize w2.heap.size = Lo at *
    go_wp2_with fail
    go_loopw [4, 15] (fun v i wr => RsRel l G w Lo (w.heap.size + 1) cap bs fr (.slice Ag N cg) v i wr) (fun _ i _ => N - (intOf i).toNat)
    case atStart => exact HST.out
    case round =>
      obtain ⟨k, hk, rfl, hown, hgr, hbl, hB⟩ := hrel
      obtain ⟨wo, rfl⟩ : ∃ wo : World, wo = wr := ⟨_, rfl⟩
      rw [← HN.out] at hk hgr
      have hsz := hB.size
      by_cases hlt : k < N
      · have hkg : k < G.length := by rw [← HN.out]; exact hlt
        obtain ⟨gg, rfl, _, _⟩ := own_addr hgr (by omega)
        have c0 : wo.cell? ⟨gg, k, none⟩ = some (gpV (w.heap.size + 1) cap G[k]) := by
          rw [hgr.cellAt k (by omega), List.getElem?_map, List.getElem?_eq_getElem hkg]
          rfl
        obtain ⟨p1, p2⟩ := HFN.out.2.1 _ (List.getElem_mem hkg)
        have HTK : Hid ((G.take (k + 1)).map (runP l) = (G.take k).map (runP l) ++ [runP l G[k]]) := Lib.hid (by
          rw [List.take_succ_eq_append_getElem hkg, List.map_append]
          rfl)
        have htl : ((G.take k).map (runP l)).length = k := by rw [List.length_map, List.length_take]; omega
        generalize G[k] = pr at *
        obtain ⟨a, b⟩ := pr
        simp only at p1 p2
        have hal : a < l.length := by omega
        have hb0 := HCE.out wo hbl a hal
        have hback := run_convert_bytes_back (P := Try.prog) wo 69 9 5 ⟨w.heap.size + 1, a, none⟩ (cap - a) [l[a]] Try.underlying69 Try.underlying5 Try.underlying9 (fun j hj => by
          obtain rfl : j = 0 := by simp at hj; omega
          have e0 : (⟨w.heap.size + 1, a, none⟩ : Addr).add 0 = ⟨w.heap.size + 1, a, none⟩ := by simp [Addr.add]
          rw [e0, hb0]
          rfl)
        have HRP : Hid (runP l (a, b) = ⟨⟨[l[a]].toArray⟩, ((b - a : Nat) : Int)⟩) := Lib.hid (by
          unfold runP oneB
          simp only
          rw [List.getD_eq_getElem?_getD, List.getElem?_eq_getElem hal, Option.getD_some])
        unfold gpV at c0
        simp only at c0
        simp only [List.length_singleton] at hback
        have hcap : 1 ≤ cap - a := by have := HCG.out; have := HLL.out; omega
        obtain ⟨d, hd⟩ : ∃ d, d = b - a := ⟨_, rfl⟩
        have hd2 : 1 ≤ d ∧ d ≤ 2000 := by have := HLL.out; omega
        rw [← hd] at c0 HRP
        generalize cap - a = ca at *
        generalize l[a] = ch at *
        obtain ⟨ls, hls⟩ : ∃ ls : ByteArray, ls = ⟨[ch].toArray⟩ := ⟨_, rfl⟩
        rw [← hls] at hback HRP
        have HO := Lib.hid hown
        have HGR := Lib.hid hgr
        have HBL := Lib.hid hbl
        have HB := Lib.hid hB
        have HNW := Lib.hid (news2 wo ⟨ls, (d : Int)⟩ 73)
        obtain ⟨Av, cv, rfl⟩ := own_slice hown
        have HO5 : Hid (wo.ownsRow w.heap.size 73 2 (.slice Av k cv) k (uv ((G.take k).map (runP l)))) := Lib.hid (by
          have h9 := HO.out
          unfold OwnsU at h9
          rw [htl] at h9
          exact h9)
        rw [htl] at HO ⊢
        have hca : (1 : Int) ≤ (ca : Int) := by omega
        have hd0 : (1 : Int) ≤ (d : Int) := by omega
        have hk0 : (0 : Int) ≤ (k : Int) := by omega
        have hk1 : (k : Int) < (N : Int) := by omega
        clear hown hgr hbl hB p1 p2 hal hb0 hd hls htl
        go_wp2_with (first | (at_builtin; refine wpList_append_own _ rfl _ _ 39 rfl w.heap.size 73 i0 (.agg #[.string ⟨#[]⟩, .int .i64 0]) 2 24 Try.underlying39 hi hz0 hz1 hz2 rfl (by decide) _ _ _ rfl (World.ownsRow.alloc HO5.out _) ⟨wo.heap.size, 0, none⟩ 1 1 (uc ⟨ls, (d : Int)⟩) rfl rfl HNW.out (uc_cell _) (by unfold maxLen; omega) (by omega) (by simp; omega) ?_))
        intro v8 w8 hown8 hgrow _
        have hlo : (w.heap.size + 1) < wo.heap.size := by
          have h9 := HBL.out
          rcases Nat.lt_or_ge (w.heap.size + 1) wo.heap.size with h | h
          · exact h
          · rw [Array.getElem?_eq_none h] at h9; cases h9
        have HST8 : Hid (RsRel l G w Lo (w.heap.size + 1) cap bs fr (.slice (some ⟨gg, 0, none⟩) N cg) v8 (.int .i64 ((k + 1 : Nat) : Int)) w8) := Lib.hid (by
          refine ⟨k + 1, by have := HN.out; omega, rfl, ?_, ?_, ?_, ?_⟩
          · unfold OwnsU
            rw [HTK.out, HRP.out, uv_app, uv_one, List.length_append, List.length_map, List.length_take]
            have e : min k G.length + 1 = k + 1 := by have := HN.out; omega
            simp only [List.length_singleton]
            rw [e, List.map_take]
            exact hown8
          · rw [← HN.out]
            exact own_other HGR.out HO5.out (by decide) hgrow
          · have h1 := hgrow.block (w.heap.size + 1) (by simp; omega) (own_blk_ne (HO5.out) HBL.out (by decide))
            rw [h1]
            exact ((Below.refl _ wo).alloc (Nat.le_refl _) _).block _ hlo |>.trans HBL.out
          · exact (HB.out.alloc hsz _).grown hgrow (by simp; omega) (fun q hq => (HO5.out.lt q hq).1))
        clear hown8 hgrow
        go_wp2_with fail
        go_roundw
        all_goals first | exact HST8.out | ((repeat apply Exists.intro); exact ⟨HST8.out, rfl⟩) | (have := HST8.out; simpa using this) | (simp [intOf]; done) | (simp [intOf]; omega) | omega
      · have hkn : k = G.length := by have := HN.out; omega
        have ho := hown
        rw [hkn, List.take_of_length_le (Nat.le_refl _), ← HFN.out.1, HLL.out] at ho
        obtain ⟨Av, cv, rfl⟩ := own_slice ho
        have HO := Lib.hid ho
        have HB := Lib.hid hB
        clear hown ho hgr hbl hB hkn
        go_wp2_with fail
        go_ret2
        exact ⟨_, rfl, HO.out, HB.out⟩
end Go.Proofs.Ytlgpleeanmeenaa
namespace Go.Proofs.Ytlgpleeanmeenaa
open Go.RowKit
open Wd
set_option linter.unusedVariables false
set_option maxRecDepth 100000 in
set_option maxHeartbeats 6400000 in
theorem implRunsGrammar_by (s : ByteArray) (w : World) (hs : s.size ≤ maxLen)
    (hpl : ∀ (s : ByteArray) W, s.size ≤ maxLen → Calls Try.prog 24 #[.string s] W fun e w' => ∃ y, e = .returned (.tuple #[.agg #[y], .int .i64 (gramPlainGrammar s).2]) ∧ OwnsR w' W.heap.size y (gramPlainGrammar s).1 ∧ Below W.heap.size W w') :
    Calls Try.prog 37 #[.string s] w fun e w' => ∃ y, e = .returned (.tuple #[.agg #[y], .int .i64 (gramRunsGrammar s).2]) ∧ OwnsR w' w.heap.size y (gramRunsGrammar s).1 ∧ Below w.heap.size w w' := by
  have hb2 : Below w.heap.size w (w.alloc (.cells #[.slice none 0 0] 26)) := (Below.refl _ w).alloc (Nat.le_refl _) _
  have hv := Var.new w (.slice none 0 0) 26
  have HB := Lib.hid hb2
  have HV := Lib.hid hv
  have HRU := Lib.hid (implRunsOf s (w.alloc (.cells #[.slice none 0 0] 26)) hs)
  unfold gramRunsGrammar
  cases hok : okL s.data.toList
  · rw [if_neg (by decide)]
    have hA : rsA s = ([], 1) := by unfold rsA; rw [hok]; rfl
    rw [hA] at HRU
    clear hb2 hv hok hpl
    go_enter Try.func37, Try.ntmps37
    go_wp2_with fail
    refine HRU.out.mono ?_
    rintro e w1 ⟨y, rfl, ho, hB1⟩
    obtain ⟨Ay, cy, rfl⟩ := own_slice ho
    have hb3 := (Below.refl _ w1).alloc (Nat.le_refl _) (.cells #[.slice Ay 0 cy] 39)
    have hB3 := hB1.trans (hb3.mono hB1.size)
    obtain ⟨x0, x1⟩ := (HV.out.kept hB3).cell
    have HB1 := Lib.hid (HB.out.trans (hB3.mono HB.out.size))
    clear hB1 ho hb3 hB3
    go_wp2_with fail
    refine bodyPost_ret (v := .tuple #[.agg #[.slice none 0 0], .int .i64 1]) (by simp [results, Try.results37, go_sem, x0]) rfl ⟨_, rfl, World.ownsRow_nil _ _ _ _, HB1.out.setCell (by simp) _⟩
  · rw [if_pos rfl]
    have hA : rsA s = (rsK s.data.toList s.size, 0) := by unfold rsA; rw [if_pos hok]
    rw [hA] at HRU
    have hfit := rs_fit hok
    generalize rsK s.data.toList s.size = rs at *
    simp only at HRU
    have HFIT := Lib.hid hfit
    have HPL := Lib.hid hpl
    have HJP : Hid (∀ (p : Nat) (A : Option Addr) (c : Nat) W, w.heap.size < p → Runs W (.slice A rs.length c) rs → W.cell? ⟨p, 0, none⟩ = some (.slice A rs.length c) → Calls Try.prog 70 #[.int .i64 rs.length, .func (.func 97) #[] #[.pointer (some ⟨p, 0, none⟩)]] W fun e w' => ∃ y, e = .returned (.tuple #[.agg #[y], .int .i64 (jpF (rgPc rs) rs.length 0 []).2]) ∧ OwnsR w' W.heap.size y (jpF (rgPc rs) rs.length 0 []).1 ∧ Below W.heap.size W w') := Lib.hid (fun p A c W hp hru hc => by
      refine joinedPieces_runs (rgPc rs) (rgInv rs) (.pointer (some ⟨p, 0, none⟩)) rs.length W hfit.len ?_ (fun k g hk ho hi h => (rg_gOk hfit (g := g) hk).1) (fun k g hk ho hi h hj => rg_next hfit hk ho hi hj) (rg_start hfit)
      intro k g v' W' hk ho hi hrc hB'
      obtain ⟨A', c', e1, hrr⟩ := hru
      injection e1 with e1 _ e2
      subst e1
      rcases hrr with h | ⟨gf, rfl, hgl, hcc⟩
      · rw [h] at hk; simp at hk
      obtain ⟨a0, a1⟩ := runs_cells hcc hk
      obtain ⟨l1, l2⟩ := hfit.one k hk
      obtain ⟨n1, n2⟩ := hfit.cnt k hk
      have hone := gOk_letter l1 l2
      have hpow := rg_gOk hfit (g := g) hk
      have hrp := rg_pc g hk
      rw [hrp] at hpow
      refine rgPiece_any p gf c rs.length k rs[k] g [⟨rs[k].L, 0, 0⟩] v' (rgPc rs k g) W' ((hB'.cell (p := ⟨p, 0, none⟩) (lt_of_cell hc)).trans hc) hk ((hB'.cell (p := ⟨gf, k * 2, none⟩) hgl).trans a0) ((hB'.cell (p := ⟨gf, k * 2 + 1, none⟩) hgl).trans a1) hrc (fun W2 => ?_) (fun v2 W2 hv2 => ?_)
      · have h3 := hpl rs[k].L W2 (by unfold maxLen; omega)
        have h4 : gramPlainGrammar rs[k].L = ([⟨rs[k].L, 0, 0⟩], 0) := by
          unfold gramPlainGrammar limG limC
          rw [if_pos l2, plain_one l1 l2, if_pos hone, if_pos hone]
        rw [h4] at h3
        exact h3
      · have h3 := implPower_ok v2 [⟨rs[k].L, 0, 0⟩] rs[k].l.toNat W2 (few_ok hone) hv2 hone (by omega) (by omega) (by simp)
        have h5 : limC (powG [⟨rs[k].L, 0, 0⟩] rs[k].l.toNat) = 0 := by unfold limC; rw [if_pos hpow.1]
        have h6 : limG (powG [⟨rs[k].L, 0, 0⟩] rs[k].l.toNat) = powG [⟨rs[k].L, 0, 0⟩] rs[k].l.toNat := by unfold limG; rw [if_pos hpow.1]
        rw [h5, h6, Int.toNat_of_nonneg (by omega)] at h3
        rw [hrp]
        exact h3)
    generalize jpF (rgPc rs) rs.length 0 [] = an at *
    clear hb2 hv hok hpl hfit hA
    go_enter Try.func37, Try.ntmps37
    go_wp2_with fail
    refine HRU.out.mono ?_
    rintro e w1 ⟨y, rfl, ho, hB1⟩
    obtain ⟨Ay, cy, rfl⟩ := own_slice ho
    have hb3 := (Below.refl _ w1).alloc (Nat.le_refl _) (.cells #[.slice Ay rs.length cy] 39)
    have hB3 := hB1.trans (hb3.mono hB1.size)
    have HVa := Lib.hid (HV.out.kept hB3)
    have HB3 := Lib.hid (HB.out.trans (hB3.mono HB.out.size))
    have HR3 := Lib.hid ((Runs.of_own ho).kept hb3)
    have q3 := (Var.new w1 (.slice Ay rs.length cy) 39).cell.1
    have hs1 : w.heap.size < w1.heap.size := (HV.out.kept hB1).lt
    clear hB1 ho hb3 hB3
    go_wp2_with fail
    obtain ⟨Q, hQ⟩ : ∃ Q, Q = w1.heap.size := ⟨_, rfl⟩
    rw [← hQ] at q3 ⊢
    have hQ1 : w.heap.size < Q := by omega
    generalize w1.alloc (.cells #[.slice Ay rs.length cy] 39) = w3 at *
    clear hQ hs1
    refine (HJP.out Q _ _ _ hQ1 HR3.out q3).mono ?_
    rintro e w4 ⟨y4, rfl, ho4, hB4⟩
    obtain ⟨A4, c4, rfl⟩ := own_slice ho4
    obtain ⟨x0, x1⟩ := (HVa.out.kept hB4).cell
    have hl3 : w.heap.size < w3.heap.size := HVa.out.lt
    have HB4 := Lib.hid (HB3.out.trans (hB4.mono HB3.out.size))
    have HNE : Hid ((Value.slice A4 an.1.length c4).ownBlock ≠ some w.heap.size) := Lib.hid (fun e => by have := (ho4.lt _ e).1; omega)
    have HO := Lib.hid (own_lower ho4 (show w.heap.size ≤ w3.heap.size by omega))
    clear hB4 ho4
    go_wp2_with fail
    refine bodyPost_ret (v := .tuple #[.agg #[.slice A4 an.1.length c4], .int .i64 an.2]) (by simp [results, Try.results37, go_sem, x0]) rfl ⟨_, rfl, ?_, HB4.out.setCell (by simp) _⟩
    exact World.ownsRow.kept HO.out (only_setCell (World.grownBy.refl w4 (some w.heap.size)) (p := ⟨w.heap.size, 0, none⟩) (.inl rfl) _) (.inr HNE.out)
end Go.Proofs.Ytlgpleeanmeenaa
namespace Go.Proofs.Ytlgpleeanmeenaa
open Go.RowKit
open Wd
set_option linter.unusedVariables false
set_option maxRecDepth 100000 in
set_option maxHeartbeats 6400000 in
theorem l01Runs_any (s : ByteArray) (w : World) (hs : s.size ≤ 2000) :
    Calls Try.prog 85 #[.string s] w fun e w' => ∃ y, e = .returned y ∧ OwnsU w' w.heap.size y (rsK s.data.toList s.size) ∧ Below w.heap.size w w' := by
  obtain ⟨i0, hi, hz0, hz1, hz2⟩ := info_parts Try.info_run
  go_enter Try.func85, Try.ntmps85
  go_wp2
  go_loopw [3, 4] (fun v i wr => ∃ k : Nat, k ≤ s.size ∧ i = .int .i64 k ∧ OwnsU wr w.heap.size v (rsK s.data.toList k) ∧ Below w.heap.size w wr) (fun _ i _ => s.size - (intOf i).toNat)
  case atStart => exact ⟨0, Nat.zero_le _, rfl, World.ownsRow_lit w #[] 0 (Nat.le_refl _) (by decide) rfl, (Below.refl _ _).alloc (Nat.le_refl _) _⟩
  case round =>
    obtain ⟨k, hk, rfl, hown, hB⟩ := hrel
    obtain ⟨wo, rfl⟩ : ∃ wo : World, wo = wr := ⟨_, rfl⟩
    have hsz := hB.size
    by_cases hlt : k < s.size
    · have hkl : k < s.data.toList.length := by simpa using hlt
      have hgk : s.data.toList.getD k 0 = s[k] := by
        rw [List.getD_eq_getElem?_getD, List.getElem?_eq_getElem hkl, Option.getD_some]; rfl
      have hlen := rsK_len s.data.toList k
      by_cases hpos : 0 < k
      · obtain ⟨m, hkm⟩ : ∃ m, k = m + 1 := ⟨k - 1, by omega⟩
        have hml : m < s.data.toList.length := by simp at hkl ⊢; omega
        have hms : m < s.size := by omega
        have hgm : s.data.toList.getD (k - 1) 0 = s[m] := by
          rw [show k - 1 = m from by omega, List.getD_eq_getElem?_getD, List.getElem?_eq_getElem hml, Option.getD_some]; rfl
        by_cases heq : s[k] = s[m]
        · have hrs := rsK_pos s.data.toList k (by omega)
          have HX : Hid (rsK s.data.toList (k + 1) = incL (rsK s.data.toList k)) := Lib.hid (by
            rw [rsK, if_pos ⟨by omega, by rw [hgk, hgm, heq]⟩])
          have hcnt := rsK_cnt s.data.toList k
          generalize rsK s.data.toList k = rs at *
          obtain ⟨p, hp⟩ : ∃ p, rs.length = p + 1 := ⟨rs.length - 1, by omega⟩
          have hpl : p < rs.length := by omega
          have hc2 := hcnt _ (List.getElem_mem hpl)
          rcases hown.2 with ⟨_, h0⟩ | ⟨g, cap, cur, rfl, _⟩
          · omega
          have c1 : wo.cell? ⟨g, p * 2 + 1, none⟩ = some (.int .i64 rs[p].l) := by
            rw [hown.cellAt (p * 2 + 1) (by omega)]; exact uv_get rs p hpl 1 (by omega)
          have f1 : wo.frozen? ⟨g, p * 2 + 1, none⟩ = false := hown.frozenAt _
          have hst := (hown.stored (p * 2 + 1) (.int .i64 (rs[p].l + 1))).1
          rw [uv_set1 rs p hpl] at hst
          have HO8 : Hid (OwnsU (wo.setCell ⟨g, p * 2 + 1, none⟩ (.int .i64 (rs[p].l + 1))) w.heap.size (.slice (some ⟨g, 0, none⟩) rs.length cap) (rsK s.data.toList (k + 1))) := Lib.hid (by
            unfold OwnsU
            rw [HX.out, incL_at (by omega)]
            have e : rs.length - 1 = p := by omega
            simp only [e, List.length_set]
            exact hst)
          have hgw : w.heap.size ≤ g := (hown.lt g rfl).1
          have HB8 : Hid (Below w.heap.size w (wo.setCell ⟨g, p * 2 + 1, none⟩ (.int .i64 (rs[p].l + 1)))) := Lib.hid (hB.setCell hgw _)
          have heq' : ((s[k].toNat : Int) == (s[m].toNat : Int)) = true := by rw [heq]; simp
          have hd1 : decide ((0 : Int) < (k : Int)) = true := decide_eq_true (by omega)
          have hd3 : decide (0 < k) = true := decide_eq_true (by omega)
          have hwr : IntKind.i64.wrap ((k : Int) - 1) = (m : Int) := by rw [IntKind.wrap_i64]; omega
          have hwp : IntKind.i64.wrap ((rs.length : Int) - 1) = (p : Int) := by rw [IntKind.wrap_i64]; omega
          have hm0 : (0 : Int) ≤ (m : Int) := by omega
          have hm1 : (m : Int) < (s.size : Int) := by omega
          have hk0 : (0 : Int) ≤ (k : Int) := by omega
          have hkl1 : (k : Int) < (s.size : Int) := by omega
          have HKM := Lib.hid hkm
          clear hkm
          have hp0 : (0 : Int) ≤ (p : Int) := by omega
          generalize rs[p].l = y at *
          obtain ⟨N, hN⟩ : ∃ N, N = rs.length := ⟨_, rfl⟩
          rw [← hN] at HO8 hwp ⊢
          have hp1 : (p : Int) < (N : Int) := by omega
          clear hown hB hst hcnt heq hp hpl hrs hN
          go_wp2_with fail
          go_quiet (fail)
          have d1 : (wo.drewN nq).cell? ⟨g, p * 2 + 1, none⟩ = some (.int .i64 y) := c1
          have g1 : (wo.drewN nq).frozen? ⟨g, p * 2 + 1, none⟩ = false := f1
          have HO9 : Hid (OwnsU ((wo.drewN nq).setCell ⟨g, p * 2 + 1, none⟩ (.int .i64 (y + 1))) w.heap.size (.slice (some ⟨g, 0, none⟩) N cap) (rsK s.data.toList (k + 1))) := Lib.hid HO8.out
          have HB9 : Hid (Below w.heap.size w ((wo.drewN nq).setCell ⟨g, p * 2 + 1, none⟩ (.int .i64 (y + 1)))) := Lib.hid (below_drewN HB8.out nq)
          clear c1 f1 heq' hd1 hwr
          generalize wo.drewN nq = w5 at *
          go_wp2_with fail
          go_roundw
          all_goals first | exact ⟨k + 1, by omega, by go_num, HO9.out, HB9.out⟩ | ((repeat apply Exists.intro); exact ⟨⟨k + 1, by omega, by go_num, HO9.out, HB9.out⟩, rfl⟩) | (simp [intOf]; done) | (simp [intOf]; omega) | omega
        · have HX : Hid (rsK s.data.toList (k + 1) = rsK s.data.toList k ++ [⟨s.extract k (k + 1), 1⟩]) := Lib.hid (by
            rw [rsK, if_neg (fun h => heq (by rw [← hgk, ← hgm]; exact h.2)), hgk]
            have : s.extract k (k + 1) = oneB s[k] := ByteArray.ext (Array.toList_inj.1 (extract_one s k hlt))
            rw [this])
          have heq' : ((s[k].toNat : Int) == (s[m].toNat : Int)) = false := by
            rw [beq_eq_false_iff_ne]
            intro h
            exact heq (UInt8.toNat_inj.1 (by omega))
          have hd1 : decide ((0 : Int) < (k : Int)) = true := decide_eq_true (by omega)
          have hd3 : decide (0 < k) = true := decide_eq_true (by omega)
          have hwr : IntKind.i64.wrap ((k : Int) - 1) = (m : Int) := by rw [IntKind.wrap_i64]; omega
          have hm0 : (0 : Int) ≤ (m : Int) := by omega
          have hm1 : (m : Int) < (s.size : Int) := by omega
          have hk0 : (0 : Int) ≤ (k : Int) := by omega
          have hkl1 : (k : Int) < (s.size : Int) := by omega
          have HKM := Lib.hid hkm
          clear hkm
          go_wp2_with fail
          go_quiet (fail)
          have hown5 : OwnsU (wo.drewN nq) w.heap.size _ (rsK s.data.toList k) := hown
          have hB5 := below_drewN hB nq
          clear hown hB heq' hd1 hwr
          generalize wo.drewN nq = w5 at *
          have HNW := Lib.hid (news2 w5 ⟨s.extract k (k + 1), 1⟩ 73)
          have hb5 := hB5.size
          have HO5 := Lib.hid hown5
          have HB5 := Lib.hid hB5
          obtain ⟨A, c, rfl⟩ := own_slice hown5
          have hk1 : ((k : Nat) : Int) + 1 ≤ (s.size : Int) := by omega
          clear hown5 hB5
          generalize rsK s.data.toList k = rs at *
          go_wp2_with (first | (at_builtin; refine wpList_append_own _ rfl _ _ 39 rfl w.heap.size 73 i0 (.agg #[.string ⟨#[]⟩, .int .i64 0]) 2 24 Try.underlying39 hi hz0 hz1 hz2 rfl (by decide) _ _ _ rfl (World.ownsRow.alloc HO5.out _) ⟨w5.heap.size, 0, none⟩ 1 1 (uc ⟨s.extract k (k + 1), 1⟩) rfl rfl HNW.out (uc_cell _) (by unfold maxLen; omega) (by omega) (by simp; omega) ?_))
          intro v8 w8 hown8 hgrow _
          have HO8 : Hid (OwnsU w8 w.heap.size v8 (rsK s.data.toList (k + 1))) := Lib.hid (by
            unfold OwnsU
            rw [HX.out, uv_app, uv_one, List.length_append]
            exact hown8)
          have HB8 : Hid (Below w.heap.size w w8) := Lib.hid ((HB5.out.alloc hb5 _).grown hgrow (by simp; omega) (fun q hq => (HO5.out.lt q hq).1))
          clear hown8 hgrow
          go_wp2_with fail
          go_roundw
          all_goals first | exact ⟨k + 1, by omega, by go_num, HO8.out, HB8.out⟩ | ((repeat apply Exists.intro); exact ⟨⟨k + 1, by omega, by go_num, HO8.out, HB8.out⟩, rfl⟩) | (simp [intOf]; done) | (simp [intOf]; omega) | omega
      · obtain rfl : k = 0 := by omega
        have HX : Hid (rsK s.data.toList (0 + 1) = rsK s.data.toList 0 ++ [⟨s.extract 0 (0 + 1), 1⟩]) := Lib.hid (by
          rw [show rsK s.data.toList (0 + 1) = (if 0 < 0 ∧ s.data.toList.getD 0 0 = s.data.toList.getD (0 - 1) 0 then incL (rsK s.data.toList 0) else rsK s.data.toList 0 ++ [⟨oneB (s.data.toList.getD 0 0), 1⟩]) from rfl, if_neg (fun h => by omega), hgk]
          have : s.extract 0 (0 + 1) = oneB s[0] := ByteArray.ext (Array.toList_inj.1 (extract_one s 0 hlt))
          rw [this])
        go_wp2_with fail
        go_quiet (fail)
        have hown5 : OwnsU (wo.drewN nq) w.heap.size _ (rsK s.data.toList 0) := hown
        have hB5 := below_drewN hB nq
        clear hown hB
        generalize wo.drewN nq = w5 at *
        have HNW := Lib.hid (news2 w5 ⟨s.extract 0 (0 + 1), 1⟩ 73)
        have hb5 := hB5.size
        have HO5 := Lib.hid hown5
        have HB5 := Lib.hid hB5
        obtain ⟨A, c, rfl⟩ := own_slice hown5
        have hk1 : ((0 : Nat) : Int) + 1 ≤ (s.size : Int) := by omega
        clear hown5 hB5
        generalize rsK s.data.toList 0 = rs at *
        go_wp2_with (first | (at_builtin; refine wpList_append_own _ rfl _ _ 39 rfl w.heap.size 73 i0 (.agg #[.string ⟨#[]⟩, .int .i64 0]) 2 24 Try.underlying39 hi hz0 hz1 hz2 rfl (by decide) _ _ _ rfl (World.ownsRow.alloc HO5.out _) ⟨w5.heap.size, 0, none⟩ 1 1 (uc ⟨s.extract 0 (0 + 1), 1⟩) rfl rfl HNW.out (uc_cell _) (by unfold maxLen; omega) (by omega) (by simp; omega) ?_))
        intro v8 w8 hown8 hgrow _
        have HO8 : Hid (OwnsU w8 w.heap.size v8 (rsK s.data.toList (0 + 1))) := Lib.hid (by
          unfold OwnsU
          rw [HX.out, uv_app, uv_one, List.length_append]
          exact hown8)
        have HB8 : Hid (Below w.heap.size w w8) := Lib.hid ((HB5.out.alloc hb5 _).grown hgrow (by simp; omega) (fun q hq => (HO5.out.lt q hq).1))
        clear hown8 hgrow
        go_wp2_with fail
        go_roundw
        all_goals first | exact ⟨0 + 1, by omega, by go_num, HO8.out, HB8.out⟩ | ((repeat apply Exists.intro); exact ⟨⟨0 + 1, by omega, by go_num, HO8.out, HB8.out⟩, rfl⟩) | (simp [intOf]; done) | (simp [intOf]; omega) | omega
    · have hkn : k = s.size := by omega
      subst hkn
      obtain ⟨A, c, rfl⟩ := own_slice hown
      have HO := Lib.hid hown
      have HB := Lib.hid hB
      clear hown hB
      go_wp2_with fail
      go_ret
      exact ⟨_, rfl, HO.out, HB.out⟩
theorem specRunsOf (s : ByteArray) (w : World) (hs : s.size ≤ maxLen) :
    Calls Try.prog 27 #[.string s] w fun e w' => ∃ y, e = .returned (.tuple #[y, .int .i64 (rsA s).2]) ∧ OwnsU w' w.heap.size y (rsA s).1 ∧ Below w.heap.size w w' := by
  have HOK := Lib.hid (specOk s w hs)
  unfold rsA
  cases hok : okL s.data.toList
  · rw [hok] at HOK
    rw [if_neg (by decide)]
    clear hok
    have HB := Lib.hid ((Below.refl _ w).alloc (Nat.le_refl _) (.cells #[] 73))
    have HO := Lib.hid (show OwnsU (w.alloc (.cells #[] 73)) w.heap.size (.slice (some ⟨w.heap.size, 0, none⟩) 0 0) [] from World.ownsRow_lit w #[] 0 (Nat.le_refl _) (by decide) rfl)
    go_enter Try.func27, Try.ntmps27
    go_wp2_with fail
    refine HOK.out.mono ?_
    rintro e w1 ⟨rfl, rfl⟩
    go_wp2_with fail
    go_ret2
    exact ⟨_, rfl, HO.out, HB.out⟩
  · have hs2 : s.size ≤ 2000 := by
      rcases Nat.lt_or_ge 2000 s.size with h | h
      · rw [okL_long (by simpa using h)] at hok; cases hok
      · exact h
    rw [hok] at HOK
    rw [if_pos rfl]
    have HR := Lib.hid (l01Runs_any s w hs2)
    clear hok
    go_enter Try.func27, Try.ntmps27
    go_wp2_with fail
    refine HOK.out.mono ?_
    rintro e w1 ⟨rfl, rfl⟩
    go_wp2_with fail
    refine HR.out.mono ?_
    rintro e w2 ⟨y, rfl, ho, hB⟩
    obtain ⟨A, c, rfl⟩ := own_slice ho
    have HO := Lib.hid ho
    have HB := Lib.hid hB
    clear ho hB
    go_wp2_with fail
    go_ret2
    exact ⟨_, rfl, HO.out, HB.out⟩
end Go.Proofs.Ytlgpleeanmeenaa
namespace Go.Proofs.Ytlgpleeanmeenaa
open Go.RowKit
open Wd
set_option linter.unusedVariables false
theorem news_rc (w : World) (x : Rl) (t : TypeId) : ∀ j u, (rc x)[j]? = some u → (w.alloc (.cells #[.string x.L, .int .i64 x.l, .int .i64 x.r] t)).cell? ((⟨w.heap.size, 0, none⟩ : Addr).add j) = some u := news3 w x t
/-- what holds between two rules -/
def JRel (gs hs : List Rl) (w : World) (V r : Nat) (i : Value) (wr : World) : Prop :=
  ∃ (k : Nat) (yv : Value), k ≤ hs.length ∧ i = .int .i64 k ∧ JSt w (w.heap.size + 1) V r (gs ++ (hs.take k).map (raiseR gs.length)) yv wr

set_option maxRecDepth 100000 in
set_option maxHeartbeats 12800000 in
theorem join_any (p q : Nat) (gs hs : List Rl) (w : World) (hf : gs.length ≤ 400) (hf2 : hs.length ≤ 400) (hok : fits hs = true) (hg : GP w p gs) (hh : GP w q hs) :
    Calls Try.prog 67 #[.pointer (some ⟨p, 0, none⟩), .pointer (some ⟨q, 0, none⟩)] w fun e w' => ∃ y, e = .returned (.agg #[y]) ∧ OwnsR w' w.heap.size y (joinG gs hs) ∧ Below w.heap.size w w' := by
  obtain ⟨i0, hi, hz0, hz1, hz2⟩ := info_parts Try.info_rule
  have hb : Below w.heap.size w (w.alloc (.cells #[.slice none 0 0] 26)) := (Below.refl _ w).alloc (Nat.le_refl _) _
  have hvr : Var (w.alloc (.cells #[.slice none 0 0] 26)) w.heap.size (.slice none 0 0) 26 := Var.new w _ _
  have HB := Lib.hid hb
  have HVR := Lib.hid hvr
  have HG := Lib.hid (hg.kept hb)
  have HH := Lib.hid (hh.kept hb)
  obtain ⟨v, hv, A, c, rfl, hr⟩ := hg
  obtain ⟨u, hu, A', c', rfl, hr'⟩ := hh
  have HV := Lib.hid hv
  have HU := Lib.hid hu
  have cv := (hb.cell (p := ⟨p, 0, none⟩) (lt_of_cell hv)).trans hv
  have cu := (hb.cell (p := ⟨q, 0, none⟩) (lt_of_cell hu)).trans hu
  have HRH := Lib.hid hr'
  clear hv hu hr hr' hb hvr
  by_cases h0 : gs.length = 0
  · have hj : joinG gs hs = hs := by unfold joinG; rw [if_pos h0]
    rw [hj]
    rw [h0] at cv
    clear hj h0
    go_enter Try.func67, Try.ntmps67
    go_wp2_with fail
    refine (own_any q hs _ (by omega) HH.out).mono ?_
    rintro e w1 ⟨y, rfl, ho, hB1⟩
    obtain ⟨Ay, cy, rfl⟩ := own_slice ho
    obtain ⟨x0, x1⟩ := (HVR.out.kept hB1).cell
    have HO := Lib.hid ho
    have HB1 := Lib.hid (HB.out.trans (hB1.mono (by simp)))
    clear hB1 ho
    go_wp2_with fail
    refine bodyPost_ret (v := .agg #[.slice Ay hs.length cy]) (by simp [results, Try.results67, go_sem, x0]) rfl ⟨_, rfl, ?_, HB1.out.setCell (by simp) _⟩
    exact own_lower (own_setLow HO.out _ _ (by simp)) (by simp)
  · by_cases h1 : hs.length = 0
    · have hj : joinG gs hs = gs := by unfold joinG; rw [if_neg h0, if_pos h1]
      rw [hj]
      rw [h1] at cu
      have h0' : ((gs.length : Int) == 0) = false := by rw [beq_eq_false_iff_ne]; omega
      clear hj h0 h1
      go_enter Try.func67, Try.ntmps67
      go_wp2_with fail
      refine (own_any p gs _ (by omega) HG.out).mono ?_
      rintro e w1 ⟨y, rfl, ho, hB1⟩
      obtain ⟨Ay, cy, rfl⟩ := own_slice ho
      have HO := Lib.hid ho
      have HB1 := Lib.hid (HB.out.trans (hB1.mono (by simp)))
      have hb2 := (Below.refl _ w1).alloc (Nat.le_refl _) (.cells #[.slice Ay gs.length cy] 26)
      obtain ⟨x0, x1⟩ := ((HVR.out.kept hB1).kept hb2).cell
      have cu1 := (hb2.cell (p := ⟨q, 0, none⟩) (Nat.lt_of_lt_of_le (lt_of_cell cu) hB1.size)).trans ((hB1.cell (p := ⟨q, 0, none⟩) (lt_of_cell cu)).trans cu)
      have HB2 := Lib.hid (HB1.out.trans (hb2.mono HB1.out.size))
      have HO2 := Lib.hid (own_below ho hb2 (Nat.le_refl _))
      clear hB1 ho hb2
      go_wp2_with fail
      refine bodyPost_ret (v := .agg #[.slice Ay gs.length cy]) (by simp [results, Try.results67, go_sem, x0]) rfl ⟨_, rfl, ?_, HB2.out.setCell (by simp) _⟩
      exact own_lower (own_setLow HO2.out _ _ (by simp)) (by simp)
    · have h0' : ((gs.length : Int) == 0) = false := by rw [beq_eq_false_iff_ne]; omega
      have h1' : ((hs.length : Int) == 0) = false := by rw [beq_eq_false_iff_ne]; omega
      have hj : joinG gs hs = gs ++ hs.map (raiseR gs.length) ++ [pairR (gs.length - 1) (gs.length + hs.length - 1)] := by unfold joinG; rw [if_neg h0, if_neg h1]
      rw [hj]
      have HP := Lib.hid (lt_of_cell HV.out)
      have HQ := Lib.hid (lt_of_cell HU.out)
      have HOK := Lib.hid hok
      clear hj hok
      go_enter Try.func67, Try.ntmps67
      go_wp2_with fail
      refine (own_any p gs _ (by omega) HG.out).mono ?_
      rintro e w1 ⟨y, rfl, ho, hB1⟩
      obtain ⟨Ay, cy, rfl⟩ := own_slice ho
      have HB1 := Lib.hid (HB.out.trans (hB1.mono (by simp)))
      have hb2 := (Below.refl _ w1).alloc (Nat.le_refl _) (.cells #[.slice Ay gs.length cy] 26)
      have hs1 : w.heap.size + 1 ≤ w1.heap.size := by have := hB1.size; simp at this; omega
      have HST : Hid (JRel gs hs w w1.heap.size w.heap.size (.int .i64 0) (w1.alloc (.cells #[.slice Ay gs.length cy] 26))) := Lib.hid
        ⟨0, .slice Ay gs.length cy, Nat.zero_le _, rfl, by
          rw [List.take_zero, List.map_nil, List.append_nil]
          exact ⟨own_lower (own_below ho hb2 (Nat.le_refl _)) (by simp), Var.new _ _ _, (HVR.out.kept hB1).kept hb2, HB1.out.trans (hb2.mono HB1.out.size), by simp; omega⟩⟩
      have HB2 := Lib.hid (HB1.out.trans (hb2.mono HB1.out.size))
      have cp2 := (HB2.out.cell (p := ⟨p, 0, none⟩) HP.out).trans HV.out
      have cq2 := (HB2.out.cell (p := ⟨q, 0, none⟩) HQ.out).trans HU.out
      clear hB1 ho hb2
      go_wp2_with fail
      obtain ⟨V, hV⟩ : ∃ V, V = w1.heap.size := ⟨_, rfl⟩
      rw [← hV] at HST ⊢
      have hVw : w.heap.size + 1 ≤ V := by omega
      generalize w1.alloc (.cells #[.slice Ay gs.length cy] 26) = w4 at *
      clear hV hs1 cp2 cq2 cv cu
      go_loopw [7] (fun i wr => JRel gs hs w V w.heap.size i wr) (fun i _ => hs.length - (intOf i).toNat)
      case atStart => exact HST.out
      case round =>
        obtain ⟨k, yv, hk, rfl, hps⟩ := hrel
        obtain ⟨wo, rfl⟩ : ∃ wo : World, wo = wr := ⟨_, rfl⟩
        have HPS := Lib.hid hps
        have cq3 := (hps.2.2.2.1.cell (p := ⟨q, 0, none⟩) HQ.out).trans HU.out
        have cp3 := (hps.2.2.2.1.cell (p := ⟨p, 0, none⟩) HP.out).trans HV.out
        obtain ⟨A2, c2, hyv⟩ := own_slice hps.1
        obtain ⟨N, hN⟩ : ∃ N, N = (gs ++ (hs.take k).map (raiseR gs.length)).length := ⟨_, rfl⟩
        have hNk : N = gs.length + k := by rw [hN, List.length_append, List.length_map, List.length_take]; omega
        rw [← hN] at hyv
        subst hyv
        have HNK := Lib.hid hNk
        have hN2 : N ≤ 800 := by omega
        obtain ⟨vc1, vc2⟩ := hps.2.1.cell
        by_cases hlt : k < hs.length
        · rcases HRH.out with hn | ⟨g, rfl, hg, hc⟩
          · rw [hn] at hlt; simp at hlt
          have hrc := rules_cells hc hlt
          have hSA : ∀ w' : World, Below w.heap.size w w' → (w'.cell? ⟨q, 0, none⟩ = some (.slice (some ⟨g, 0, none⟩) hs.length c') ∧ w'.cell? ⟨g, k * 3, none⟩ = some (.string hs[k].L) ∧ w'.cell? ⟨g, k * 3 + 1, none⟩ = some (.int .i64 hs[k].l) ∧ w'.cell? ⟨g, k * 3 + 2, none⟩ = some (.int .i64 hs[k].r)) := by
            obtain ⟨a0, a1, a2⟩ := hrc
            intro w' hb
            exact ⟨(hb.cell (p := ⟨q, 0, none⟩) HQ.out).trans HU.out, (hb.cell (p := ⟨g, k * 3, none⟩) hg).trans a0, (hb.cell (p := ⟨g, k * 3 + 1, none⟩) hg).trans a1, (hb.cell (p := ⟨g, k * 3 + 2, none⟩) hg).trans a2⟩
          have hft := fits_at HOK.out k hlt
          have hbd : (0 ≤ hs[k].l ∧ hs[k].l ≤ 1048576) ∧ (0 ≤ hs[k].r ∧ hs[k].r ≤ 1048576) ∧ hs[k].L.size ≤ maxLen := by
            unfold maxLen
            by_cases hz : hs[k].L.size = 0
            · have := (ok_pair hz).1 hft; omega
            · have := (ok_letter hz).1 hft; omega
          have HSA := Lib.hid hSA
          have HRS := Lib.hid (fun W => specRaised hs[k] gs.length W hbd.1 hbd.2.1 (by omega) hbd.2.2)
          have htk : (hs.take (k + 1)).map (raiseR gs.length) = (hs.take k).map (raiseR gs.length) ++ [raiseR gs.length hs[k]] := by
            rw [List.take_succ_eq_append_getElem hlt, List.map_append]; rfl
          have HTK := Lib.hid htk
          have HP6 := Lib.hid (jst_kept hps (Below.refl _ wo).drew)
          obtain ⟨s0, s1, s2, s3⟩ := hSA wo.drew HP6.out.2.2.2.1
          obtain ⟨z0, z1⟩ := HP6.out.2.1.cell
          generalize hs[k] = R at *
          obtain ⟨X, hX⟩ : ∃ X, X = raiseR gs.length R := ⟨_, rfl⟩
          rw [← hX] at HRS HTK
          have j0 : (0 : Int) ≤ (k : Int) := by omega
          have j1 : (k : Int) < (hs.length : Int) := by omega
          have HN := Lib.hid hN
          clear hps hrc hc hg hft hbd hSA htk hX hN hNk
          go_wp2_with fail
          go_region_law ((first
            | (go_simp
               go_at_call 113
               refine (HRS.out _).mono ?_
               rintro e w7 ⟨rfl, hB7⟩
               have HP7 := Lib.hid (jst_kept HP6.out hB7)
               have HA7 := Lib.hid (fun o => (jst_kept HP7.out ((Below.refl _ _).alloc (Nat.le_refl _) o)).2.2.2.1)
               have z7 := HP7.out.2.1.cell.1
               have za7 := fun o => (jst_kept HP7.out ((Below.refl _ _).alloc (Nat.le_refl _) o)).2.1.cell.1
               have HNW := Lib.hid (news3 w7 X 146)
               have hbs7 : w.heap.size + 1 ≤ w7.heap.size := HP7.out.2.2.2.2
               have hO7 := HP7.out.1
               rw [← HN.out] at hO7
               have HO7 := Lib.hid hO7
               clear hO7 hB7)
            | (refine step_append_lies _ (by rfl) _ _ 24 (by rfl) (w.heap.size + 1) 146 i0 (.agg #[.string ⟨#[]⟩, .int .i64 0, .int .i64 0]) 3 32 Try.underlying24 hi hz0 hz1 hz2 (by rfl) (by decide) (.slice A2 N c2) N (rv (gs ++ (hs.take k).map (raiseR gs.length))) (by rfl) (World.ownsRow.alloc HO7.out _) ⟨w7.heap.size, 0, none⟩ 1 1 (rc X) (by rfl) (by rfl) HNW.out (rc_cell _) (by decide) (by unfold maxLen; omega) (by omega) (by simp; omega) (w7.heap.size + 1) (by simp) ?_
               intro g8 c8 w8 hown' hgrow _ _
               obtain ⟨hk8, hp9⟩ := jst_grown (x := X) (show w.heap.size ≤ w.heap.size + 1 by omega) (show w.heap.size ≤ V by omega) (show w.heap.size ≠ V by omega) HP7.out (by rw [← HN.out]; exact hown') hgrow
               obtain ⟨x8, y8⟩ := hk8.cell
               have HP9 := Lib.hid hp9
               have HB8 := Lib.hid ((HP7.out.2.2.2.1.alloc HP7.out.2.2.2.1.size _).grown hgrow (by have := HP7.out.2.2.2.1.size; simp; omega) (fun q hq => by have := (HP7.out.1.lt q (by rw [← HN.out] at *; exact hq)).1; omega))
               clear hown' hgrow hk8 hp9)))
          all_goals
            go_wp2_with fail
            go_roundw
            case rel =>
              refine ⟨k + 1, .slice (some ⟨g8, 0, none⟩) (N + 1) c8, by omega, by go_num, ?_⟩
              rw [HTK.out, ← List.append_assoc]
              exact HP9.out
            case measure => (first | (simp [intOf]; done) | (simp [intOf]; omega))
        · obtain rfl : k = hs.length := by omega
          rw [List.take_of_length_le (Nat.le_refl _)] at hps hN
          have HSA := Lib.hid (fun (w' : World) (hb : Below w.heap.size w w') => (hb.cell (p := ⟨q, 0, none⟩) HQ.out).trans HU.out)
          have HP6 := Lib.hid (jst_kept hps (Below.refl _ wo).drew)
          have s0 := HSA.out wo.drew HP6.out.2.2.2.1
          obtain ⟨z0, z1⟩ := HP6.out.2.1.cell
          obtain ⟨X, hX⟩ : ∃ X : Rl, X = ⟨⟨#[]⟩, (gs.length : Int) - 1, (gs.length : Int) + hs.length - 1⟩ := ⟨_, rfl⟩
          have HXP := Lib.hid (show X = pairR (gs.length - 1) (gs.length + hs.length - 1) from by rw [hX]; unfold pairR; congr 1 <;> omega)
          have HXC := Lib.hid (show rc X = [.string ⟨#[]⟩, .int .i64 ((gs.length : Int) - 1), .int .i64 ((gs.length : Int) + hs.length - 1)] from by rw [hX]; rfl)
          have hnw := news3 wo.drew X 146
          rw [hX] at hnw
          have HNW := Lib.hid hnw
          have HN := Lib.hid hN
          have hbs : w.heap.size + 1 ≤ wo.heap.size := hps.2.2.2.2
          have hO6 := HP6.out.1
          rw [← HN.out] at hO6
          have HO6 := Lib.hid hO6
          have hw1 : IntKind.i64.wrap ((gs.length : Int) - 1) = (gs.length : Int) - 1 := by rw [IntKind.wrap_i64]; omega
          have hw2 : IntKind.i64.wrap ((gs.length : Int) + hs.length) = (gs.length : Int) + hs.length := by rw [IntKind.wrap_i64]; omega
          have hw3 : IntKind.i64.wrap ((gs.length : Int) + hs.length - 1) = (gs.length : Int) + hs.length - 1 := by rw [IntKind.wrap_i64]; omega
          have HA6 := Lib.hid (fun o => (jst_kept HP6.out ((Below.refl _ _).alloc (Nat.le_refl _) o)).2.2.2.1)
          have za6 := fun o => (jst_kept HP6.out ((Below.refl _ _).alloc (Nat.le_refl _) o)).2.1.cell.1
          have za6d : ∀ o, (wo.alloc o).drew.cell? ⟨V, 0, none⟩ = some (.slice A2 N c2) := fun o => za6 o
          clear hps hX hnw hN hNk hO6 hlt
          go_wp2_with fail
          go_region_law ((first
            | (refine step_append_lies _ (by rfl) _ _ 24 (by rfl) (w.heap.size + 1) 146 i0 (.agg #[.string ⟨#[]⟩, .int .i64 0, .int .i64 0]) 3 32 Try.underlying24 hi hz0 hz1 hz2 (by rfl) (by decide) (.slice A2 N c2) N (rv (gs ++ hs.map (raiseR gs.length))) (by rfl) (World.ownsRow.alloc HO6.out _) ⟨wo.heap.size, 0, none⟩ 1 1 (rc X) (by rfl) (by rfl) (by rw [HXC.out]; exact HNW.out) (rc_cell _) (by decide) (by unfold maxLen; omega) (by omega) (by simp; omega) (wo.heap.size + 1) (by simp) ?_
               intro g8 c8 w8 hown' hgrow _ _
               obtain ⟨hk8, hp9⟩ := jst_grown (x := X) (show w.heap.size ≤ w.heap.size + 1 by omega) (show w.heap.size ≤ V by omega) (show w.heap.size ≠ V by omega) HP6.out (by rw [← HN.out]; exact hown') hgrow
               obtain ⟨x8, y8⟩ := hk8.cell
               have HP9 := Lib.hid hp9
               have HB8 := Lib.hid ((HP6.out.2.2.2.1.alloc HP6.out.2.2.2.1.size _).grown hgrow (by have := HP6.out.2.2.2.1.size; simp; omega) (fun q hq => by have := (HO6.out.lt q hq).1; omega))
               clear hown' hgrow hk8 hp9)))
          all_goals
            obtain ⟨x9, y9⟩ := HP9.out.2.1.cell
            obtain ⟨r9, t9⟩ := HP9.out.2.2.1.cell
            go_wp2_with fail
            refine bodyPost_ret (v := .agg #[.slice (some ⟨g8, 0, none⟩) (N + 1) c8]) (by simp [results, Try.results67, go_sem, r9]) rfl ⟨_, rfl, ?_, HP9.out.2.2.2.1.setCell (by simp) _⟩
            have hfin := HP9.out.1
            rw [HXP.out] at hfin
            exact own_lower (own_setLow hfin _ _ (by simp)) (by omega)
end Go.Proofs.Ytlgpleeanmeenaa
namespace Go.Proofs.Ytlgpleeanmeenaa
open Go.RowKit
open Wd
set_option linter.unusedVariables false
theorem var_setR {w : World} {V : Nat} {a b : Value} {t : TypeId} (h : Var w V a t) : Var (w.setCell ⟨V, 0, none⟩ b) V b t := by
  unfold Var at h ⊢
  simp [World.setCell, Array.getElem?_modify, h]
/-- the cells of the runs, below the variable -/
def CK (A : Option Addr) (rs : List Ru) (V : Nat) (w : World) : Prop :=
  ∀ k (h : k < rs.length), ∃ gf, A = some ⟨gf, 0, none⟩ ∧ gf < V ∧ w.cell? ⟨gf, k * 2, none⟩ = some (.string rs[k].L) ∧ w.cell? ⟨gf, k * 2 + 1, none⟩ = some (.int .i64 rs[k].l)
theorem CK.kept {A : Option Addr} {rs : List Ru} {V : Nat} {w w' : World} (h : CK A rs V w) (hb : Below w.heap.size w w') : CK A rs V w' := fun k hk => by
  obtain ⟨gf, h1, h2, h3, h4⟩ := h k hk
  exact ⟨gf, h1, h2, (hb.cell (p := ⟨gf, k * 2, none⟩) (lt_of_cell h3)).trans h3, (hb.cell (p := ⟨gf, k * 2 + 1, none⟩) (lt_of_cell h4)).trans h4⟩
theorem CK.set {A : Option Addr} {rs : List Ru} {V : Nat} {w : World} (h : CK A rs V w) {Q : Nat} (hQ : V ≤ Q) (u : Value) : CK A rs V (w.setCell ⟨Q, 0, none⟩ u) := fun k hk => by
  obtain ⟨gf, h1, h2, h3, h4⟩ := h k hk
  have hn : gf ≠ Q := by omega
  exact ⟨gf, h1, h2, cell_far1 h3 hn, cell_far1 h4 hn⟩
/-- between two runs -/
def RgRel (A : Option Addr) (rs : List Ru) (w : World) (V : Nat) (ans : List Rl × Int) (i : Value) (wr : World) : Prop :=
  ∃ (k : Nat) (g : List Rl) (yv : Value), k ≤ rs.length ∧ i = .int .i64 k ∧ gOk g = true ∧ rgInv rs k g ∧ jpF (rgPc rs) (rs.length - k) k g = ans ∧ JSt w (V + 1) V w.heap.size g yv wr ∧ CK A rs V wr
set_option maxRecDepth 100000 in
set_option maxHeartbeats 12800000 in
theorem specRunsGrammar_by (s : ByteArray) (w : World) (hs : s.size ≤ maxLen)
    (hpl : ∀ (s : ByteArray) W, okL s.data.toList = true → Calls Try.prog 65 #[.string s] W fun e w' => ∃ y, e = .returned (.agg #[y]) ∧ OwnsR w' W.heap.size y (plainG s.data.toList) ∧ Below W.heap.size W w') :
    Calls Try.prog 36 #[.string s] w fun e w' => ∃ y, e = .returned (.tuple #[.agg #[y], .int .i64 (gramRunsGrammar s).2]) ∧ OwnsR w' w.heap.size y (gramRunsGrammar s).1 ∧ Below w.heap.size w w' := by
  have hb2 : Below w.heap.size w (w.alloc (.cells #[.slice none 0 0] 26)) := (Below.refl _ w).alloc (Nat.le_refl _) _
  have hv := Var.new w (.slice none 0 0) 26
  have HB := Lib.hid hb2
  have HV := Lib.hid hv
  have HOK := Lib.hid (specOk s (w.alloc (.cells #[.slice none 0 0] 26)) hs)
  unfold gramRunsGrammar
  cases hok : okL s.data.toList
  · rw [hok] at HOK
    rw [if_neg (by decide)]
    obtain ⟨x0, x1⟩ := hv.cell
    clear hb2 hv hok hpl
    go_enter Try.func36, Try.ntmps36
    go_wp2_with fail
    refine HOK.out.mono ?_
    rintro e w1 ⟨rfl, rfl⟩
    go_wp2_with fail
    refine bodyPost_ret (v := .tuple #[.agg #[.slice none 0 0], .int .i64 1]) (by simp [results, Try.results36, go_sem, x0]) rfl ⟨_, rfl, World.ownsRow_nil _ _ _ _, HB.out⟩
  · rw [hok] at HOK
    rw [if_pos rfl]
    have hs2 : s.size ≤ 2000 := by
      rcases Nat.lt_or_ge 2000 s.size with h | h
      · rw [okL_long (by simpa using h)] at hok; cases hok
      · exact h
    have HR := Lib.hid (l01Runs_any s (w.alloc (.cells #[.slice none 0 0] 26)) hs2)
    have hfit := rs_fit hok
    generalize rsK s.data.toList s.size = rs at *
    have HF := Lib.hid hfit
    have hn := hfit.len
    obtain ⟨ans, hans⟩ : ∃ ans, ans = jpF (rgPc rs) rs.length 0 [] := ⟨_, rfl⟩
    rw [← hans]
    have HAN := Lib.hid hans.symm
    have HPL := Lib.hid hpl
    clear hb2 hv hok hpl hans hfit
    go_enter Try.func36, Try.ntmps36
    go_wp2_with fail
    refine HOK.out.mono ?_
    rintro e w1 ⟨rfl, rfl⟩
    go_wp2_with fail
    refine HR.out.mono ?_
    rintro e w2 ⟨y, rfl, ho, hB1⟩
    obtain ⟨A, c, rfl⟩ := own_slice ho
    have HVa := Lib.hid (HV.out.kept hB1)
    have HB1 := Lib.hid (HB.out.trans (hB1.mono HB.out.size))
    have hs1 : w.heap.size < w2.heap.size := HVa.out.lt
    have hb3 := (Below.refl _ w2).alloc (Nat.le_refl _) (.cells #[.slice none 0 0] 26)
    have hck : CK A rs w2.heap.size w2 := fun k hk => by
      obtain ⟨A', c', e1, hrr⟩ := Runs.of_own ho
      injection e1 with e1 _ e2
      subst e1
      rcases hrr with h | ⟨gf, rfl, hgl, hcc⟩
      · rw [h] at hk; simp at hk
      obtain ⟨a0, a1⟩ := runs_cells hcc hk
      exact ⟨gf, rfl, hgl, a0, a1⟩
    have HST : Hid (RgRel A rs w w2.heap.size ans (.int .i64 0) (w2.alloc (.cells #[.slice none 0 0] 26))) := Lib.hid
      ⟨0, [], .slice none 0 0, Nat.zero_le _, rfl, gOk_nil, rg_start HF.out, HAN.out, ⟨World.ownsRow_nil _ _ _ _, Var.new _ _ _, HVa.out.kept hb3, HB1.out.trans (hb3.mono HB1.out.size), by simp⟩, hck.kept hb3⟩
    clear hB1 hb3 ho hck
    go_wp2_with fail
    obtain ⟨V, hV⟩ : ∃ V, V = w2.heap.size := ⟨_, rfl⟩
    rw [← hV] at HST ⊢
    have hVw : w.heap.size < V := by omega
    generalize w2.alloc (.cells #[.slice none 0 0] 26) = wz at *
    clear hV hs1
    go_loopw [6, 7, 8] (fun i _ _ wr => RgRel A rs w V ans i wr) (fun i _ _ _ => rs.length - (intOf i).toNat)
    case atStart => exact HST.out
    case round =>
      obtain ⟨k, g, yv, hk, rfl, hok, hin, hans, hjs, hckr⟩ := hrel
      obtain ⟨wo, rfl⟩ : ∃ wo : World, wo = wr := ⟨_, rfl⟩
      obtain ⟨Ag, cg, rfl⟩ := own_slice hjs.1
      obtain ⟨g0, g1⟩ := hjs.2.1.cell
      obtain ⟨r0, r1⟩ := hjs.2.2.1.cell
      have HJ := Lib.hid hjs
      have HCK := Lib.hid hckr
      have hsz : V + 1 ≤ wo.heap.size := hjs.2.2.2.2
      by_cases hlt : k < rs.length
      · obtain ⟨gf, rfl, hgV, b0, b1⟩ := hckr k hlt
        obtain ⟨m, hm⟩ : ∃ m, rs.length - k = m + 1 := ⟨rs.length - k - 1, by omega⟩
        rw [hm, jpF] at hans
        have k0 : (0 : Int) ≤ (k : Int) := by omega
        have k1 : (k : Int) < (rs.length : Int) := by omega
        have he := rg_pc g hlt
        obtain ⟨l1, l2⟩ := HF.out.one k hlt
        obtain ⟨n1, n2⟩ := HF.out.cnt k hlt
        have hone := gOk_letter l1 l2
        have hgo := rg_gOk HF.out (g := g) hlt
        have HJO := Lib.hid (rg_join HF.out hlt hok hin)
        have HNX := Lib.hid (rg_next HF.out hlt hok hin)
        rw [he] at hans hgo HJO HNX
        simp only at hans hgo HJO HNX
        rw [if_pos trivial] at hans
        have hP := fun W => HPL.out rs[k].L W l2
        rw [plain_one l1 l2] at hP
        have HNL := Lib.hid (gOk_len hgo.1)
        have HNF := Lib.hid (gOk_iff.1 hgo.1).2.1
        have hpw : ∀ v W, Rules W v [⟨rs[k].L, 0, 0⟩] → Calls Try.prog 96 #[.agg #[v], .int .i64 rs[k].l] W fun e w' => ∃ y, e = .returned (.tuple #[.agg #[y], .int .i64 0]) ∧ OwnsR w' W.heap.size y (powG [⟨rs[k].L, 0, 0⟩] rs[k].l.toNat) ∧ Below W.heap.size W w' := fun v W hv => by
          have h3 := specPower_ok v [⟨rs[k].L, 0, 0⟩] rs[k].l.toNat W (few_ok hone) hv hone (by omega) (by omega) (by simp)
          have h5 : limC (powG [⟨rs[k].L, 0, 0⟩] rs[k].l.toNat) = 0 := by unfold limC; rw [if_pos hgo.1]
          have h6 : limG (powG [⟨rs[k].L, 0, 0⟩] rs[k].l.toNat) = powG [⟨rs[k].L, 0, 0⟩] rs[k].l.toNat := by unfold limG; rw [if_pos hgo.1]
          rw [h5, h6, Int.toNat_of_nonneg (by omega)] at h3
          exact h3
        generalize powG [⟨rs[k].L, 0, 0⟩] rs[k].l.toNat = nx at *
        generalize rs[k].L = L at *
        generalize rs[k].l = xl at *
        generalize [(⟨L, 0, 0⟩ : Rl)] = one at *
        have HP := Lib.hid hP
        have HPW := Lib.hid hpw
        have HPn := Lib.hid (hP wo.drew)
        have HPa := Lib.hid (hP ((wo.alloc (.cells #[.slice none 0 0] 26)).drew))
        have HBA := Lib.hid ((Below.refl _ wo).alloc (Nat.le_refl _) (.cells #[.slice none 0 0] 26)).drew
        have HVA : Hid (Var ((wo.alloc (.cells #[.slice none 0 0] 26)).drew) wo.heap.size (.slice none 0 0) 26) := Lib.hid (Var.new wo (.slice none 0 0) 26)
        have HX := Lib.hid (fun W (h : Below wo.heap.size wo W) => And.intro ((h.cell (p := ⟨gf, k * 2, none⟩) (lt_of_cell b0)).trans b0) ((h.cell (p := ⟨gf, k * 2 + 1, none⟩) (lt_of_cell b1)).trans b1))
        clear hjs hckr hP hpw hgo he l1 l2 n1 n2 hone
        go_wp2_with fail
        go_region_held3 (fun w' => w'.cell? ⟨gf, k * 2, none⟩ = some (.string L) ∧ w'.cell? ⟨gf, k * 2 + 1, none⟩ = some (.int .i64 xl))
          (first | with_reducible exact HX.out _ HB3.out | with_reducible exact HX.out _ (HB3.out.trans (((Below.refl _ w3).alloc (Nat.le_refl _) _).mono HB3.out.size)) | with_reducible exact HX.out _ (HB3.out.setCell (p := ⟨wo.heap.size, 0, none⟩) (Nat.le_refl _) _) | with_reducible exact HX.out _ (HB3.out.setCell (p := ⟨w2.heap.size, 0, none⟩) HB2.out.size _) | with_reducible exact HX.out _ HB2.out | with_reducible exact HX.out _ HBA.out | go_keep)
          (first
            | (go_at_call 65; refine (HPn.out).mono ?_; rintro e w2 ⟨y2, rfl, ho2, hB2⟩; obtain ⟨A2, c2, rfl⟩ := own_slice ho2; have HB2 : Hid (Below wo.heap.size wo w2) := Lib.hid ((Below.refl _ wo).drew.trans hB2); have HR2 := Lib.hid (Rules.of_own ho2); have HV2 : Hid True := Lib.hid trivial; clear ho2 hB2)
            | (go_at_call 65; refine (HPa.out).mono ?_; rintro e w2 ⟨y2, rfl, ho2, hB2⟩; obtain ⟨A2, c2, rfl⟩ := own_slice ho2; have HB2 : Hid (Below wo.heap.size wo w2) := Lib.hid (HBA.out.trans (hB2.mono HBA.out.size)); have HR2 := Lib.hid (Rules.of_own ho2); have HVa2 := Lib.hid (HVA.out.kept hB2); clear ho2 hB2)
            | (go_at_call 96; have HVb2 := HVa2; refine (HPW.out _ w2 HR2.out).mono ?_; rintro e w3 ⟨y3, rfl, ho3, hB3⟩; obtain ⟨A3, c3, rfl⟩ := own_slice ho3; have HB3 : Hid (Below wo.heap.size wo w3) := Lib.hid (HB2.out.trans (hB3.mono HB2.out.size)); have HO3 := Lib.hid ho3; have HVa3 := Lib.hid (HVa2.out.kept hB3); obtain ⟨n0', n1'⟩ := HVa3.out.cell; clear ho3 hB3 HVb2)
            | (go_at_call 96; refine (HPW.out _ w2 HR2.out).mono ?_; rintro e w3 ⟨y3, rfl, ho3, hB3⟩; obtain ⟨A3, c3, rfl⟩ := own_slice ho3; have HB3 : Hid (Below wo.heap.size wo w3) := Lib.hid (HB2.out.trans (hB3.mono HB2.out.size)); have HO3 := Lib.hid ho3; obtain ⟨n0', n1'⟩ := (Var.new w3 (.slice none 0 0) 26).cell; clear ho3 hB3)
            | (go_at_call 96; refine (HPW.out _ (w2.alloc (.cells #[.slice none 0 0] 26)) (HR2.out.kept ((Below.refl _ w2).alloc (Nat.le_refl _) _))).mono ?_; rintro e w3 ⟨y3, rfl, ho3, hB3⟩; obtain ⟨A3, c3, rfl⟩ := own_slice ho3; have HB3 : Hid (Below wo.heap.size wo w3) := Lib.hid (HB2.out.trans (((Below.refl _ w2).alloc (Nat.le_refl _) _).trans (hB3.mono (by simp)) |>.mono HB2.out.size)); have HVm3 := Lib.hid ((Var.new w2 (.slice none 0 0) 26).kept hB3); have HO3 := Lib.hid ho3; obtain ⟨n0', n1'⟩ := HVm3.out.cell; clear ho3 hB3))
        all_goals
          first
          | (have HV7 : Hid (Var (w3.setCell ⟨wo.heap.size, 0, none⟩ (.slice A3 nx.length c3)) wo.heap.size (.slice A3 nx.length c3) 26) := Lib.hid (var_setR HVa3.out)
             have HB7 := Lib.hid (HB3.out.setCell (p := ⟨wo.heap.size, 0, none⟩) (Nat.le_refl _) (.slice A3 nx.length c3))
             have HR3 := Lib.hid (Rules.of_own (own_setLow HO3.out ⟨wo.heap.size, 0, none⟩ (.slice A3 nx.length c3) (show wo.heap.size < w2.heap.size from HVa2.out.lt)))
             have hVQ : V < wo.heap.size := hsz
             obtain ⟨Qb, hQb⟩ : ∃ Qb, Qb = wo.heap.size := ⟨_, rfl⟩
             have hwq : wo.heap.size ≤ Qb := by omega
             generalize w3.setCell ⟨wo.heap.size, 0, none⟩ (.slice A3 nx.length c3) = w7 at *
             rw [← hQb] at HV7 hVQ ⊢)
          | (have HV7 : Hid (Var (w3.setCell ⟨w2.heap.size, 0, none⟩ (.slice A3 nx.length c3)) w2.heap.size (.slice A3 nx.length c3) 26) := Lib.hid (var_setR HVm3.out)
             have HB7 := Lib.hid (HB3.out.setCell (p := ⟨w2.heap.size, 0, none⟩) HB2.out.size (.slice A3 nx.length c3))
             have HR3 := Lib.hid (Rules.of_own (own_setLow HO3.out ⟨w2.heap.size, 0, none⟩ (.slice A3 nx.length c3) (by show w2.heap.size < (w2.alloc _).heap.size; simp)))
             have hVQ : V < w2.heap.size := by have := HB2.out.size; omega
             obtain ⟨Qb, hQb⟩ : ∃ Qb, Qb = w2.heap.size := ⟨_, rfl⟩
             generalize w3.setCell ⟨w2.heap.size, 0, none⟩ (.slice A3 nx.length c3) = w7 at *
             rw [← hQb] at HV7 hVQ ⊢)
          | (have HV7 : Hid (Var (w3.alloc (.cells #[.slice A3 nx.length c3] 26)) w3.heap.size (.slice A3 nx.length c3) 26) := Lib.hid (Var.new w3 (.slice A3 nx.length c3) 26)
             have hb3 := (Below.refl _ w3).alloc (Nat.le_refl _) (.cells #[.slice A3 nx.length c3] 26)
             have HB7 := Lib.hid (HB3.out.trans (hb3.mono HB3.out.size))
             have HR3 := Lib.hid ((Rules.of_own HO3.out).kept hb3)
             have hVQ : V < w3.heap.size := by have := HB3.out.size; omega
             clear hb3
             obtain ⟨Qb, hQb⟩ : ∃ Qb, Qb = w3.heap.size := ⟨_, rfl⟩
             generalize w3.alloc (.cells #[.slice A3 nx.length c3] 26) = w7 at *
             rw [← hQb] at HV7 hVQ ⊢)
          clear hQb
          have q3 := HV7.out.cell.1
          have HJ3 := Lib.hid (jst_kept HJ.out HB7.out)
          have HCK3 := Lib.hid (HCK.out.kept HB7.out)
          go_wp2_with fail
          have g3 := HJ3.out.2.1.cell.1
          have HJN := Lib.hid (join_any V Qb g nx w7 (gOk_len hok) HNL.out HNF.out ⟨_, g3, Rules.of_own HJ3.out.1⟩ ⟨_, q3, HR3.out⟩)
          by_cases hbig : (joinG g nx).length ≤ 400
          · have hjo : gOk (joinG g nx) = true := by rw [HJO.out]; exact decide_eq_true hbig
            rw [if_pos hjo] at hans
            have htk := (trim_ok hjo).1
            have hI := HNX.out hjo
            have HANS : Hid (jpF (rgPc rs) (rs.length - (k + 1)) (k + 1) (trimG (joinG g nx)) = ans) := Lib.hid (by rw [show rs.length - (k + 1) = m from by omega]; exact hans)
            have HTR := Lib.hid (fun W (h : GP W V (joinG g nx)) => l02Trim_any V (joinG g nx) W (by omega) (gOk_iff.1 hjo).2.1 h)
            have HK := Lib.hid (And.intro htk hI)
            have hbd : ¬ (400 : Int) < ((joinG g nx).length : Int) := by omega
            generalize trimG (joinG g nx) = tr at *
            generalize joinG g nx = jn at *
            clear hans hjo htk hI hbig
            refine HJN.out.mono ?_
            rintro e w4 ⟨y4, rfl, ho4, hB4⟩
            obtain ⟨A4, c4, rfl⟩ := own_slice ho4
            have hj4 := jst_kept HJ3.out hB4
            have hck4 := HCK3.out.kept hB4
            obtain ⟨v0, v1⟩ := hj4.2.1.cell
            obtain ⟨j1, j2, j3, j4, j5⟩ := hj4
            have hv5 := var_setR (b := .slice A4 jn.length c4) j2
            have HG5 : Hid (GP (w4.setCell ⟨V, 0, none⟩ (.slice A4 jn.length c4)) V jn) := Lib.hid ⟨_, hv5.cell.1, Rules.of_own (World.ownsRow.kept ho4 (only_setCell (World.grownBy.refl w4 (some V)) (p := ⟨V, 0, none⟩) (.inl rfl) _) (.inr (own_var_ne ho4 j2 (by decide))))⟩
            have HV5 := Lib.hid hv5
            have HCK5 := Lib.hid (hck4.set (Nat.le_refl V) (.slice A4 jn.length c4))
            have u5 := hv5.cell.1
            have HR5 := Lib.hid (j3.far ⟨V, 0, none⟩ (.slice A4 jn.length c4) (by simp only; omega))
            have HB5 := Lib.hid (j4.setCell (p := ⟨V, 0, none⟩) (by simp only; omega) (.slice A4 jn.length c4))
            have hs5 : V + 1 ≤ (w4.setCell ⟨V, 0, none⟩ (.slice A4 jn.length c4)).heap.size := by simp [World.setCell]; exact j5
            clear ho4 hB4 j1 j2 j3 j4 j5 hv5 hck4
            go_wp2_with fail
            generalize w4.setCell ⟨V, 0, none⟩ (.slice A4 jn.length c4) = w5 at *
            refine (HTR.out _ HG5.out).mono ?_
            rintro e w6 ⟨y6, rfl, ho6, hB6⟩
            obtain ⟨A6, c6, rfl⟩ := own_slice ho6
            have hv6 := HV5.out.kept hB6
            obtain ⟨x0, x1⟩ := hv6.cell
            have HST2 : Hid (RgRel (some ⟨gf, 0, none⟩) rs w V ans (.int .i64 ((k + 1 : Nat) : Int)) (w6.setCell ⟨V, 0, none⟩ (.slice A6 tr.length c6))) := Lib.hid
              ⟨k + 1, tr, .slice A6 tr.length c6, by omega, rfl, HK.out.1, HK.out.2, HANS.out, ⟨own_setLow (own_lower ho6 (by omega)) _ _ (by simp only; omega), var_setR hv6, (HR5.out.kept hB6).far _ _ (by simp only; omega), (HB5.out.trans (hB6.mono (by omega))).setCell (by simp only; omega) _, by have := hB6.size; simp [World.setCell]; omega⟩, (HCK5.out.kept hB6).set (Nat.le_refl V) _⟩
            clear hv6 ho6 hB6
            go_wp2_with fail
            go_roundw
            all_goals first | exact HST2.out | ((repeat apply Exists.intro); exact ⟨HST2.out, rfl⟩) | (simp [intOf]; done) | (simp [intOf]; omega) | omega
          · have hjo : ¬ gOk (joinG g nx) = true := by rw [HJO.out]; simp; omega
            rw [if_neg hjo] at hans
            subst hans
            have hbd : (400 : Int) < ((joinG g nx).length : Int) := by omega
            generalize joinG g nx = jn at *
            clear hjo hbig
            refine HJN.out.mono ?_
            rintro e w4 ⟨y4, rfl, ho4, hB4⟩
            obtain ⟨A4, c4, rfl⟩ := own_slice ho4
            have hj4 := jst_kept HJ3.out hB4
            have hck4 := HCK3.out.kept hB4
            obtain ⟨v0, v1⟩ := hj4.2.1.cell
            obtain ⟨j1, j2, j3, j4, j5⟩ := hj4
            have u5 := (var_setR (b := .slice A4 jn.length c4) j2).cell.1
            obtain ⟨x0, x1⟩ := (j3.far ⟨V, 0, none⟩ (.slice A4 jn.length c4) (by simp only; omega)).cell
            have HB5 := Lib.hid (j4.setCell (p := ⟨V, 0, none⟩) (by simp only; omega) (.slice A4 jn.length c4))
            clear ho4 hB4 j1 j2 j3 j4 j5
            go_wp2_with fail
            refine bodyPost_ret (v := .tuple #[.agg #[.slice none 0 0], .int .i64 3]) (by simp [results, Try.results36, go_sem, x0]) rfl ⟨_, rfl, World.ownsRow_nil _ _ _ _, HB5.out.setCell (by simp) _⟩
      · obtain rfl : k = rs.length := by omega
        rw [Nat.sub_self, jpF] at hans
        subst hans
        clear hjs
        go_wp2_with fail
        refine bodyPost_ret (v := .tuple #[.agg #[.slice Ag g.length cg], .int .i64 0]) (by simp [results, Try.results36, go_sem, r0]) rfl ⟨_, rfl, ?_, HJ.out.2.2.2.1.setCell (by simp) _⟩
        exact own_lower (own_setLow HJ.out.1 _ _ (by simp only; omega)) (by omega)
end Go.Proofs.Ytlgpleeanmeenaa
