/-
  Walk: impl.groupsOf over bytes.
-/
import Derived.Test.YtlgpleeanmeenaaRsM
import Derived.OwnWalk
import Derived.Deep.QuietTactic
import Derived.BigQuiet
namespace Go.Proofs.Ytlgpleeanmeenaa
open Go.RowKit
open Wd
set_option linter.unusedVariables false
theorem Try.info_bytes : (Try.prog.info? 69).map (fun i => (i.zero, i.size, i.bytes)) = some (some (.slice none 0 0), 1, 24) := by kernel_rfl
/-- a part of the bytes, as a slice -/
def gpV (B c : Nat) (p : Nat × Nat) : Value := .slice (some ⟨B, p.1, none⟩) (p.2 - p.1) (c - p.1)
theorem one_gp (B c : Nat) (p : Nat × Nat) : ∀ u ∈ [gpV B c p], u.oneCell' = true := by intro u hu; simp at hu; subst hu; rfl
/-- all parts are there -/
def GFin (l : List UInt8) (G : List (Nat × Nat)) : Prop := rsK l l.length = G.map (runP l) ∧ (∀ p ∈ G, p.1 < p.2 ∧ p.2 ≤ l.length) ∧ G.length ≤ l.length
/-- between two places -/
def GpRel (l : List UInt8) (w : World) (B c : Nat) (v si ei : Value) (wr : World) : Prop :=
  ∃ (e s : Nat) (G : List (Nat × Nat)), ei = .int .i64 e ∧ si = .int .i64 s ∧ 1 ≤ e ∧ e ≤ l.length + 1 ∧ (GInv l e s G ∨ (e = l.length + 1 ∧ GFin l G)) ∧ wr.ownsRow w.heap.size 69 1 v G.length (G.map (gpV B c)) ∧ Below w.heap.size w wr
set_option maxRecDepth 100000 in
set_option maxHeartbeats 6400000 in
theorem groupsOf_any (l : List UInt8) (B c : Nat) (w : World) (hl : l.length ≤ 2000) (hc : l.length ≤ c) (hcm : c ≤ maxLen) (hB : B < w.heap.size) (hcell : ∀ j (hj : j < l.length), w.cell? ⟨B, j, none⟩ = some (.int .u8 l[j].toNat)) :
    Calls Try.prog 86 #[.slice (some ⟨B, 0, none⟩) l.length c] w fun e w' => ∃ (y : Value) (G : List (Nat × Nat)), e = .returned y ∧ w'.ownsRow w.heap.size 69 1 y G.length (G.map (gpV B c)) ∧ GFin l G ∧ Below w.heap.size w w' := by
  obtain ⟨i0, hi, hz0, hz1, hz2⟩ := info_parts Try.info_bytes
  unfold maxLen at hcm
  have HC := Lib.hid hcell
  obtain ⟨n, hn⟩ : ∃ n, n = l.length := ⟨_, rfl⟩
  rw [← hn] at hl hc ⊢
  have HN := Lib.hid hn
  have HST : Hid (GpRel l w B c (.slice (some ⟨w.heap.size, 0, none⟩) 0 0) (.int .i64 0) (.int .i64 1) (w.alloc (.cells #[] 69))) := Lib.hid (by
    refine ⟨1, 0, [], rfl, rfl, by omega, by omega, ?_, World.ownsRow_lit w #[] 0 (Nat.le_refl _) (by decide) rfl, (Below.refl _ _).alloc (Nat.le_refl _) _⟩
    rcases Nat.eq_zero_or_pos l.length with h | h
    · refine .inr ⟨by omega, ?_, by simp, by simp⟩
      rw [h]; rfl
    · exact .inl (GInv.start h))
  clear hcell hn
  go_enter Try.func86, Try.ntmps86
  go_wp2
  go_loopw [3, 4, 5] (fun v si ei wr => GpRel l w B c v si ei wr) (fun _ _ ei _ => n + 1 - (intOf ei).toNat)
  case atStart => exact HST.out
  case round =>
    obtain ⟨e, s, G, rfl, rfl, h1, h2, hinv, hown, hB1⟩ := hrel
    obtain ⟨wo, rfl⟩ : ∃ wo : World, wo = wr := ⟨_, rfl⟩
    rw [← HN.out] at h2
    by_cases hle : e ≤ n
    · have hg : GInv l e s G := by
        rcases hinv with h | ⟨h, _⟩
        · exact h
        · have := HN.out; omega
      have hsl : s < e := hg.1
      have hGl : G.length ≤ s := hg.2.2.2.2.2
      have hsz := hB1.size
      clear hinv
      by_cases hen : e = n
      · have HFN : Hid (GFin l (G ++ [(s, e)])) := Lib.hid (by
          have h9 : GInv l l.length s G := by rw [← HN.out, ← hen]; exact hg
          rw [hen, HN.out]
          exact h9.last)
        have HEN := Lib.hid hen
        have hne1 : ((e : Int) == (n : Int)) = true := by simp; omega
        have hne2 : (e == n) = true := by simpa using hen
        clear hg hen
        go_wp2_with fail
        go_quiet (fail)
        have hown5 : (wo.drewN nq).ownsRow w.heap.size 69 1 _ G.length (G.map (gpV B c)) := hown
        have hB5 := below_drewN hB1 nq
        clear hown hB1 hne1 hne2
        generalize wo.drewN nq = w5 at *
        have HNW := Lib.hid (one_new w5 (gpV B c (s, e)) 69)
        have hb5 := hB5.size
        have HO5 := Lib.hid hown5
        have HB5 := Lib.hid hB5
        obtain ⟨A5, c5, rfl⟩ := own_slice hown5
        have hs0 : (0 : Int) ≤ (s : Int) := by omega
        have hs1 : (s : Int) ≤ (e : Int) := by omega
        have hs2 : (e : Int) ≤ (n : Int) := by omega
        have hs3 : (n : Int) ≤ (c : Int) := by omega
        obtain ⟨q, hq⟩ : ∃ q, q = G.length := ⟨_, rfl⟩
        rw [← hq] at HO5 ⊢
        have HQ := Lib.hid hq
        have hqs : q ≤ 2000 := by omega
        clear hown5 hB5 hq hGl
        go_wp2_with (first | (at_builtin; refine wpList_append_own _ rfl _ _ 110 rfl w.heap.size 69 i0 (.slice none 0 0) 1 24 Try.underlying110 hi hz0 hz1 hz2 rfl (by decide) _ _ _ rfl (World.ownsRow.alloc HO5.out _) ⟨w5.heap.size, 0, none⟩ 1 1 [gpV B c (s, e)] rfl rfl HNW.out (one_gp B c (s, e)) (by unfold maxLen; omega) (by omega) (by simp; omega) ?_))
        intro v8 w8 hown8 hgrow _
        have HB8 : Hid (Below w.heap.size w w8) := Lib.hid ((HB5.out.alloc hb5 _).grown hgrow (by simp; omega) (fun q hq => (HO5.out.lt q hq).1))
        have HO8 : Hid (w8.ownsRow w.heap.size 69 1 v8 (G ++ [(s, e)]).length ((G ++ [(s, e)]).map (gpV B c))) := Lib.hid (by
          rw [List.map_append, List.length_append, ← HQ.out]
          exact hown8)
        have HNX : Hid (GpRel l w B c v8 (.int .i64 e) (.int .i64 ((e + 1 : Nat) : Int)) w8) := Lib.hid ⟨e + 1, e, G ++ [(s, e)], rfl, rfl, by omega, by have := HN.out; omega, .inr ⟨by rw [HEN.out, HN.out], HFN.out⟩, HO8.out, HB8.out⟩
        clear hown8 hgrow
        go_wp2_with fail
        go_roundw
        all_goals first | exact HNX.out | ((repeat apply Exists.intro); exact ⟨HNX.out, rfl⟩) | (have := HNX.out; simpa using this) | (simp [intOf]; done) | (simp [intOf]; omega) | omega
      · have hel : e < l.length := by have := HN.out; omega
        have hsl2 : s < l.length := by omega
        have a0 := (hB1.cell (p := ⟨B, e, none⟩) hB).trans (HC.out e hel)
        have b0 := (hB1.cell (p := ⟨B, s, none⟩) hB).trans (HC.out s hsl2)
        have hge : l.getD e 0 = l[e] := by rw [List.getD_eq_getElem?_getD, List.getElem?_eq_getElem hel, Option.getD_some]
        have hgs : l.getD s 0 = l[s] := by rw [List.getD_eq_getElem?_getD, List.getElem?_eq_getElem hsl2, Option.getD_some]
        have hne1 : ((e : Int) == (n : Int)) = false := by simp; omega
        have hne2 : (e == n) = false := by simpa using hen
        have he0 : (0 : Int) ≤ (e : Int) := by omega
        have he1 : (e : Int) < (n : Int) := by omega
        have hs00 : (0 : Int) ≤ (s : Int) := by omega
        have hs11 : (s : Int) < (n : Int) := by omega
        by_cases heq : l[e] = l[s]
        · have HGI := Lib.hid (hg.same hel (by rw [hge, hgs]; exact heq))
          have heq' : ((l[e].toNat : Int) != (l[s].toNat : Int)) = false := by rw [heq]; simp
          generalize l[e] = x at *
          generalize l[s] = y at *
          obtain ⟨A5, c5, rfl⟩ := own_slice hown
          have HO := Lib.hid hown
          have HB1 := Lib.hid hB1
          clear hg hge hgs heq hen hown hB1
          go_wp2_with fail
          go_quiet (fail)
          have HNX : Hid (GpRel l w B c (.slice A5 G.length c5) (.int .i64 s) (.int .i64 ((e + 1 : Nat) : Int)) (wo.drewN nq)) := Lib.hid ⟨e + 1, s, G, rfl, rfl, by omega, by have := HN.out; omega, .inl HGI.out, HO.out, below_drewN HB1.out nq⟩
          go_wp2_with fail
          go_roundw
          all_goals first | exact HNX.out | ((repeat apply Exists.intro); exact ⟨HNX.out, rfl⟩) | (have := HNX.out; simpa using this) | (simp [intOf]; done) | (simp [intOf]; omega) | omega
        · have HGI := Lib.hid (hg.cut hel (by rw [hge, hgs]; exact heq))
          have heq' : ((l[e].toNat : Int) != (l[s].toNat : Int)) = true := by
            rw [bne_iff_ne]
            intro h
            exact heq (UInt8.toNat_inj.1 (by omega))
          generalize l[e] = x at *
          generalize l[s] = y at *
          clear hg hge hgs heq hen
          go_wp2_with fail
          go_quiet (fail)
          have hown5 : (wo.drewN nq).ownsRow w.heap.size 69 1 _ G.length (G.map (gpV B c)) := hown
          have hB5 := below_drewN hB1 nq
          clear hown hB1 hne1 hne2 a0 b0 heq' he0 he1 hs00 hs11
          generalize wo.drewN nq = w5 at *
          have HNW := Lib.hid (one_new w5 (gpV B c (s, e)) 69)
          have hb5 := hB5.size
          have HO5 := Lib.hid hown5
          have HB5 := Lib.hid hB5
          obtain ⟨A5, c5, rfl⟩ := own_slice hown5
          have hs0 : (0 : Int) ≤ (s : Int) := by omega
          have hs1 : (s : Int) ≤ (e : Int) := by omega
          have hs2 : (e : Int) ≤ (n : Int) := by omega
          have hs3 : (n : Int) ≤ (c : Int) := by omega
          obtain ⟨q, hq⟩ : ∃ q, q = G.length := ⟨_, rfl⟩
          rw [← hq] at HO5 ⊢
          have HQ := Lib.hid hq
          have hqs : q ≤ 2000 := by omega
          clear hown5 hB5 hq hGl
          go_wp2_with (first | (at_builtin; refine wpList_append_own _ rfl _ _ 110 rfl w.heap.size 69 i0 (.slice none 0 0) 1 24 Try.underlying110 hi hz0 hz1 hz2 rfl (by decide) _ _ _ rfl (World.ownsRow.alloc HO5.out _) ⟨w5.heap.size, 0, none⟩ 1 1 [gpV B c (s, e)] rfl rfl HNW.out (one_gp B c (s, e)) (by unfold maxLen; omega) (by omega) (by simp; omega) ?_))
          intro v8 w8 hown8 hgrow _
          have HB8 : Hid (Below w.heap.size w w8) := Lib.hid ((HB5.out.alloc hb5 _).grown hgrow (by simp; omega) (fun q hq => (HO5.out.lt q hq).1))
          have HO8 : Hid (w8.ownsRow w.heap.size 69 1 v8 (G ++ [(s, e)]).length ((G ++ [(s, e)]).map (gpV B c))) := Lib.hid (by
            rw [List.map_append, List.length_append, ← HQ.out]
            exact hown8)
          have HNX : Hid (GpRel l w B c v8 (.int .i64 e) (.int .i64 ((e + 1 : Nat) : Int)) w8) := Lib.hid ⟨e + 1, e, G ++ [(s, e)], rfl, rfl, by omega, by have := HN.out; omega, .inl HGI.out, HO8.out, HB8.out⟩
          clear hown8 hgrow
          go_wp2_with fail
          go_roundw
          all_goals first | exact HNX.out | ((repeat apply Exists.intro); exact ⟨HNX.out, rfl⟩) | (have := HNX.out; simpa using this) | (simp [intOf]; done) | (simp [intOf]; omega) | omega
    · have hfin : GFin l G := by
        rcases hinv with h | ⟨_, h⟩
        · have := h.2.1; have := HN.out; omega
        · exact h
      obtain ⟨A5, c5, rfl⟩ := own_slice hown
      have HO := Lib.hid hown
      have HB1 := Lib.hid hB1
      have HFN := Lib.hid hfin
      clear hinv hown hB1 hfin
      go_wp2_with fail
      go_ret
      exact ⟨_, G, rfl, HO.out, HFN.out, HB1.out⟩
end Go.Proofs.Ytlgpleeanmeenaa
