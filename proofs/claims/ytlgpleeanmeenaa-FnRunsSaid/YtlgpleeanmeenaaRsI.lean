/-
  Walk: impl.RunsOf.
-/
import Derived.Test.YtlgpleeanmeenaaRsG
import Derived.Test.YtlgpleeanmeenaaOk
import Derived.Test.YtlgpleeanmeenaaOwnK
import Derived.Deep.Cut
namespace Go.Proofs.Ytlgpleeanmeenaa
open Go.RowKit
open Wd
set_option linter.unusedVariables false
theorem own_blk_ne {w : World} {B e s n K : Nat} {v : Value} {xs : List Value} {cs : Array Value} {t : TypeId} {fr : Nat × Nat} (h : w.ownsRow B e s v n xs) (hb : w.heap[K]? = some (.cells cs t fr)) (hne : e ≠ t) : some K ≠ v.ownBlock := by
  rcases h.2 with ⟨rfl, _⟩ | ⟨g1, cap, cur, rfl, _, hg, _⟩
  · simp [Value.ownBlock]
  · intro e'
    have : K = g1 := by simpa [Value.ownBlock] using e'
    subst this
    rw [hg] at hb
    injection hb with h1
    injection h1 with _ h2
    exact hne h2
/-- between two groups -/
def RsRel (l : List UInt8) (G : List (Nat × Nat)) (w : World) (Lo B cap : Nat) (bs : Array Value) (fr : Nat × Nat) (gy v i : Value) (wr : World) : Prop :=
  ∃ k : Nat, k ≤ G.length ∧ i = .int .i64 k ∧ OwnsU wr w.heap.size v ((G.take k).map (runP l)) ∧ wr.ownsRow Lo 69 1 gy G.length (G.map (gpV B cap)) ∧ wr.heap[B]? = some (.cells bs 5 fr) ∧ Below w.heap.size w wr
set_option maxRecDepth 100000 in
set_option maxHeartbeats 6400000 in
theorem implRunsOf (s : ByteArray) (w : World) (hs : s.size ≤ maxLen) :
    Calls Try.prog 28 #[.string s] w fun e w' => ∃ y, e = .returned (.tuple #[y, .int .i64 (rsA s).2]) ∧ OwnsU w' w.heap.size y (rsA s).1 ∧ Below w.heap.size w w' := by
  have HOK := Lib.hid (implOk s w hs)
  unfold rsA
  cases hok : okL s.data.toList
  · rw [hok] at HOK
    rw [if_neg (by decide)]
    clear hok
    go_enter Try.func28, Try.ntmps28
    go_wp2_with fail
    refine HOK.out.mono ?_
    rintro e w1 ⟨rfl, rfl⟩
    go_wp2_with fail
    go_ret2
    exact ⟨_, rfl, World.ownsRow_nil _ _ _ _, Below.refl _ _⟩
  · have hs2 : s.size ≤ 2000 := by
      rcases Nat.lt_or_ge 2000 s.size with h | h
      · rw [okL_long (by simpa using h)] at hok; cases hok
      · exact h
    rw [hok] at HOK
    rw [if_pos rfl]
    obtain ⟨i0, hi, hz0, hz1, hz2⟩ := info_parts Try.info_run
    have hll : s.data.toList.length = s.size := by simp
    obtain ⟨l, hl⟩ : ∃ l, l = s.data.toList := ⟨_, rfl⟩
    have hB1 := (Below.refl _ w).alloc (Nat.le_refl _) (.cells #[] 73)
    have hO1 : OwnsU (w.alloc (.cells #[] 73)) w.heap.size (.slice (some ⟨w.heap.size, 0, none⟩) 0 0) [] := World.ownsRow_lit w #[] 0 (Nat.le_refl _) (by decide) rfl
    have hconv := run_bytes_of_string (P := Try.prog) (w.alloc (.cells #[] 73)) 9 69 5 s Try.underlying9 Try.underlying69 Try.underlying5
    have hcg := grownCap_ge (w.alloc (.cells #[] 73)) s.size 0 5
    have hcm := grownCap_le_maxLen (w.alloc (.cells #[] 73)) s.size 0 5 hs
    generalize grownCap (w.alloc (.cells #[] 73)) s.size 0 5 = cap at hconv hcg hcm
    obtain ⟨bs, hbs⟩ : ∃ bs, bs = bytesRow s cap := ⟨_, rfl⟩
    have hbat : ∀ j (hj : j < l.length), bs[j]? = some (.int .u8 l[j].toNat) := fun j hj => by
      subst hl
      rw [hbs]
      have := bytesRow_at s cap j (by simpa using hj)
      simpa using this
    rw [← hbs] at hconv
    have hb2 := hB1.drew.alloc hB1.size (.cells bs 5 (bs.size, bs.size + 1))
    have hO2 : OwnsU ((w.alloc (.cells #[] 73)).drew.alloc (.cells bs 5 (bs.size, bs.size + 1))) w.heap.size (.slice (some ⟨w.heap.size, 0, none⟩) 0 0) [] := World.ownsRow.alloc (show OwnsU (w.alloc (.cells #[] 73)).drew _ _ _ from hO1) _
    have hK2 : ((w.alloc (.cells #[] 73)).drew.alloc (.cells bs 5 (bs.size, bs.size + 1))).heap[w.heap.size + 1]? = some (.cells bs 5 (bs.size, bs.size + 1)) := by
      have := heap_alloc_new (w.alloc (.cells #[] 73)).drew (.cells bs 5 (bs.size, bs.size + 1))
      rw [show (w.alloc (.cells #[] 73)).drew.heap.size = w.heap.size + 1 from by show (w.alloc (.cells #[] 73)).heap.size = _; simp] at this
      exact this
    have hz2 : w.heap.size + 1 < ((w.alloc (.cells #[] 73)).drew.alloc (.cells bs 5 (bs.size, bs.size + 1))).heap.size := by
      rcases Nat.lt_or_ge (w.heap.size + 1) ((w.alloc (.cells #[] 73)).drew.alloc (.cells bs 5 (bs.size, bs.size + 1))).heap.size with h | h
      · exact h
      · rw [Array.getElem?_eq_none h] at hK2; cases hK2
    obtain ⟨fr, hfr⟩ : ∃ fr : Nat × Nat, fr = (bs.size, bs.size + 1) := ⟨_, rfl⟩
    rw [← hfr] at hconv hb2 hO2 hK2 hz2
    generalize (w.alloc (.cells #[] 73)).drew.alloc (.cells bs 5 fr) = w2 at hconv hb2 hO2 hK2 hz2
    rw [show (w.alloc (.cells #[] 73)).heap.size = w.heap.size + 1 from by simp] at hconv
    have hcell : ∀ W : World, W.heap[w.heap.size + 1]? = some (.cells bs 5 fr) → ∀ j (hj : j < l.length), W.cell? ⟨w.heap.size + 1, j, none⟩ = some (.int .u8 l[j].toNat) := fun W h j hj => by
      rw [cell_of_row _ _ _ _ _ _ h]
      exact hbat j hj
    have hgp := groupsOf_any l (w.heap.size + 1) cap w2 (by rw [hl, hll]; exact hs2) (by rw [hl, hll]; exact hcg) hcm hz2 (hcell w2 hK2)
    rw [← hl]
    have hll' : l.length = s.size := by rw [hl]; exact hll
    rw [hll'] at hgp
    have HLL := Lib.hid hll'
    have HGP := Lib.hid hgp
    have HB2 := Lib.hid hb2
    have HO2 := Lib.hid hO2
    have HK2 := Lib.hid hK2
    have HCE := Lib.hid hcell
    have HZ2 := Lib.hid hz2
    have HCG := Lib.hid hcg
    clear hok hB1 hO1 hbs hbat hb2 hO2 hK2 hfr hcell hgp hl hll hll' hz2
    go_enter Try.func28, Try.ntmps28
    go_wp2_with fail
    refine HOK.out.mono ?_
    rintro e w1 ⟨rfl, rfl⟩
    go_wp2_with fail
    refine HGP.out.mono ?_
    rintro e w3 ⟨gy, G, rfl, hgy, hfin, hB3⟩
    obtain ⟨Ag, cg, rfl⟩ := own_slice hgy
    have HFN := Lib.hid hfin
    have HST : Hid (RsRel l G w w2.heap.size (w.heap.size + 1) cap bs fr (.slice Ag G.length cg) (.slice (some ⟨w.heap.size, 0, none⟩) 0 0) (.int .i64 0) w3) := Lib.hid ⟨0, Nat.zero_le _, rfl, own_below HO2.out hB3 (Nat.le_refl _), hgy, (hB3.block _ HZ2.out).trans HK2.out, HB2.out.trans (hB3.mono (by have := HZ2.out; omega))⟩
    have hGN : G.length ≤ 2000 := by have := hfin.2.2; have := HLL.out; omega
    obtain ⟨N, hN⟩ : ∃ N, N = G.length := ⟨_, rfl⟩
    rw [← hN] at HST hGN ⊢
    have HN := Lib.hid hN
    clear hgy hfin hB3 hconv hN
    generalize w2.heap.size = Lo at *
    go_wp2_with fail
    go_loopw [4, 15] (fun v i wr => RsRel l G w Lo (w.heap.size + 1) cap bs fr (.slice Ag N cg) v i wr) (fun _ i _ => N - (intOf i).toNat)
    case atStart => exact HST.out
    case round =>
      obtain ⟨k, hk, rfl, hown, hgr, hbl, hB⟩ := hrel
      obtain ⟨wo, rfl⟩ : ∃ wo : World, wo = wr := ⟨_, rfl⟩
      rw [← HN.out] at hk hgr
      have hsz := hB.size
      by_cases hlt : k < N
      · have hkg : k < G.length := by rw [← HN.out]; exact hlt
        obtain ⟨gg, rfl, _, _⟩ := own_addr hgr (by omega)
        have c0 : wo.cell? ⟨gg, k, none⟩ = some (gpV (w.heap.size + 1) cap G[k]) := by
          rw [hgr.cellAt k (by omega), List.getElem?_map, List.getElem?_eq_getElem hkg]
          rfl
        obtain ⟨p1, p2⟩ := HFN.out.2.1 _ (List.getElem_mem hkg)
        have HTK : Hid ((G.take (k + 1)).map (runP l) = (G.take k).map (runP l) ++ [runP l G[k]]) := Lib.hid (by
          rw [List.take_succ_eq_append_getElem hkg, List.map_append]
          rfl)
        have htl : ((G.take k).map (runP l)).length = k := by rw [List.length_map, List.length_take]; omega
        generalize G[k] = pr at *
        obtain ⟨a, b⟩ := pr
        simp only at p1 p2
        have hal : a < l.length := by omega
        have hb0 := HCE.out wo hbl a hal
        have hback := run_convert_bytes_back (P := Try.prog) wo 69 9 5 ⟨w.heap.size + 1, a, none⟩ (cap - a) [l[a]] Try.underlying69 Try.underlying5 Try.underlying9 (fun j hj => by
          obtain rfl : j = 0 := by simp at hj; omega
          have e0 : (⟨w.heap.size + 1, a, none⟩ : Addr).add 0 = ⟨w.heap.size + 1, a, none⟩ := by simp [Addr.add]
          rw [e0, hb0]
          rfl)
        have HRP : Hid (runP l (a, b) = ⟨⟨[l[a]].toArray⟩, ((b - a : Nat) : Int)⟩) := Lib.hid (by
          unfold runP oneB
          simp only
          rw [List.getD_eq_getElem?_getD, List.getElem?_eq_getElem hal, Option.getD_some])
        unfold gpV at c0
        simp only at c0
        simp only [List.length_singleton] at hback
        have hcap : 1 ≤ cap - a := by have := HCG.out; have := HLL.out; omega
        obtain ⟨d, hd⟩ : ∃ d, d = b - a := ⟨_, rfl⟩
        have hd2 : 1 ≤ d ∧ d ≤ 2000 := by have := HLL.out; omega
        rw [← hd] at c0 HRP
        generalize cap - a = ca at *
        generalize l[a] = ch at *
        obtain ⟨ls, hls⟩ : ∃ ls : ByteArray, ls = ⟨[ch].toArray⟩ := ⟨_, rfl⟩
        rw [← hls] at hback HRP
        have HO := Lib.hid hown
        have HGR := Lib.hid hgr
        have HBL := Lib.hid hbl
        have HB := Lib.hid hB
        have HNW := Lib.hid (news2 wo ⟨ls, (d : Int)⟩ 73)
        obtain ⟨Av, cv, rfl⟩ := own_slice hown
        have HO5 : Hid (wo.ownsRow w.heap.size 73 2 (.slice Av k cv) k (uv ((G.take k).map (runP l)))) := Lib.hid (by
          have h9 := HO.out
          unfold OwnsU at h9
          rw [htl] at h9
          exact h9)
        rw [htl] at HO ⊢
        have hca : (1 : Int) ≤ (ca : Int) := by omega
        have hd0 : (1 : Int) ≤ (d : Int) := by omega
        have hk0 : (0 : Int) ≤ (k : Int) := by omega
        have hk1 : (k : Int) < (N : Int) := by omega
        clear hown hgr hbl hB p1 p2 hal hb0 hd hls htl
        go_wp2_with (first | (at_builtin; refine wpList_append_own _ rfl _ _ 39 rfl w.heap.size 73 i0 (.agg #[.string ⟨#[]⟩, .int .i64 0]) 2 24 Try.underlying39 hi hz0 hz1 hz2 rfl (by decide) _ _ _ rfl (World.ownsRow.alloc HO5.out _) ⟨wo.heap.size, 0, none⟩ 1 1 (uc ⟨ls, (d : Int)⟩) rfl rfl HNW.out (uc_cell _) (by unfold maxLen; omega) (by omega) (by simp; omega) ?_))
        intro v8 w8 hown8 hgrow _
        have hlo : (w.heap.size + 1) < wo.heap.size := by
          have h9 := HBL.out
          rcases Nat.lt_or_ge (w.heap.size + 1) wo.heap.size with h | h
          · exact h
          · rw [Array.getElem?_eq_none h] at h9; cases h9
        have HST8 : Hid (RsRel l G w Lo (w.heap.size + 1) cap bs fr (.slice (some ⟨gg, 0, none⟩) N cg) v8 (.int .i64 ((k + 1 : Nat) : Int)) w8) := Lib.hid (by
          refine ⟨k + 1, by have := HN.out; omega, rfl, ?_, ?_, ?_, ?_⟩
          · unfold OwnsU
            rw [HTK.out, HRP.out, uv_app, uv_one, List.length_append, List.length_map, List.length_take]
            have e : min k G.length + 1 = k + 1 := by have := HN.out; omega
            simp only [List.length_singleton]
            rw [e, List.map_take]
            exact hown8
          · rw [← HN.out]
            exact own_other HGR.out HO5.out (by decide) hgrow
          · have h1 := hgrow.block (w.heap.size + 1) (by simp; omega) (own_blk_ne (HO5.out) HBL.out (by decide))
            rw [h1]
            exact ((Below.refl _ wo).alloc (Nat.le_refl _) _).block _ hlo |>.trans HBL.out
          · exact (HB.out.alloc hsz _).grown hgrow (by simp; omega) (fun q hq => (HO5.out.lt q hq).1))
        clear hown8 hgrow
        go_wp2_with fail
        go_roundw
        all_goals first | exact HST8.out | ((repeat apply Exists.intro); exact ⟨HST8.out, rfl⟩) | (have := HST8.out; simpa using this) | (simp [intOf]; done) | (simp [intOf]; omega) | omega
      · have hkn : k = G.length := by have := HN.out; omega
        have ho := hown
        rw [hkn, List.take_of_length_le (Nat.le_refl _), ← HFN.out.1, HLL.out] at ho
        obtain ⟨Av, cv, rfl⟩ := own_slice ho
        have HO := Lib.hid ho
        have HB := Lib.hid hB
        clear hown ho hgr hbl hB hkn
        go_wp2_with fail
        go_ret2
        exact ⟨_, rfl, HO.out, HB.out⟩
end Go.Proofs.Ytlgpleeanmeenaa
