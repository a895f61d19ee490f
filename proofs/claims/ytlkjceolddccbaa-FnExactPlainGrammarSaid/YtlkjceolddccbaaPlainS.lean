/-
  Walk: spec.l02Plain.
-/
import Derived.Test.YtlkjceolddccbaaPlainC
import Derived.Test.YtlkjceolddccbaaFound
import Derived.Test.YtlkjceolddccbaaJst
import Derived.Test.YtlkjceolddccbaaUsesM
import Derived.Test.YtlkjceolddccbaaRow
import Derived.Deep.RegionLaw
namespace Go.Proofs.Ytlkjceolddccbaa
open Go.RowKit
open Wd
set_option linter.unusedVariables false
namespace Wd
theorem begins_one (c : UInt8) (l : List UInt8) (k : Nat) : begins [c] l k = true ↔ l[k]? = some c := by
  unfold begins
  rw [beq_iff_eq]
  by_cases h : k < l.length
  · rw [show ([c] : List UInt8).length = 1 from rfl, List.drop_eq_getElem_cons h, List.take_succ_cons, List.take_zero, List.getElem?_eq_getElem h]
    simp
  · rw [List.drop_eq_nil_of_le (by omega), List.getElem?_eq_none (by omega)]
    simp
theorem found_one (c : UInt8) (l : List UInt8) : 0 < (found [c] l l.length).length ↔ c ∈ l := by
  unfold found
  rw [List.length_map, List.length_pos_iff_exists_mem]
  constructor
  · rintro ⟨k, hk⟩
    have h1 := (List.mem_filter.1 hk).2
    exact List.mem_of_getElem? ((begins_one c l k).1 h1)
  · intro h
    obtain ⟨k, hk, he⟩ := List.getElem_of_mem h
    exact ⟨k, List.mem_filter.2 ⟨List.mem_range.2 hk, (begins_one c l k).2 (by rw [List.getElem?_eq_getElem hk, he])⟩⟩
/-- the table of the letters' rules -/
def atK (l : List UInt8) (k : Nat) : List Int := (List.range 4).map fun j => if j < k ∧ hasC l j = true then (idxC l j : Int) else 0
theorem atK_len (l : List UInt8) (k : Nat) : (atK l k).length = 4 := by simp [atK]
theorem atK_zero (l : List UInt8) : atK l 0 = List.replicate 4 0 := by
  unfold atK
  simp only [Nat.not_lt_zero, false_and, if_false]
  rfl
theorem atK_get (l : List UInt8) (k j : Nat) (hj : j < 4) : (atK l k).getD j 0 = if j < k ∧ hasC l j = true then (idxC l j : Int) else 0 := by
  unfold atK
  rw [List.getD_eq_getElem?_getD, List.getElem?_map, List.getElem?_range hj]
  rfl
theorem atK_yes (l : List UInt8) (k : Nat) (hk : k < 4) (h : hasC l k = true) : (atK l k).set k (idxC l k) = atK l (k + 1) := by
  apply List.ext_getElem
  · simp [atK_len]
  · intro i h1 h2
    rw [List.getElem_set]
    simp only [atK, List.getElem_map, List.getElem_range]
    by_cases e : k = i
    · subst e
      rw [if_pos rfl, if_pos ⟨by omega, h⟩]
    · rw [if_neg e]
      by_cases h9 : i < k
      · simp only [show (i < k) = True from by simp [h9], show (i < k + 1) = True from by simp; omega]
      · simp only [show (i < k) = False from by simp [h9], show (i < k + 1) = False from by simp; omega]
theorem atK_no (l : List UInt8) (k : Nat) (hk : k < 4) (h : hasC l k = false) : atK l (k + 1) = atK l k := by
  apply List.ext_getElem
  · simp [atK_len]
  · intro i h1 h2
    simp only [atK, List.getElem_map, List.getElem_range]
    by_cases e : k = i
    · subst e
      simp [h]
    · by_cases h9 : i < k
      · simp only [show (i < k) = True from by simp [h9], show (i < k + 1) = True from by simp; omega]
      · simp only [show (i < k) = False from by simp [h9], show (i < k + 1) = False from by simp; omega]
end Wd
theorem own_own_ne' {w : World} {B B' e e' s s' n n' : Nat} {v : Value} {xs ys : List Value} {g : Nat} {c m : Nat} (h : w.ownsRow B e s v n xs) (h' : w.ownsRow B' e' s' (.slice (some ⟨g, 0, none⟩) m c) n' ys) (hne : e ≠ e') : v.ownBlock = none ∨ v.ownBlock ≠ some g := by
  rcases h.2 with ⟨rfl, _⟩ | ⟨g1, cap, cur, rfl, _, hg, _⟩
  · exact .inl rfl
  · rcases h'.2 with ⟨e0, _⟩ | ⟨g', cap', cur', e0, _, hg', _⟩
    · cases e0
    · refine .inr fun e => ?_
      injection e0 with e1 e2 e3
      have e4 : g = g' := by have := Option.some.inj e1; injection this
      have : g1 = g := by simpa [Value.ownBlock] using e
      subst this e4
      rw [hg] at hg'
      injection hg' with h1
      injection h1 with _ h2
      exact hne h2
theorem lt_mem {l : List UInt8} (h : okL l = true) {c : UInt8} (hc : c ∈ l) : lt c = true := by
  obtain ⟨i, hi, e⟩ := List.getElem_of_mem hc
  rw [← e]
  exact okL_at h hi
theorem byteAt (s : ByteArray) (k : Nat) (h : k < s.size) : s.data.toList.getD k 97 = s[k]'h := by
  rw [List.getD_eq_getElem?_getD, List.getElem?_eq_getElem (by simpa using h), Option.getD_some]
  simp
  rfl
theorem sub97 {c : UInt8} (h : lt c = true) : IntKind.u8.wrap ((c.toNat : Int) - 97) = (noC c : Int) := by
  have := of_lt h
  rw [IntKind.wrap_u8]
  unfold noC
  omega
theorem table_at {w : World} {B M : Nat} {l : List UInt8} {c : UInt8} (h : w.ownsRow B 2 1 (.slice (some ⟨M, 0, none⟩) 4 4) 4 (iv (atK l 4))) (hc : lt c = true) (hm : c ∈ l) : w.cell? ⟨M, noC c, none⟩ = some (.int .i64 (idxC l (noC c) : Int)) := by
  have hn := noC_lt hc
  rw [h.cellAt (noC c) (by omega), iv_atU (by rw [atK_len]; exact hn), atK_get l 4 (noC c) hn, if_pos ⟨hn, by unfold hasC; rw [ltC_noC hc]; exact decide_eq_true hm⟩]
/-- what holds between two letters -/
def P1Rel (l : List UInt8) (w : World) (V r M : Nat) (i : Value) (wr : World) : Prop :=
  ∃ (k : Nat) (yv : Value), k ≤ 4 ∧ i = .int .i64 k ∧ JSt w (w.heap.size + 2) V r (letG l k) yv wr ∧ wr.ownsRow (w.heap.size + 2) 2 1 (.slice (some ⟨M, 0, none⟩) 4 4) 4 (iv (atK l k))
/-- what holds between two places -/
def P2Rel (l : List UInt8) (w : World) (V r M : Nat) (i : Value) (wr : World) : Prop :=
  ∃ (t : Nat) (yv : Value), t + 1 ≤ max 1 l.length ∧ i = .int .i64 ((t : Int) + 1) ∧ JSt w (w.heap.size + 2) V r (letG l 4 ++ prsG l (letG l 4).length t) yv wr ∧ wr.ownsRow (w.heap.size + 2) 2 1 (.slice (some ⟨M, 0, none⟩) 4 4) 4 (iv (atK l 4))

set_option maxRecDepth 100000 in
set_option maxHeartbeats 6400000 in
theorem l02Plain_any (s : ByteArray) (w : World) (hs : okL s.data.toList = true) :
    Calls Try.prog 65 #[.string s] w fun e w' => ∃ y, e = .returned (.agg #[y]) ∧ OwnsR w' w.heap.size y (plainG s.data.toList) ∧ Below w.heap.size w w' := by
  obtain ⟨i0, hi, hz0, hz1, hz2⟩ := info_parts Try.info_rule
  obtain ⟨j0, gi, gz0, gz1, gz2⟩ := info_parts Try.info_i64
  have hlen := okL_len hs
  have hsz : s.size ≤ 2000 := by simpa using hlen
  have HS := Lib.hid hs
  have hb : Below w.heap.size w ((w.alloc (.cells #[.slice none 0 0] 30)).alloc (.cells #[.slice none 0 0] 30)) := ((Below.refl _ w).alloc (Nat.le_refl _) _).alloc (by simp) _
  have v0 : Var ((w.alloc (.cells #[.slice none 0 0] 30)).alloc (.cells #[.slice none 0 0] 30)) w.heap.size (.slice none 0 0) 30 := (Var.new w _ _).kept ((Below.refl _ _).alloc (Nat.le_refl _) _)
  have v1 : Var ((w.alloc (.cells #[.slice none 0 0] 30)).alloc (.cells #[.slice none 0 0] 30)) (w.heap.size + 1) (.slice none 0 0) 30 := by
    have := Var.new (w.alloc (.cells #[.slice none 0 0] 30)) (.slice none 0 0) 30
    rwa [show (w.alloc (.cells #[.slice none 0 0] 30)).heap.size = w.heap.size + 1 from by simp] at this
  have HB := Lib.hid hb
  have HV0 := Lib.hid v0
  have HV1 := Lib.hid v1
  clear hb v0 v1 hs
  go_enter Try.func65, Try.ntmps65
  go_wp2_with (refine wpList_make_full _ rfl _ _ 53 rfl (w.heap.size + 2) 2 j0 (.int .i64 0) 1 Try.underlying53 gi gz0 gz1 .i64 .i64 _ _ 4 rfl rfl rfl rfl (by rw [gz2]; omega) (by unfold maxLen; omega) (by simp) ?_)
  intro w3 hown hgr
  rw [made_i64] at hown
  have hB3 := below_of_grown hgr
  have HST : Hid (P1Rel s.data.toList w (w.heap.size + 1) w.heap.size (w.heap.size + 2) (.int .i64 0) w3) := Lib.hid
    ⟨0, .slice none 0 0, Nat.zero_le _, rfl, ⟨World.ownsRow_nil _ _ _ _, HV1.out.kept hB3, HV0.out.kept hB3, HB.out.trans (hB3.mono (by simp; omega)), by have := hB3.size; simp at this; omega⟩, by rw [atK_zero]; exact hown⟩
  clear hown hgr hB3
  go_wp2_with fail
  go_loopw [5, 6] (fun i _ wr => P1Rel s.data.toList w (w.heap.size + 1) w.heap.size (w.heap.size + 2) i wr) (fun i _ _ => 4 - (intOf i).toNat)
  case atStart => exact HST.out
  case round =>
    obtain ⟨k, yv, hk, rfl, hps, hat⟩ := hrel
    obtain ⟨wo, rfl⟩ : ∃ wo : World, wo = wr := ⟨_, rfl⟩
    by_cases hk4 : k < 4
    · have hlc := ltC_toNat hk4
      have e97 : (97 + (k : Int)) = ((ltC k).toNat : Int) := by rw [hlc]; omega
      have hconv : ∀ W : World, (convert 138 9 (.slice (some ⟨W.heap.size, 0, none⟩) 1 1)).run Try.prog (W.alloc (.cells #[.int .u8 (97 + (k : Int))] 5)) = .ok (.string ⟨#[ltC k]⟩) (W.alloc (.cells #[.int .u8 (97 + (k : Int))] 5)) := fun W => by
        rw [e97]
        exact run_convert_bytes_back (P := Try.prog) (W.alloc (.cells #[.int .u8 ((ltC k).toNat : Int)] 5)) 138 9 5 ⟨W.heap.size, 0, none⟩ 1 [ltC k] Try.underlying138 Try.underlying5 Try.underlying9 (fun j hj => by
          match j, hj with
          | 0, _ => simp [Addr.add])
      have hc1 := hconv wo
      have hF : ∀ W, Calls Try.prog 102 #[.string ⟨#[ltC k]⟩, .string s] W fun e w' => ∃ x, e = .returned x ∧ OwnsI w' W.heap.size x (found [ltC k] s.data.toList s.size) ∧ Below W.heap.size W w' := fun W => specFound ⟨#[ltC k]⟩ s W Nat.zero_lt_one (show 1 ≤ 2000 by omega) hsz
      have hfo := found_one (ltC k) s.data.toList
      rw [show s.data.toList.length = s.size from by simp] at hfo
      have hfl := found_len [ltC k] s.data.toList s.size
      generalize found [ltC k] s.data.toList s.size = fd at *
      have HF := Lib.hid hF
      have HPS := Lib.hid hps
      have HAT := Lib.hid hat
      have hba := (Below.refl _ wo).alloc (Nat.le_refl _) (.cells #[.int .u8 (97 + (k : Int))] 5)
      have HPA := Lib.hid (jst_kept hps hba)
      have HAA := Lib.hid (own_below hat hba (Nat.le_refl _))
      cases hh : hasC s.data.toList k
      · have hnl : letG s.data.toList (k + 1) = letG s.data.toList k := by rw [letG, hh]; rfl
        have hna := atK_no s.data.toList k hk4 hh
        have hz0 : fd.length = 0 := by
          have : ¬ 0 < fd.length := fun h => by have := hfo.1 h; unfold hasC at hh; exact absurd this (of_decide_eq_false hh)
          omega
        have HNL := Lib.hid hnl
        have HNA := Lib.hid hna
        clear hps hat hF hfo hconv hh hnl hna e97 hlc hba
        go_wp2_with fail
        refine (HF.out _).mono ?_
        rintro e w5 ⟨x, rfl, hx, hB5⟩
        obtain ⟨Af, cf, rfl⟩ := own_slice hx
        rw [hz0]
        have HST2 : Hid (P1Rel s.data.toList w (w.heap.size + 1) w.heap.size (w.heap.size + 2) (.int .i64 ((k : Int) + 1)) w5) := Lib.hid ⟨k + 1, yv, by omega, by go_num, by rw [HNL.out]; exact jst_kept HPA.out hB5, by rw [HNA.out]; exact own_below HAA.out hB5 (Nat.le_refl _)⟩
        clear hx hB5 hc1
        go_wp2_with fail
        go_roundw
        case rel => first | exact HST2.out | ((repeat apply Exists.intro); exact ⟨HST2.out, rfl⟩)
        case measure => (first | (simp [intOf]; done) | (simp [intOf]; omega))
      · have hnl : letG s.data.toList (k + 1) = letG s.data.toList k ++ [letR k] := by rw [letG, hh]; rfl
        have hna := atK_yes s.data.toList k hk4 hh
        have hfd : 0 < fd.length := hfo.2 (by unfold hasC at hh; exact of_decide_eq_true hh)
        have hz2' : (0 : Int) < (fd.length : Int) := by omega
        have hll := letG_len s.data.toList k
        have HNL := Lib.hid hnl
        have HNA := Lib.hid hna
        obtain ⟨N, hN⟩ : ∃ N, N = (letG s.data.toList k).length := ⟨_, rfl⟩
        have HN := Lib.hid hN
        have hNb : N ≤ 4 := by omega
        clear hps hat hF hfo hconv hh hnl hna e97 hlc hba hll hN
        go_wp2_with fail
        refine (HF.out _).mono ?_
        rintro e w5 ⟨x, rfl, hx, hB5⟩
        obtain ⟨Af, cf, rfl⟩ := own_slice hx
        have HP5 := Lib.hid (jst_kept HPA.out hB5)
        have HA5 := Lib.hid (own_below HAA.out hB5 (Nat.le_refl _))
        have hO5 := HP5.out.1
        rw [← HN.out] at hO5
        obtain ⟨A2, c2, rfl⟩ := own_slice hO5
        have hv5 := HP5.out.2.1.cell.1
        have o1 : w5.cell? ⟨w.heap.size + 2, k, none⟩ = some (.int .i64 ((atK s.data.toList k).getD k 0)) := by rw [HA5.out.cellAt k (by omega)]; exact iv_atU (by rw [atK_len]; omega)
        have f1 : w5.frozen? ⟨w.heap.size + 2, k, none⟩ = false := HA5.out.frozenAt _
        generalize (atK s.data.toList k).getD k 0 = z0 at o1
        -- behind the store into the table
        have hMV : (w.heap.size + 2) ≠ w.heap.size + 1 := by omega
        have HA6 : Hid ((w5.setCell ⟨w.heap.size + 2, k, none⟩ (.int .i64 (N : Int))).ownsRow (w.heap.size + 2) 2 1 (.slice (some ⟨w.heap.size + 2, 0, none⟩) 4 4) 4 (iv (atK s.data.toList (k + 1)))) := Lib.hid (by
          rw [← HNA.out, show (idxC s.data.toList k : Int) = (N : Int) from by unfold idxC; rw [← HN.out]]
          exact u_store HA5.out k N)
        have hg6 := only_setCell (World.grownBy.refl w5 (some (w.heap.size + 2))) (p := ⟨w.heap.size + 2, k, none⟩) (.inl rfl) (.int .i64 (N : Int))
        have HP6 : Hid (JSt w (w.heap.size + 2) (w.heap.size + 1) w.heap.size (letG s.data.toList k) (.slice A2 N c2) (w5.setCell ⟨w.heap.size + 2, k, none⟩ (.int .i64 (N : Int)))) := Lib.hid
          ⟨World.ownsRow.kept HP5.out.1 hg6 (own_own_ne' HP5.out.1 HA5.out (by decide)), HP5.out.2.1.far _ _ (by simp), HP5.out.2.2.1.far _ _ (by simp), HP5.out.2.2.2.1.setCell (p := ⟨w.heap.size + 2, k, none⟩) (by simp) _, Nat.le_trans HP5.out.2.2.2.2 hg6.size⟩
        have hv6 := HP6.out.2.1.cell.1
        have hsz6 : w.heap.size + 2 ≤ (w5.setCell ⟨w.heap.size + 2, k, none⟩ (.int .i64 (N : Int))).heap.size := HP6.out.2.2.2.2
        have HXC : Hid (rc (letR k) = [.string ⟨#[ltC k]⟩, .int .i64 0, .int .i64 0]) := Lib.hid rfl
        have hnw := news3 (w5.setCell ⟨w.heap.size + 2, k, none⟩ (.int .i64 (N : Int))) (letR k) 71
        rw [show (w5.setCell ⟨w.heap.size + 2, k, none⟩ (.int .i64 (N : Int))).heap.size = w5.heap.size from by simp [World.setCell]] at hnw
        have HNW := Lib.hid hnw
        have hsz5 : w.heap.size + 2 ≤ w5.heap.size := by simpa [World.setCell] using hsz6
        clear hnw
        have hO6 := HP6.out.1
        rw [← HN.out] at hO6
        have HO6 := Lib.hid hO6
        clear hx hB5 hc1 hO5 hg6 hO6
        go_wp2_with (first | (at_builtin; refine wpList_append_own _ rfl _ _ 28 rfl (w.heap.size + 2) 71 i0 (.agg #[.string ⟨#[]⟩, .int .i64 0, .int .i64 0]) 3 32 Try.underlying28 hi hz0 hz1 hz2 rfl (by decide) _ _ _ rfl (World.ownsRow.alloc HO6.out _) ⟨w5.heap.size, 0, none⟩ 1 1 (rc (letR k)) rfl rfl HNW.out (rc_cell _) (by unfold maxLen; omega) (by omega) (by simp; first | done | omega | (simp [World.setCell]; omega)) ?_))
        intro v8 w8 hown' hgrow _
        obtain ⟨A8, c8, rfl⟩ := own_slice hown'
        obtain ⟨hk8, hp9⟩ := jst_grown (x := letR k) (show w.heap.size ≤ w.heap.size + 2 by omega) (show w.heap.size ≤ w.heap.size + 1 by omega) (show w.heap.size ≠ w.heap.size + 1 by omega) HP6.out (by rw [← HN.out]; exact hown') hgrow
        obtain ⟨x8, y8⟩ := hk8.cell
        have ha8 := own_other HA6.out HO6.out (by decide) hgrow
        have HA9 := Lib.hid (World.ownsRow.kept ha8 (only_setCell (World.grownBy.refl w8 (some (w.heap.size + 1))) (p := ⟨w.heap.size + 1, 0, none⟩) (.inl rfl) (.slice A8 (N + 1) c8)) (.inr (by simp [Value.ownBlock])))
        have HP9 := Lib.hid hp9
        clear hown' hgrow hk8 hp9 ha8
        go_wp2_with fail
        go_roundw
        case rel =>
          have HST2 : Hid (P1Rel s.data.toList w (w.heap.size + 1) w.heap.size (w.heap.size + 2) (.int .i64 ((k : Int) + 1)) (w8.setCell ⟨w.heap.size + 1, 0, none⟩ (.slice A8 (N + 1) c8))) := Lib.hid ⟨k + 1, .slice A8 (N + 1) c8, by omega, by go_num, by rw [HNL.out]; exact HP9.out, HA9.out⟩
          first | exact HST2.out | ((repeat apply Exists.intro); exact ⟨HST2.out, rfl⟩)
        case measure => (first | (simp [intOf]; done) | (simp [intOf]; omega))
    · obtain rfl : k = 4 := by omega
      have HST3 : Hid (P2Rel s.data.toList w (w.heap.size + 1) w.heap.size (w.heap.size + 2) (.int .i64 1) wo) := Lib.hid ⟨0, yv, by omega, rfl, by rw [prsG, List.append_nil]; exact hps, hat⟩
      clear hps hat
      go_wp2_with fail
      go_loopw [7, 8] (fun i _ wr => P2Rel s.data.toList w (w.heap.size + 1) w.heap.size (w.heap.size + 2) i wr) (fun i _ _ => s.size - (intOf i).toNat)
      case atStart => exact HST3.out
      case round =>
        obtain ⟨t, yv2, ht, rfl, hps2, hat2⟩ := hrel
        obtain ⟨wu, rfl⟩ : ∃ wu : World, wu = wr := ⟨_, rfl⟩
        have hsl : s.data.toList.length = s.size := by simp
        rw [hsl] at ht
        by_cases hlt : t + 1 < s.size
        · have h0s : 0 < s.size := by omega
          have hm1 : s[t + 1]'hlt ∈ s.data.toList := by rw [← byteAt s (t + 1) hlt, List.getD_eq_getElem?_getD, List.getElem?_eq_getElem (by simpa using hlt), Option.getD_some]; exact List.getElem_mem _
          have hm0 : s[0]'h0s ∈ s.data.toList := by rw [← byteAt s 0 h0s, List.getD_eq_getElem?_getD, List.getElem?_eq_getElem (by simpa using h0s), Option.getD_some]; exact List.getElem_mem _
          have hl1 : lt (s[t + 1]'hlt) = true := lt_mem HS.out hm1
          have hl0 : lt (s[0]'h0s) = true := lt_mem HS.out hm0
          have T1 := Lib.hid (fun (W : World) (h : W.ownsRow (w.heap.size + 2) 2 1 (.slice (some ⟨w.heap.size + 2, 0, none⟩) 4 4) 4 (iv (atK s.data.toList 4))) => table_at h hl1 hm1)
          have T0 := Lib.hid (fun (W : World) (h : W.ownsRow (w.heap.size + 2) 2 1 (.slice (some ⟨w.heap.size + 2, 0, none⟩) 4 4) 4 (iv (atK s.data.toList 4))) => table_at h hl0 hm0)
          have hb1 := byteAt s (t + 1) hlt
          have hb0 := byteAt s 0 h0s
          have hn1 := noC_lt hl1
          have hn0 := noC_lt hl0
          have hw1 : ∀ h, IntKind.u8.wrap (((s[t + 1]'h).toNat : Int) - 97) = (noC (s[t + 1]'hlt) : Int) := fun _ => sub97 hl1
          have hw0 : ∀ h, IntKind.u8.wrap (((s[0]'h).toNat : Int) - 97) = (noC (s[0]'h0s) : Int) := fun _ => sub97 hl0
          obtain ⟨D1, hD1⟩ : ∃ D1, D1 = noC (s[t + 1]'hlt) := ⟨_, rfl⟩
          obtain ⟨D0, hD0⟩ : ∃ D0, D0 = noC (s[0]'h0s) := ⟨_, rfl⟩
          rw [← hD1] at hw1 hn1 T1
          rw [← hD0] at hw0 hn0 T0
          obtain ⟨N, hN⟩ : ∃ N, N = (letG s.data.toList 4).length := ⟨_, rfl⟩
          obtain ⟨BF, hBF⟩ : ∃ BF : Nat, BF = if t = 0 then idxC s.data.toList D0 else N + t - 1 := ⟨_, rfl⟩
          obtain ⟨RG, hRG⟩ : ∃ RG : Nat, RG = idxC s.data.toList D1 := ⟨_, rfl⟩
          have HPX := Lib.hid (show prsG s.data.toList N (t + 1) = prsG s.data.toList N t ++ [pairR BF RG] from by rw [prsG, hBF, hRG, hb1, hb0, hD1, hD0])
          rw [← hRG] at T1
          have hbfl : BF ≤ 2100 := by
            have := letG_len s.data.toList 4
            rw [hBF]
            split
            · have := letG_len s.data.toList D0; unfold idxC; omega
            · omega
          obtain ⟨X, hX⟩ : ∃ X : Rl, X = ⟨⟨#[]⟩, (BF : Int), (RG : Int)⟩ := ⟨_, rfl⟩
          have HXP := Lib.hid (show X = pairR BF RG from hX)
          have HXC := Lib.hid (show rc X = [.string ⟨#[]⟩, .int .i64 (BF : Int), .int .i64 (RG : Int)] from by rw [hX]; rfl)
          have hnw := news3 wu.drew X 71
          rw [hX] at hnw
          have HNW := Lib.hid hnw
          have HNN := Lib.hid hN
          obtain ⟨NT, hNT⟩ : ∃ NT, NT = (letG s.data.toList 4 ++ prsG s.data.toList N t).length := ⟨_, rfl⟩
          have hNT2 : NT = N + t := by rw [hNT, List.length_append, prsG_len, hN]
          have hN4 : N ≤ 4 := by rw [hN]; exact letG_len _ _
          rw [← hN] at hps2
          have HP6 := Lib.hid (jst_kept hps2 (Below.refl _ wu).drew)
          have hO6 := HP6.out.1
          rw [← hNT] at hO6
          obtain ⟨A3, c3, rfl⟩ := own_slice hO6
          have HO6 := Lib.hid hO6
          have HA6 := Lib.hid (own_below hat2 (Below.refl _ wu).drew (Nat.le_refl _))
          have HNT := Lib.hid hNT
          have v0 := hps2.2.1.cell.1
          have z0 := HP6.out.2.1.cell.1
          have hbs : w.heap.size + 2 ≤ wu.heap.size := hps2.2.2.2.2
          have t0 := T0.out wu hat2
          have t1 := T1.out wu.drew HA6.out
          have za6 := fun o => (jst_kept HP6.out ((Below.refl _ _).alloc (Nat.le_refl _) o)).2.1.cell.1
          have za6d : ∀ o, (wu.alloc o).drew.cell? ⟨w.heap.size + 1, 0, none⟩ = some (.slice A3 NT c3) := fun o => za6 o
          have hd1 : (D1 : Int) < 4 := by omega
          have hd0 : (D0 : Int) < 4 := by omega
          have hbnd : NT ≤ 2100 := by omega
          have j0 : (0 : Int) ≤ (t : Int) + 1 := by omega
          have j1 : (t : Int) + 1 < (s.size : Int) := by omega
          have j2 : ((t : Int) + 1).toNat = t + 1 := by omega
          by_cases ht0 : t = 0
          · rw [if_pos ht0] at hBF
            rw [← hBF] at t0
            have e1 : ((t : Int) + 1 == 1) = true := by rw [beq_iff_eq]; omega
            have hwN : IntKind.i64.wrap ((NT : Int) - 1) = (NT : Int) - 1 := by rw [IntKind.wrap_i64]; omega
            clear hps2 hat2 hX hnw hN hNT hO6 hBF hRG hD1 hD0 hb1 hb0 hm1 hm0 hl1 hl0 hNT2 ht0 hN4 hbfl
            go_wp2_with fail
            go_region_law ((first
              | (refine step_append_lies _ (by rfl) _ _ 28 (by rfl) (w.heap.size + 2) 71 i0 (.agg #[.string ⟨#[]⟩, .int .i64 0, .int .i64 0]) 3 32 Try.underlying28 hi hz0 hz1 hz2 (by rfl) (by decide) (.slice A3 NT c3) NT (rv (letG s.data.toList 4 ++ prsG s.data.toList N t)) (by rfl) (World.ownsRow.alloc HO6.out _) ⟨wu.heap.size, 0, none⟩ 1 1 (rc X) (by rfl) (by rfl) (by rw [HXC.out]; exact HNW.out) (rc_cell _) (by decide) (by unfold maxLen; omega) (by omega) (by simp; omega) (wu.heap.size + 1) (by simp) ?_
                 intro g8 c8 w8 hown' hgrow _ _
                 obtain ⟨hk8, hp9⟩ := jst_grown (x := X) (show w.heap.size ≤ w.heap.size + 2 by omega) (show w.heap.size ≤ w.heap.size + 1 by omega) (show w.heap.size ≠ w.heap.size + 1 by omega) HP6.out (by rw [← HNT.out]; exact hown') hgrow
                 obtain ⟨x8, y8⟩ := hk8.cell
                 have HP9 := Lib.hid hp9
                 have ha8 := own_other HA6.out HO6.out (by decide) hgrow
                 have HA9 := Lib.hid (World.ownsRow.kept ha8 (only_setCell (World.grownBy.refl w8 (some (w.heap.size + 1))) (p := ⟨w.heap.size + 1, 0, none⟩) (.inl rfl) (.slice (some ⟨g8, 0, none⟩) (NT + 1) c8)) (.inr (by simp [Value.ownBlock])))
                 clear hown' hgrow hk8 hp9 ha8)))
            all_goals
              have HST4 : Hid (P2Rel s.data.toList w (w.heap.size + 1) w.heap.size (w.heap.size + 2) (.int .i64 ((t : Int) + 1 + 1)) (w8.setCell ⟨w.heap.size + 1, 0, none⟩ (.slice (some ⟨g8, 0, none⟩) (NT + 1) c8))) := Lib.hid ⟨t + 1, .slice (some ⟨g8, 0, none⟩) (NT + 1) c8, by omega, by go_num, by rw [← HNN.out, HPX.out, ← List.append_assoc, ← HXP.out]; exact HP9.out, HA9.out⟩
              go_wp2_with fail
              go_roundw
              case rel => first | exact HST4.out | ((repeat apply Exists.intro); exact ⟨HST4.out, rfl⟩)
              case measure => (first | (simp [intOf]; done) | (simp [intOf]; omega))
          · rw [if_neg ht0] at hBF
            have e1 : ((t : Int) + 1 == 1) = false := by rw [beq_eq_false_iff_ne]; omega
            have hwN : IntKind.i64.wrap ((NT : Int) - 1) = (BF : Int) := by rw [IntKind.wrap_i64]; omega
            clear hps2 hat2 hX hnw hN hNT hO6 hBF hRG hD1 hD0 hb1 hb0 hm1 hm0 hl1 hl0 hNT2 hN4 hbfl t0
            go_wp2_with fail
            go_region_law ((first
              | (refine step_append_lies _ (by rfl) _ _ 28 (by rfl) (w.heap.size + 2) 71 i0 (.agg #[.string ⟨#[]⟩, .int .i64 0, .int .i64 0]) 3 32 Try.underlying28 hi hz0 hz1 hz2 (by rfl) (by decide) (.slice A3 NT c3) NT (rv (letG s.data.toList 4 ++ prsG s.data.toList N t)) (by rfl) (World.ownsRow.alloc HO6.out _) ⟨wu.heap.size, 0, none⟩ 1 1 (rc X) (by rfl) (by rfl) (by rw [HXC.out]; exact HNW.out) (rc_cell _) (by decide) (by unfold maxLen; omega) (by omega) (by simp; omega) (wu.heap.size + 1) (by simp) ?_
                 intro g8 c8 w8 hown' hgrow _ _
                 obtain ⟨hk8, hp9⟩ := jst_grown (x := X) (show w.heap.size ≤ w.heap.size + 2 by omega) (show w.heap.size ≤ w.heap.size + 1 by omega) (show w.heap.size ≠ w.heap.size + 1 by omega) HP6.out (by rw [← HNT.out]; exact hown') hgrow
                 obtain ⟨x8, y8⟩ := hk8.cell
                 have HP9 := Lib.hid hp9
                 have ha8 := own_other HA6.out HO6.out (by decide) hgrow
                 have HA9 := Lib.hid (World.ownsRow.kept ha8 (only_setCell (World.grownBy.refl w8 (some (w.heap.size + 1))) (p := ⟨w.heap.size + 1, 0, none⟩) (.inl rfl) (.slice (some ⟨g8, 0, none⟩) (NT + 1) c8)) (.inr (by simp [Value.ownBlock])))
                 clear hown' hgrow hk8 hp9 ha8)))
            all_goals
              have HST4 : Hid (P2Rel s.data.toList w (w.heap.size + 1) w.heap.size (w.heap.size + 2) (.int .i64 ((t : Int) + 1 + 1)) (w8.setCell ⟨w.heap.size + 1, 0, none⟩ (.slice (some ⟨g8, 0, none⟩) (NT + 1) c8))) := Lib.hid ⟨t + 1, .slice (some ⟨g8, 0, none⟩) (NT + 1) c8, by omega, by go_num, by rw [← HNN.out, HPX.out, ← List.append_assoc, ← HXP.out]; exact HP9.out, HA9.out⟩
              go_wp2_with fail
              go_roundw
              case rel => first | exact HST4.out | ((repeat apply Exists.intro); exact ⟨HST4.out, rfl⟩)
              case measure => (first | (simp [intOf]; done) | (simp [intOf]; omega))
        · have htl : s.data.toList.length - 1 = t := by omega
          obtain ⟨NT, hNT⟩ : ∃ NT, NT = (letG s.data.toList 4 ++ prsG s.data.toList (letG s.data.toList 4).length t).length := ⟨_, rfl⟩
          have hO := hps2.1
          rw [← hNT] at hO
          obtain ⟨A3, c3, rfl⟩ := own_slice hO
          have v0 := hps2.2.1.cell.1
          obtain ⟨r0, r1⟩ := hps2.2.2.1.cell
          have hB := hps2.2.2.2.1
          have HFO : Hid (OwnsR wu w.heap.size (.slice A3 NT c3) (plainG s.data.toList)) := Lib.hid (by
            unfold OwnsR plainG
            rw [htl, ← hNT]
            exact own_lower hO (by omega))
          have HNE := Lib.hid (own_var_ne hO hps2.2.2.1 (by decide))
          have HBB := Lib.hid hB
          clear hps2 hat2 htl hNT hO hB
          go_wp2_with fail
          refine bodyPost_ret (v := .agg #[.slice A3 NT c3]) (by simp [results, Try.results65, go_sem, r0]) rfl ⟨_, rfl, ?_, HBB.out.setCell (by simp) _⟩
          exact World.ownsRow.kept HFO.out (only_setCell (World.grownBy.refl wu (some w.heap.size)) (p := ⟨w.heap.size, 0, none⟩) (.inl rfl) _) (.inr HNE.out)
end Go.Proofs.Ytlkjceolddccbaa
