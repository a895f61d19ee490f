/-
  Contracts and numbers of the functions that the laws of this place call, one text behind the other. No condition beyond those that each theorem names.
-/
import Derived.Test.YtapemoehcohjgaaZ1
import Derived.Test.YtapemoehcohjgaaZ2
import Derived.Test.YtapemoehcohjgaaZ3
import Derived.BigQuiet
import Derived.Deep.DeepCutAuto
import Derived.Deep.RegionHeld3
namespace Go.Proofs.Ytapemoehcohjgaa
open Go.RowKit
open Wd
set_option linter.unusedVariables false
namespace Wd
/-- the length of the code of the word of a grammar -/
def cdT (ou : List (List ByteArray)) (nx : List (List Int)) (gs : List Rl) (go : Nat) : Int := if gs.length = 0 then 0 else cd ou nx gs (gs.length - 1) go
/-- what the rules ahead of one add, and that one in its first states -/
def lenS (ou : List (List ByteArray)) (nx : List (List Int)) (gs : List Rl) (u : Nat → Nat → Int) (k t : Nat) : Int := lenK gs u (cd ou nx gs) k + sumN (fun s => u k s * cd ou nx gs k s) t
end Wd
theorem ou_few {ou : List (List ByteArray)} (h : ou.all orowOk = true) : ∀ r ∈ ou, ∀ s ∈ r, s.size ≤ 6 := by
  intro r hr s hs
  obtain ⟨j, hj, e⟩ := List.getElem_of_mem hs
  have h2 := (orow_facts.1 (List.all_eq_true.1 h r hr)).2 j hj
  rw [e] at h2
  unfold outOk at h2
  rw [Bool.and_eq_true, decide_eq_true_eq] at h2
  exact h2.1
theorem len_facts {ou : List (List ByteArray)} {nx : List (List Int)} {gs : List Rl} {u : Nat → Nat → Int} {go : Nat} (hok : gOk gs = true) (h6 : ou.all orowOk = true) (hm : MtI nx gs nx.length go 0 0 u) (hn : 0 < gs.length) :
    lenK gs u (cd ou nx gs) gs.length = cdT ou nx gs go ∧ (∀ j s, j < gs.length → 0 ≤ u j s * cd ou nx gs j s) ∧ (∀ k t, k < gs.length → t ≤ 24 → isPr gs k = false → 0 ≤ lenS ou nx gs u k t ∧ lenS ou nx gs u k t ≤ 6000000000000000) := by
  have hfit := (gOk_iff.1 hok).2.1
  have hsm := small_at (gOk_iff.1 hok).2.2
  have h1 := MtI.total hm (cd_padd (ou := ou) hfit)
  have hcd := fun k s (hk : k < gs.length) => cd_bd (ou := ou) (nx := nx) hfit (ou_few h6) gs.length k s hk hk
  have h2 : ∀ j s, j < gs.length → 0 ≤ u j s * cd ou nx gs j s := fun j s hj => Int.mul_nonneg (hm.pos j s) (hcd j s hj).1
  refine ⟨by rw [h1]; unfold cdT; rw [if_neg (by omega)], h2, fun k t hk ht hp => ?_⟩
  have h3 := lenK_mono (gs := gs) (u := u) (V := cd ou nx gs) (k := k + 1) (n := gs.length) hk h2
  have h3' := lenK_mono (gs := gs) (u := u) (V := cd ou nx gs) (k := 0) (n := k) (Nat.zero_le _) (fun j s hj => h2 j s (by omega))
  rw [lenK_step, if_neg (by rw [hp]; simp)] at h3
  have h4 := sumN_mono (f := fun s => u k s * cd ou nx gs k s) ht (fun i hi => h2 k i hk)
  have h5 : 0 ≤ sumN (fun s => u k s * cd ou nx gs k s) t := sumN_pos (fun i hi => h2 k i hk)
  have h7 := (hcd (gs.length - 1) go (by omega)).2
  have h8 := hsm (gs.length - 1) (by omega)
  have h9 : lenK gs u (cd ou nx gs) 0 = 0 := rfl
  unfold lenS
  omega
theorem lenS_step {ou : List (List ByteArray)} {nx : List (List Int)} {gs : List Rl} {u : Nat → Nat → Int} {k t : Nat} : lenS ou nx gs u k (t + 1) = lenS ou nx gs u k t + u k t * cd ou nx gs k t := by
  unfold lenS
  rw [sumN]
  omega
theorem lenS_zero {ou : List (List ByteArray)} {nx : List (List Int)} {gs : List Rl} {u : Nat → Nat → Int} {k : Nat} : lenS ou nx gs u k 0 = lenK gs u (cd ou nx gs) k := by
  unfold lenS
  rw [sumN]
  omega
theorem lenS_all {ou : List (List ByteArray)} {nx : List (List Int)} {gs : List Rl} {u : Nat → Nat → Int} {k : Nat} (h : isPr gs k = false) : lenS ou nx gs u k 24 = lenK gs u (cd ou nx gs) (k + 1) := by
  rw [lenK_step, if_neg (by rw [h]; simp)]
  rfl
set_option maxRecDepth 100000 in
set_option maxHeartbeats 12800000 in
theorem length_any (gv lv mv sv n o tv : Value) (lo : Nat) (x : Co) (gs : List Rl) (go : Nat) (u : Nat → Nat → Int) (w : World) (hv : cOk x = true) (hok : gOk gs = true) (hr : Rules w gv gs) (hN : IsLL w n x.nx) (hO : IsSLL w o x.ou) (hT : IsMt w lo tv gs.length u) (hm : 0 < gs.length → MtI x.nx gs x.nx.length go 0 0 u) :
    Calls Try.prog 42 #[.agg #[gv, lv, mv, sv, .int .i64 x.st, .int .i64 x.go, n, o, tv]] w fun e w' => e = .returned (.int .i64 (cdT x.ou x.nx gs go)) ∧ Below w.heap.size w w' := by
  obtain ⟨h1, h2, h3, h4, h5, h6⟩ := cOk_facts hv
  obtain ⟨dU, hu, hd⟩ := und_row (t := 79) (by kernel_rfl)
  have HU := Lib.hid (And.intro hu hd)
  have hfit := (gOk_iff.1 hok).2.1
  have HLF := Lib.hid (fun hn => len_facts hok h6 (hm hn) hn)
  have HM := Lib.hid hm
  have hn400 := gOk_len hok
  have HFIT := Lib.hid hfit
  have HWR := Lib.hid (fun (s d : Nat) (b : UInt8) (l r : Int) W (hb : Below w.heap.size w W) (hs : s < x.nx.length) (hd : d < 4) (hc : (b.toNat : Int) = (d : Int) + 97) => written_any gv lv mv sv tv n o x s d b l r W hv hs hd hc (hN.kept hb) (hO.kept hb))
  have HTK := Lib.hid (fun W (hb : Below w.heap.size w W) => hT.kept hb)
  have HR := Lib.hid hr
  obtain ⟨Ag, cg, rfl, _⟩ := id hr
  obtain ⟨T, rfl, _⟩ := id hT
  obtain ⟨An, cn, hnv, _⟩ := id hN
  obtain ⟨Ao, co, hov, _⟩ := id hO
  subst hnv hov
  obtain ⟨N, hNe⟩ : ∃ N, N = gs.length := ⟨_, rfl⟩
  have HNE := Lib.hid hNe
  have hb := (Below.refl _ w).alloc (Nat.le_refl _) (.cells #[.slice Ag gs.length cg, lv, mv, sv, .int .i64 x.st, .int .i64 x.go, .slice An x.nx.length cn, .slice Ao x.ou.length co, .slice (some ⟨T, 0, none⟩) gs.length gs.length] 79)
  have hX := heap_alloc_new w (.cells #[.slice Ag gs.length cg, lv, mv, sv, .int .i64 x.st, .int .i64 x.go, .slice An x.nx.length cn, .slice Ao x.ou.length co, .slice (some ⟨T, 0, none⟩) gs.length gs.length] 79)
  have hsz : w.heap.size < (w.alloc (.cells #[.slice Ag gs.length cg, lv, mv, sv, .int .i64 x.st, .int .i64 x.go, .slice An x.nx.length cn, .slice Ao x.ou.length co, .slice (some ⟨T, 0, none⟩) gs.length gs.length] 79)).heap.size := by simp
  have HB := Lib.hid hb
  have HX := Lib.hid hX
  have HSZ := Lib.hid hsz
  have HSF : Hid ((Try.prog.info? 79).map (·.size) = some (#[.slice Ag gs.length cg, lv, mv, sv, .int .i64 x.st, .int .i64 x.go, .slice An x.nx.length cn, .slice Ao x.ou.length co, .slice (some ⟨T, 0, none⟩) gs.length gs.length] : Array Value).size) := Lib.hid (by
    show (Try.prog.info? 79).map (·.size) = some 9
    kernel_rfl)
  have key : ∀ W : World, W.heap[w.heap.size]? = some (.cells #[.slice Ag gs.length cg, lv, mv, sv, .int .i64 x.st, .int .i64 x.go, .slice An x.nx.length cn, .slice Ao x.ou.length co, .slice (some ⟨T, 0, none⟩) gs.length gs.length] 79 (0, 0)) → W.cell? ⟨w.heap.size, 0, none⟩ = some (.slice Ag gs.length cg) ∧ W.cell? ⟨w.heap.size, 8, none⟩ = some (.slice (some ⟨T, 0, none⟩) gs.length gs.length) := fun W k1 => by
    refine ⟨?_, ?_⟩
    · rw [cell_of_row _ _ _ _ _ _ k1]; rfl
    · rw [cell_of_row _ _ _ _ _ _ k1]; rfl
  have HKEY := Lib.hid key
  clear hb hX hsz hu hd key hr hT hN hO hm hfit h1 h2 h3 h4 h5 h6 hok hv
  rw [← hNe] at HB HX HSZ HSF HKEY HWR hn400
  rw [← hNe]
  clear hNe
  go_enter Try.func42, Try.ntmps42
  go_upto_region 2 with fail
  generalize w.alloc (.cells #[.slice Ag N cg, lv, mv, sv, .int .i64 x.st, .int .i64 x.go, .slice An x.nx.length cn, .slice Ao x.ou.length co, .slice (some ⟨T, 0, none⟩) N N] 79) = w1 at *
  obtain ⟨q0, q8⟩ := HKEY.out w1 HX.out
  go_wp2_with fail
  clear q0 q8
  go_loopw [3, 14] (fun v i wr => ∃ k : Nat, k ≤ N ∧ i = .int .i64 k ∧ v = .int .i64 (lenK gs u (cd x.ou x.nx gs) k) ∧ Below w1.heap.size w1 wr) (fun _ i _ => N - (intOf i).toNat)
  case atStart => exact ⟨0, Nat.zero_le _, rfl, rfl, Below.refl _ _⟩
  case round =>
    obtain ⟨k, hk, rfl, rfl, hB⟩ := hrel
    obtain ⟨wo, rfl⟩ : ∃ wo : World, wo = wr := ⟨_, rfl⟩
    by_cases hkn : k < N
    · have hkg : k < gs.length := by rw [← HNE.out]; exact hkn
      have hBw := HB.out.trans (hB.mono HB.out.size)
      obtain ⟨Ay, cy, hvy, hcy⟩ := HR.out.kept hBw
      injection hvy with hvA _ hvc
      subst hvA hvc
      rcases hcy with hn0 | ⟨g, rfl, hg, hc⟩
      · rw [hn0] at hkg; simp at hkg
      obtain ⟨a0, a1, a2⟩ := rules_cells hc hkg
      have k0 : (0 : Int) ≤ (k : Int) := by omega
      have k1 : (k : Int) < (N : Int) := by omega
      have hfk := fits_at HFIT.out k hkg
      have hxe := rlAt_eq hkg
      have HBO := Lib.hid hB
      have HBW := Lib.hid hBw
      clear hc hg hB hBw
      by_cases h0 : gs[k].L.size = 0
      · have HK := Lib.hid (fun W => kind_pair gs[k] h0 W)
        have HT := tm_pl
        have HNX : Hid (lenK gs u (cd x.ou x.nx gs) (k + 1) = lenK gs u (cd x.ou x.nx gs) k) := Lib.hid (by
          rw [lenK_step, if_pos (by unfold isPr; rw [hxe]; exact decide_eq_true h0)]
          omega)
        clear hfk hxe
        generalize gs[k] = R at *
        obtain ⟨L, l, r⟩ := R
        simp only at h0
        obtain rfl := empty_arr h0
        unfold agg3 at HK
        simp only at HK a0 a1 a2
        clear h0
        go_upto_region 6 with (first | (refine (HK.out _).mono ?_
                                        rintro e w6 ⟨rfl, hB6⟩))
        have hb7 := (((Below.refl _ wo).alloc (Nat.le_refl _) (.cells #[.string ⟨#[]⟩, .int .i64 l, .int .i64 r] 128)).trans (hB6.mono (by simp))).alloc (Nat.le_trans (by simp) hB6.size) (.cells #[.string ⟨#[]⟩, .int .i64 0, .int .i64 0] 132)
        have HB7 := Lib.hid (HBO.out.trans (hb7.mono HBO.out.size))
        clear hb7 hB6 a0 a1 a2 HK
        generalize w6.alloc (.cells #[.string ⟨#[]⟩, .int .i64 0, .int .i64 0] 132) = w7 at *
        have HN9 : Hid (∃ k' : Nat, k' ≤ N ∧ (.int .i64 ((k : Int) + 1) : Value) = .int .i64 k' ∧ (.int .i64 (lenK gs u (cd x.ou x.nx gs) k) : Value) = .int .i64 (lenK gs u (cd x.ou x.nx gs) k') ∧ Below w1.heap.size w1 w7) := Lib.hid ⟨k + 1, hkn, by simp, by rw [HNX.out], HB7.out⟩
        generalize lenK gs u (cd x.ou x.nx gs) k = S at *
        go_wp2_with fail
        go_roundw
        all_goals first | exact HN9.out | ((repeat apply Exists.intro); exact ⟨HN9.out, rfl⟩) | (simp [intOf]; done) | (simp [intOf]; omega) | omega
      · have hp : isPr gs k = false := by unfold isPr; rw [hxe]; exact decide_eq_false h0
        obtain ⟨b, hLb, hb1, hb2, hb3⟩ := letter_byte h0 hfk
        have HK := Lib.hid (fun W => kind_letter gs[k] h0 W)
        have HT := tm_ll
        have hng : 0 < gs.length := by omega
        obtain ⟨HA, HP, HL⟩ := HLF.out hng
        have HMT := Lib.hid (HM.out hng)
        obtain ⟨d, hd⟩ : ∃ d : Nat, d = b.toNat - 97 := ⟨_, rfl⟩
        have hd4 : d < 4 := by omega
        have hbd : (b.toNat : Int) = (d : Int) + 97 := by omega
        have hlt : ltNo gs[k] = d := by omega
        have HCD : Hid (∀ t, cd x.ou x.nx gs k t = ((oW x.ou t d).size : Int)) := Lib.hid (fun t => by
          rw [cd_letter hkg (by rw [hxe]; exact h0), hxe, hlt]
          rfl)
        have HS0 : Hid (lenK gs u (cd x.ou x.nx gs) k = lenS x.ou x.nx gs u k 0) := Lib.hid lenS_zero.symm
        have HS9 := Lib.hid (lenS_all (ou := x.ou) (nx := x.nx) (u := u) hp)
        have HLB := Lib.hid (fun t ht => HL k t hkg ht hp)
        clear hfk hxe HA HP HL hb1 hb2 hb3 hlt hp hng
        generalize gs[k] = R at *
        obtain ⟨L, l, r⟩ := R
        simp only at h0 hLb
        subst hLb
        unfold agg3 at HK
        simp only at HK a0 a1 a2
        clear h0
        go_upto_region 6 with (first | (refine (HK.out _).mono ?_
                                        rintro e w6 ⟨rfl, hB6⟩))
        have hb7 := (((Below.refl _ wo).alloc (Nat.le_refl _) (.cells #[.string ⟨#[b]⟩, .int .i64 l, .int .i64 r] 128)).trans (hB6.mono (by simp))).alloc (Nat.le_trans (by simp) hB6.size) (.cells #[.string ⟨#[b]⟩, .int .i64 l, .int .i64 r] 132)
        have HB7 := Lib.hid (HBO.out.trans (hb7.mono HBO.out.size))
        have HBK : Hid (w1.heap.size ≤ w6.heap.size) := Lib.hid (Nat.le_trans HBO.out.size (Nat.le_trans (by simp) hB6.size))
        have HKP := Lib.hid (heap_alloc_new w6 (.cells #[.string ⟨#[b]⟩, .int .i64 l, .int .i64 r] 132))
        obtain ⟨Kp, hKp⟩ : ∃ Kp, Kp = w6.heap.size := ⟨_, rfl⟩
        rw [← hKp] at HKP HBK ⊢
        have HKZ : Hid (Kp < (w6.alloc (.cells #[.string ⟨#[b]⟩, .int .i64 l, .int .i64 r] 132)).heap.size) := Lib.hid (by rw [hKp]; simp)
        clear hb7 hB6 a0 a1 a2 HK hKp
        generalize w6.alloc (.cells #[.string ⟨#[b]⟩, .int .i64 l, .int .i64 r] 132) = w7 at *
        have hX7 := (HB7.out.block _ HSZ.out).trans HX.out
        obtain ⟨q0, q8⟩ := HKEY.out w7 hX7
        obtain ⟨T', hTe, hown7⟩ := HTK.out w7 (HB.out.trans (HB7.out.mono HB.out.size))
        injection hTe with hTe1
        injection hTe1 with hTe1
        injection hTe1 with hTe1
        subst hTe1
        have HRM := Lib.hid (met_range hown7 hkg)
        have HMZ : Hid ((Try.prog.info? 138).map (·.size) = some (iv (metR u k)).length) := Lib.hid (by rw [size_tally, iv_len, metR_len])
        have HIX : Hid (∀ t : Nat, t < 24 → ∀ W, (Instr.index 138 (.agg (iv (metR u k)).toArray) (.int .i64 (t : Int))).run Try.prog W = .ok (.int .i64 (u k t)) W) := Lib.hid (fun (t : Nat) (ht : t < 24) W => by rw [index_tally _ (metR_len _ _) t ht W, metR_getD ht])
        clear hX7 hown7
        go_wp2_with (first | (with_reducible refine wpList_load_mid rfl 138 _ rfl T (k * 24) rfl (iv (metR u k)) _ HRM.out und_tally rfl HMZ.out ?_))
        rw [HS0.out]
        clear q0 q8
        go_loopw [3, 32] (fun v i wr => ∃ t : Nat, t ≤ 24 ∧ i = .int .i64 t ∧ v = .int .i64 (lenS x.ou x.nx gs u k t) ∧ wr.heap[Kp]? = some (.cells #[.string ⟨#[b]⟩, .int .i64 l, .int .i64 r] 132 (0, 0)) ∧ Below w1.heap.size w1 wr) (fun _ i _ => 24 - (intOf i).toNat)
        case atStart => exact ⟨0, by omega, rfl, rfl, HKP.out, HB7.out⟩
        case round =>
          obtain ⟨t, ht, rfl, rfl, hkp, hBs⟩ := hrel
          obtain ⟨wu, rfl⟩ : ∃ wu : World, wu = wr := ⟨_, rfl⟩
          by_cases ht24 : t < 24
          · have hix := HIX.out t ht24
            have hst := lenS_step (ou := x.ou) (nx := x.nx) (gs := gs) (u := u) (k := k) (t := t)
            have hpos := HMT.out.pos k t
            by_cases hz : u k t = 0
            · rw [hz] at hix hst
              have HNX : Hid (∃ t' : Nat, t' ≤ 24 ∧ (.int .i64 ((t : Int) + 1) : Value) = .int .i64 t' ∧ (.int .i64 (lenS x.ou x.nx gs u k t) : Value) = .int .i64 (lenS x.ou x.nx gs u k t') ∧ wu.heap[Kp]? = some (.cells #[.string ⟨#[b]⟩, .int .i64 l, .int .i64 r] 132 (0, 0)) ∧ Below w1.heap.size w1 wu) := Lib.hid ⟨t + 1, ht24, by simp, by rw [hst, Int.zero_mul, Int.add_zero], hkp, hBs⟩
              clear hst hkp hBs hz hpos
              generalize lenS x.ou x.nx gs u k t = S at *
              go_wp2_with fail
              go_roundw
              all_goals first | exact HNX.out | ((repeat apply Exists.intro); exact ⟨HNX.out, rfl⟩) | (simp [intOf]; done) | (simp [intOf]; omega) | omega
            · have htn : t < x.nx.length := by
                apply Nat.lt_of_not_le
                intro h9
                exact hz (HMT.out.out k t h9)
              have hBw := HB.out.trans (hBs.mono HB.out.size)
              have HW := Lib.hid (HWR.out t d b l r wu hBw htn hd4 hbd)
              have l1 := HLB.out t ht
              have l2 := HLB.out (t + 1) ht24
              have HX9 := Lib.hid ((hBs.block _ HSZ.out).trans HX.out)
              obtain ⟨k0', k1', k2'⟩ := rule3_cellsM hkp
              rw [HCD.out t] at hst
              have HST := Lib.hid hst
              have hz1 : (0 : Int) < u k t := by omega
              have hmn : 0 ≤ u k t * ((oW x.ou t d).size : Int) := Int.mul_nonneg hpos (by omega)
              have hw1 : IntKind.i64.wrap (u k t * ((oW x.ou t d).size : Int)) = u k t * ((oW x.ou t d).size : Int) := by rw [IntKind.wrap_i64]; omega
              have hw2 : IntKind.i64.wrap (lenS x.ou x.nx gs u k t + u k t * ((oW x.ou t d).size : Int)) = lenS x.ou x.nx gs u k t + u k t * ((oW x.ou t d).size : Int) := by rw [IntKind.wrap_i64]; omega
              have HBS := Lib.hid hBs
              have HKQ := Lib.hid hkp
              have hkz : Kp < wu.heap.size := (Array.getElem?_eq_some_iff.1 hkp).1
              have HKL := Lib.hid hkz
              have hlt2 : Hid (∀ S', S' = lenS x.ou x.nx gs u k t + u k t * ((oW x.ou t d).size : Int) → S' = lenS x.ou x.nx gs u k (t + 1)) := Lib.hid (fun S' h => by rw [h, HST.out])
              clear hst hkp hBs hz hpos l1 l2 hmn hBw hkz
              generalize lenS x.ou x.nx gs u k t = S at *
              generalize u k t = ut at *
              generalize oW x.ou t d = ow at *
              go_wp2_with (first | (with_reducible refine wpList_load_rowD HU.out.2 rfl 79 _ rfl w.heap.size rfl 79 _ _ HX9.out HU.out.1 HSF.out ?_) | fail)
              refine HW.out.mono ?_
              rintro e w9 ⟨rfl, hB9⟩
              have HB9 := Lib.hid (HBS.out.trans (hB9.mono HBS.out.size))
              have HK9 := Lib.hid ((hB9.block Kp HKL.out).trans HKQ.out)
              clear hB9 k0' k1' k2'
              go_wp2_with fail
              go_roundw
              all_goals first | exact ⟨t + 1, by omega, by go_num, by rw [hlt2.out _ rfl], HK9.out, HB9.out⟩ | ((repeat apply Exists.intro); exact ⟨⟨t + 1, by omega, by go_num, by rw [hlt2.out _ rfl], HK9.out, HB9.out⟩, rfl⟩) | (simp [intOf]; done) | (simp [intOf]; omega) | omega
          · obtain rfl : t = 24 := by omega
            have HN9 : Hid (∃ k' : Nat, k' ≤ N ∧ (.int .i64 ((k : Int) + 1) : Value) = .int .i64 k' ∧ (.int .i64 (lenS x.ou x.nx gs u k 24) : Value) = .int .i64 (lenK gs u (cd x.ou x.nx gs) k') ∧ Below w1.heap.size w1 wu) := Lib.hid ⟨k + 1, hkn, by simp, by rw [HS9.out], hBs⟩
            clear hkp hBs
            generalize lenS x.ou x.nx gs u k 24 = S at *
            go_wp2_with fail
            go_roundw
            all_goals first | exact HN9.out | ((repeat apply Exists.intro); exact ⟨HN9.out, rfl⟩) | (simp [intOf]; done) | (simp [intOf]; omega) | omega
    · obtain rfl : k = N := by omega
      have HE : Hid (lenK gs u (cd x.ou x.nx gs) k = cdT x.ou x.nx gs go) := Lib.hid (by
        by_cases hz : gs.length = 0
        · unfold cdT
          rw [if_pos hz, HNE.out, hz]
          rfl
        · rw [HNE.out]
          exact (HLF.out (by omega)).1)
      have HBF := Lib.hid (HB.out.trans (hB.mono HB.out.size))
      rw [HE.out]
      clear hB
      go_wp2_with fail
      go_ret
      exact ⟨rfl, HBF.out⟩
end Go.Proofs.Ytapemoehcohjgaa
namespace Go.Proofs.Ytapemoehcohjgaa
open Go.RowKit
open Wd
set_option linter.unusedVariables false
namespace Wd
/-- the length of a code, as far as the greatest and one more -/
def cdm (ou : List (List ByteArray)) (nx : List (List Int)) (gs : List Rl) (j s : Nat) : Int := min 1000000000000001 (cd ou nx gs j s)
end Wd
theorem minD_any (a b : Int) (w : World) : Calls Try.prog 98 #[.int .i64 a, .int .i64 b] w fun e w' => e = .returned (.int .i64 (min a b)) ∧ w' = w := by
  by_cases h : a < b
  · go_enter Try.func98, Try.ntmps98
    go_wp2
    go_ret
    exact ⟨ret_int (by omega), rfl⟩
  · have h' : decide (a < b) = false := decide_eq_false h
    go_enter Try.func98, Try.ntmps98
    go_wp2
    go_ret
    exact ⟨ret_int (by omega), rfl⟩
theorem rowsF_at {u : Nat → Nat → Int} {k N j s : Nat} (h : j < k) (hs : s < N) : ∃ h1 : j < (rowsF u k N).length, ∃ h2 : s < (rowsF u k N)[j].length, (rowsF u k N)[j].length = N ∧ (rowsF u k N)[j][s] = u j s := by
  have hl : (rowsF u k N)[j]'(by rw [rowsF_len]; exact h) = rowF (u j) N := by
    have := rowsF_get (u := u) (n := k) (N := N) h
    rw [List.getElem?_eq_getElem (by rw [rowsF_len]; exact h)] at this
    exact Option.some.inj this
  refine ⟨by rw [rowsF_len]; exact h, by rw [hl, rowF_len]; exact hs, by rw [hl, rowF_len], ?_⟩
  have h2 := rowF_get (f := u j) hs
  rw [List.getElem?_eq_getElem (by rw [rowF_len]; exact hs)] at h2
  simp only [hl]
  exact Option.some.inj h2
theorem mapsN_atD {nx : List (List Int)} {gs : List Rl} {N k j s : Nat} (h : j < k) (hs : s < N) (hr : ((mapsK nx gs k).getD j []).length = 24) (hN : N ≤ 24) : ∃ h1 : j < (mapsN nx gs N k).length, ∃ h2 : s < (mapsN nx gs N k)[j].length, (mapsN nx gs N k)[j].length = N ∧ (mapsN nx gs N k)[j][s] = at2 (mapsK nx gs k) j s := by
  have hj : j < (mapsK nx gs k).length := by rw [mapsK_len]; exact h
  have he : (mapsK nx gs k).getD j [] = (mapsK nx gs k)[j] := by rw [List.getD_eq_getElem?_getD, List.getElem?_eq_getElem hj]; rfl
  rw [he] at hr
  have hl : ((mapsK nx gs k)[j].take N).length = N := by rw [List.length_take, hr]; omega
  refine ⟨by rw [mapsN_len]; exact h, by unfold mapsN; rw [List.getElem_map, hl]; exact hs, by unfold mapsN; rw [List.getElem_map, hl], ?_⟩
  unfold at2
  rw [he, List.getD_eq_getElem?_getD, List.getElem?_eq_getElem (by omega), Option.getD_some]
  simp only [mapsN, List.getElem_map, List.getElem_take]
/-- the cells of a table's entry -/
theorem ll_getD {w : World} {v : Value} {Z : List (List Int)} (h : IsLL w v Z) {j s : Nat} (hj : j < Z.length) (hs : s < Z[j].length) : ∃ a x c c2, v = .slice (some a) Z.length c ∧ w.cell? (a.add j) = some (.slice (some x) Z[j].length c2) ∧ w.cell? (x.add s) = some (.int .i64 Z[j][s]) := by
  obtain ⟨A, c, rfl, h0 | ⟨a, rfl, hc⟩⟩ := h
  · rw [h0] at hj; simp at hj
  · obtain ⟨u, h1, h2⟩ := hc j hj
    obtain ⟨A2, c2, rfl, h0 | ⟨x, rfl, hx⟩⟩ := h2
    · rw [h0] at hs; simp at hs
    · exact ⟨a, x, c, c2, rfl, h1, hx s hs⟩
/-- between two states of a rule: besides, the copy of the rule -/
def CdIn (w : World) (y : Value) (U : List Value) (Z : List (List Int)) (B : Nat) (row : List Int) (Kp : Nat) (x : Rl) (s : Nat) (tv : Value) (wr : World) : Prop :=
  InS w y U Z B row s tv wr ∧ wr.heap[Kp]? = some (.cells #[.string x.L, .int .i64 x.l, .int .i64 x.r] 128 (0, 0))
theorem CdIn.drewN {w wr : World} {y tv : Value} {U : List Value} {Z : List (List Int)} {B Kp s : Nat} {row : List Int} {x : Rl} (h : CdIn w y U Z B row Kp x s tv wr) (m : Nat) : CdIn w y U Z B row Kp x s tv (wr.drewN m) :=
  ⟨h.1.kept (below_drewN (Below.refl _ _) m), h.2⟩
theorem CdIn.append {w wr w5 : World} {y tv tv' : Value} {U : List Value} {Z : List (List Int)} {B Kp s : Nat} {row : List Int} {x : Rl} {o : Obj} {z : Int} (h : CdIn w y U Z B row Kp x s tv wr) (hwB : w.heap.size ≤ B)
    (hU : ∀ u ∈ U, ∀ q, u.ownBlock = some q → q < B) (hy : ∀ q, y.ownBlock = some q → q < B) (hs : s < row.length) (hK : B = Kp + 1) (hz : row[s] = z)
    (hown : w5.ownsRow B 2 1 tv' (s + 1) (iv (row.take s) ++ [.int .i64 z])) (hg : (wr.alloc o).grownBy w5 tv.ownBlock) : CdIn w y U Z B row Kp x (s + 1) tv' w5 := by
  subst hz
  have hlt : Kp < wr.heap.size := by have := h.1.2.2.2; omega
  refine ⟨InS.append h.1 hwB hU hy hs hown hg, ?_⟩
  rw [hg.block Kp (by simp; omega) (fun e => by have := (h.1.2.1.lt Kp e.symm).1; omega), ((Below.refl _ wr).alloc (Nat.le_refl _) o).block Kp hlt]
  exact h.2
set_option maxRecDepth 100000 in
set_option maxHeartbeats 3200000 in
theorem l04Coded_any (pm pg : Nat) (nv ov mv : Value) (x : Co) (gs : List Rl) (w : World) (hv : cOk x = true) (hok : gOk gs = true) (hC : B4 w pm (.int .i64 x.st) (.int .i64 x.go) nv ov 33) (hN : IsLL w nv x.nx) (hO : IsSLL w ov x.ou) (hg : GP w pg gs) (hM : IsLL w mv (mapsN x.nx gs x.nx.length gs.length)) :
    Calls Try.prog 72 #[.pointer (some ⟨pm, 0, none⟩), .pointer (some ⟨pg, 0, none⟩), mv] w fun e w' => ∃ y, e = .returned y ∧ IsLL w' y (rowsF (cdm x.ou x.nx gs) gs.length x.nx.length) ∧ Below w.heap.size w w' := by
  obtain ⟨i0, hi, hz0, hz1, hz2⟩ := info_parts Try.info_ints
  obtain ⟨j0, hj, hy0, hy1, hy2⟩ := info_parts Try.info_int64
  obtain ⟨h1, h2, h3, h4, h5, h6⟩ := cOk_facts hv
  obtain ⟨st, go, nx, ou⟩ := x
  simp only at *
  have hfit := (gOk_iff.1 hok).2.1
  have hn := gOk_len hok
  have hN24 : nx.length ≤ 24 := by omega
  have HMAP := Lib.hid (fun k t (hk : k < gs.length) (ht : t < 24) => (show 0 ≤ at2 (mapsK nx gs gs.length) k t ∧ at2 (mapsK nx gs gs.length) k t < st from by
    have hma := mapsK_ok h3 h4 h1.1 h1.2 hfit gs.length (Nat.le_refl _) k hk
    unfold at2
    rw [List.getD_eq_getElem?_getD (i := t), List.getElem?_eq_getElem (by rw [hma.1]; omega), Option.getD_some]
    exact hma.2 _ (List.getElem_mem (show t < ((mapsK nx gs gs.length).getD k []).length by rw [hma.1]; omega))))
  have HM24 := Lib.hid (fun k (hk : k < gs.length) => (mapsK_ok h3 h4 h1.1 h1.2 hfit gs.length (Nat.le_refl _) k hk).1)
  have HCD := Lib.hid (fun k s (hk : k < gs.length) => cd_bd (ou := ou) (nx := nx) hfit (ou_few h6) gs.length k s hk hk)
  have HOB := Lib.hid (fun s l => oL_bd (ou_few h6) s l)
  have HFIT := Lib.hid hfit
  have HST := Lib.hid h4
  have HOL := Lib.hid h5
  have HOO := Lib.hid h6
  have HMV := Lib.hid hM
  have HOV := Lib.hid hO
  have HCB := Lib.hid hC
  obtain ⟨gv, hgv, Av, cv, rfl, hrc⟩ := hg
  obtain ⟨An, cn, rfl, _⟩ := hN
  obtain ⟨Ao, co, rfl, _⟩ := hO
  obtain ⟨Am, cm, hmv, _⟩ := hM
  rw [mapsN_len] at hmv
  subst hmv
  have HRC := Lib.hid hrc
  have HGV := Lib.hid hgv
  have HS := Lib.hid (MSt.start w _ rfl)
  obtain ⟨N, hNe⟩ : ∃ N, N = nx.length := ⟨_, rfl⟩
  obtain ⟨n, hne⟩ : ∃ n, n = gs.length := ⟨_, rfl⟩
  rw [← hNe] at hN24 HMV HCB
  rw [← hne] at hn hgv HMV
  rw [← hNe, ← hne]
  have HN := Lib.hid hNe
  have HNE := Lib.hid hne
  clear hrc h1 h2 h3 h4 h5 h6 hfit hok hv hC hNe hne
  go_enter Try.func72, Try.ntmps72
  go_wp2_with fail
  go_loopw [7, 8] (fun y i wr => ∃ k : Nat, k ≤ n ∧ i = .int .i64 k ∧ MSt w (rowsF (cdm ou nx gs) k N) y wr) (fun _ i _ => n - (intOf i).toNat)
  case atStart => exact ⟨0, Nat.zero_le _, rfl, HS.out⟩
  case round =>
    obtain ⟨k, hk, rfl, hst⟩ := hrel
    obtain ⟨wo, rfl⟩ : ∃ wo : World, wo = wr := ⟨_, rfl⟩
    obtain ⟨U, hm, hB⟩ := hst
    have HM := Lib.hid (And.intro hm hB)
    have hlenU := hm.len
    rw [rowsF_len] at hlenU
    obtain ⟨Ay, cy, hAy⟩ := own_slice hm.outer
    rw [hlenU] at hAy
    subst hAy
    have HLU := Lib.hid hlenU
    have hgo := (hB.cell (lt_of_cell HGV.out)).trans HGV.out
    rw [← HNE.out] at hgo
    clear hgv hlenU
    by_cases hkn : k < n
    · have hkg : k < gs.length := by rw [← HNE.out]; exact hkn
      rcases HRC.out with hn0 | ⟨g, rfl, hg, hc⟩
      · rw [hn0] at hkg; simp at hkg
      obtain ⟨a0, a1, a2⟩ := rules_cells hc hkg
      rw [← hB.cell (p := ⟨g, k * 3, none⟩) hg] at a0
      rw [← hB.cell (p := ⟨g, k * 3 + 1, none⟩) hg] at a1
      rw [← hB.cell (p := ⟨g, k * 3 + 2, none⟩) hg] at a2
      obtain ⟨row, hrw⟩ : ∃ row, row = rowF (cdm ou nx gs k) N := ⟨_, rfl⟩
      have HNX : Hid (rowsF (cdm ou nx gs) (k + 1) N = rowsF (cdm ou nx gs) k N ++ [row]) := Lib.hid (by rw [hrw]; exact rowsF_snoc _ _ _)
      have hrN : row.length = N := by rw [hrw, rowF_len]
      have HRV : Hid (∀ q (hq : q < N), row[q]'(by omega) = cdm ou nx gs k q) := Lib.hid (fun q hq => by
        have h2 := rowF_get (f := cdm ou nx gs k) hq
        rw [← hrw, List.getElem?_eq_getElem (by omega)] at h2
        exact Option.some.inj h2)
      have HXR := Lib.hid (rlAt_eq hkg)
      generalize hx : gs[k] = x at *
      have hx' : gs[k] = x := hx
      have hfk := fits_at HFIT.out k hkg
      rw [hx'] at hfk
      have HFK := Lib.hid hfk
      obtain ⟨L, l, r⟩ := x
      simp only at a0 a1 a2
      have hbk := (Below.refl _ wo).alloc (Nat.le_refl _) (.cells #[.string L, .int .i64 l, .int .i64 r] 128)
      have hKn := heap_alloc_new wo (.cells #[.string L, .int .i64 l, .int .i64 r] 128)
      have hB' : (wo.alloc (.cells #[.string L, .int .i64 l, .int .i64 r] 128)).heap.size = wo.heap.size + 1 := by simp
      obtain ⟨wk, hwk⟩ : ∃ wk, wk = wo.alloc (.cells #[.string L, .int .i64 l, .int .i64 r] 128) := ⟨_, rfl⟩
      rw [← hwk] at hbk hKn hB'
      have HSTB : Hid (CdIn w (.slice Ay k cy) U (rowsF (cdm ou nx gs) k N) wk.heap.size row wo.heap.size ⟨L, l, r⟩ 0 (.slice (some ⟨wk.heap.size, 0, none⟩) 0 0) (wk.alloc (.cells #[] 2))) := Lib.hid
        ⟨⟨(hm.kept hbk).kept ((Below.refl _ wk).alloc (Nat.le_refl _) _), World.ownsRow_lit (base := wk.heap.size) (e := 2) (size := 1) wk #[] 0 (Nat.le_refl _) (by decide) rfl, (hB.trans (hbk.mono hB.size)).alloc (Nat.le_trans hB.size hbk.size) _, by simp⟩, by
          rw [((Below.refl _ wk).alloc (Nat.le_refl _) (.cells #[] 2)).block wo.heap.size (by omega)]
          exact hKn⟩
      have HUB := Lib.hid (fun (u : Value) hu q (hq : u.ownBlock = some q) => show q < wk.heap.size from by have := (hm.rows.ge u hu q hq).2; omega)
      have HYB := Lib.hid (fun q (hq : (Value.slice Ay k cy).ownBlock = some q) => show q < wk.heap.size from by have := (hm.outer.lt q hq).2; omega)
      have HWB : Hid (w.heap.size ≤ wk.heap.size) := Lib.hid (Nat.le_trans hB.size hbk.size)
      obtain ⟨B, hBe⟩ : ∃ B, B = wk.heap.size := ⟨_, rfl⟩
      obtain ⟨Kp, hKp⟩ : ∃ Kp, Kp = wo.heap.size := ⟨_, rfl⟩
      rw [← hBe, ← hKp] at HSTB
      rw [← hBe] at HUB HYB HWB hB'
      rw [← hKp] at hB'
      have HKB := Lib.hid hB'
      clear hm hB hbk hKn hc hfk hx hx' hrw
      go_wp2_with fail
      rw [hwk] at HSTB
      rw [← hKp]
      rw [← hB']
      clear hBe hgo a0 a1 a2 hwk hB' hKp
      go_loopw [10, 11] (fun tv i wr => ∃ s : Nat, s ≤ N ∧ i = .int .i64 s ∧ CdIn w (.slice Ay k cy) U (rowsF (cdm ou nx gs) k N) B row Kp ⟨L, l, r⟩ s tv wr) (fun _ i _ => N - (intOf i).toNat)
      case atStart => exact ⟨0, Nat.zero_le _, rfl, HSTB.out⟩
      case round =>
        obtain ⟨s, hs, rfl, hst⟩ := hrel
        obtain ⟨wu, rfl⟩ : ∃ wu : World, wu = wr := ⟨_, rfl⟩
        obtain ⟨A3, c3, hA3⟩ := own_slice hst.1.2.1
        have hBu := hst.1.2.2.1
        obtain ⟨⟨p0, p1, p2, p3⟩, _⟩ := blk4_cells (HCB.out.kept hBu)
        by_cases hsN : s < N
        · rw [List.length_take, Nat.min_eq_left (by omega)] at hA3
          subst hA3
          have hs24 : s < 24 := by omega
          obtain ⟨kc0, kc1, kc2⟩ := rule3_cellsM hst.2
          have hBB : B ≤ wu.heap.size := hst.1.2.2.2
          have HSX := Lib.hid hst
          have HTN := Lib.hid (hst.1.1.isLL)
          have hzr := HRV.out s hsN
          have k0 : (0 : Int) ≤ (k : Int) := by omega
          have k1 : (k : Int) < (n : Int) := by omega
          have s0 : (0 : Int) ≤ (s : Int) := by omega
          have s1 : (s : Int) < (N : Int) := by omega
          clear hst
          go_upto_if 42 with fail
          go_cut [12] (fun v wx => v = .int .i64 (cdm ou nx gs k s) ∧ CdIn w (.slice Ay k cy) U (rowsF (cdm ou nx gs) k N) B row Kp ⟨L, l, r⟩ s (.slice A3 s c3) wx)
          case first =>
            by_cases h0 : L.size = 0
            · have hp := (ok_pair h0).1 HFK.out
              have he := empty_arr h0
              simp only at hp he
              obtain ⟨a, ha'⟩ : ∃ a : Nat, l = a := ⟨l.toNat, by omega⟩
              obtain ⟨b, hb'⟩ : ∃ b : Nat, r = b := ⟨r.toNat, by omega⟩
              have hcp := cd_pair (ou := ou) (nx := nx) (gs := gs) (k := k) (a := a) (b := b) (t := s) hkg (by rw [HXR.out]; exact h0) (by rw [HXR.out]; exact ha') (by rw [HXR.out]; exact hb') (by omega) (by omega)
              subst ha' hb' he
              have ha : a < k := by omega
              have hb : b < k := by omega
              have hqm := HMAP.out a s (by omega) hs24
              obtain ⟨q, hq⟩ : ∃ q : Nat, at2 (mapsK nx gs gs.length) a s = q := ⟨(at2 (mapsK nx gs gs.length) a s).toNat, by omega⟩
              have hqa : qAt nx gs a s = q := by unfold qAt; rw [hq]; rfl
              rw [hqa] at hcp
              have hqN : q < N := by have := HST.out; have := HN.out; omega
              obtain ⟨m1, m2, m3, m4⟩ := mapsN_atD (nx := nx) (gs := gs) (N := N) (k := n) (j := a) (s := s) (by omega) hsN (by rw [HNE.out]; exact HM24.out a (by omega)) hN24
              have m5 : at2 (mapsK nx gs n) a s = (q : Int) := by rw [HNE.out]; exact hq
              rw [m5] at m4
              obtain ⟨am, xm, cm1, cm2, hvm, g0, g1⟩ := ll_getD (HMV.out.kept hBu) m1 m2
              rw [m3] at g0
              rw [m4] at g1
              obtain ⟨o1, o2, o3, o4⟩ := rowsF_at (u := cdm ou nx gs) (k := k) (N := N) (j := a) (s := s) ha hsN
              obtain ⟨ay, xa, cy1, cy2, hvy, e0, e1⟩ := ll_getD HTN.out o1 o2
              rw [o3] at e0
              rw [o4] at e1
              obtain ⟨r1, r2, r3, r4⟩ := rowsF_at (u := cdm ou nx gs) (k := k) (N := N) (j := b) (s := q) hb hqN
              obtain ⟨ay2, xb, cy3, cy4, hvy2, f0, f1⟩ := ll_getD HTN.out r1 r2
              rw [r3] at f0
              rw [r4] at f1
              injection hvm with hvm hx1 hx2
              clear hx1 hx2
              injection hvy with hvy hx1 hx2
              clear hx1 hx2
              injection hvy2 with hvy2 hx1 hx2
              clear hx1 hx2
              subst hvm
              rw [hvy] at hvy2
              injection hvy2 with hvy2
              subst hvy2
              subst hvy
              have ba := (HCD.out a s (by omega)).1
              have bb := (HCD.out b q (by omega)).1
              have hz2 : min 1000000000000001 (cdm ou nx gs a s + cdm ou nx gs b q) = cdm ou nx gs k s := by
                unfold cdm
                rw [hcp]
                omega
              have ca0 : 0 ≤ cdm ou nx gs a s ∧ cdm ou nx gs a s ≤ 1000000000000001 := by unfold cdm; omega
              have cb0 : 0 ≤ cdm ou nx gs b q ∧ cdm ou nx gs b q ≤ 1000000000000001 := by unfold cdm; omega
              have HMI := Lib.hid (fun W => minD_any 1000000000000001 (cdm ou nx gs a s + cdm ou nx gs b q) W)
              rw [hz2] at HMI
              have hws : IntKind.i64.wrap (cdm ou nx gs a s + cdm ou nx gs b q) = cdm ou nx gs a s + cdm ou nx gs b q := by rw [IntKind.wrap_i64]; omega
              have a0' : (0 : Int) ≤ (a : Int) := by omega
              have a1' : (a : Int) < (k : Int) := by omega
              have a2' : (a : Int) < (n : Int) := by omega
              have b0' : (0 : Int) ≤ (b : Int) := by omega
              have b1' : (b : Int) < (k : Int) := by omega
              have q0' : (0 : Int) ≤ (q : Int) := by omega
              have q1' : (q : Int) < (N : Int) := by omega
              clear h0 hp hcp hqm hq hqa m1 m2 m3 m4 m5 o1 o2 o3 o4 r1 r2 r3 r4 ba bb hz2 ca0 cb0 hzr
              generalize cdm ou nx gs k s = Z at *
              generalize cdm ou nx gs a s = va at *
              generalize cdm ou nx gs b q = vb at *
              have hce : (⟨#[]⟩ : ByteArray).toList.isEmpty = true := by kernel_rfl
              rw [hce, Bool.not_true]
              go_upto_region 13 with fail
              go_quiet ((go_at_call_of 98 (Value.int .i64 1000000000000001); exact Calls.quiet_of_same (HMI.out _)))
              go_wp2_with fail
              go_meet
              first | exact ⟨rfl, CdIn.drewN HSX.out _⟩ | exact CdIn.drewN HSX.out _
            · obtain ⟨b, hL, hb1, hb2, hno⟩ := letter_byte h0 HFK.out
              have he := full_list h0
              simp only at hL he
              obtain ⟨d, hd⟩ : ∃ d : Nat, d = b.toNat - 97 := ⟨_, rfl⟩
              have hd1 : b.toNat = 97 + d := by omega
              have hd4 : d < 4 := by omega
              have hcl := cd_letter (ou := ou) (nx := nx) (gs := gs) (k := k) (t := s) hkg (by rw [HXR.out]; exact h0)
              rw [HXR.out, show ltNo ⟨L, l, r⟩ = d from by omega] at hcl
              have hob := HOB.out s d
              have hz2 : ((oW ou s d).size : Int) = cdm ou nx gs k s := by
                unfold cdm
                rw [hcl]
                have : oL ou s d = ((oW ou s d).size : Int) := rfl
                omega
              obtain ⟨ao, yo, co', co2, hov, o1, o2⟩ := sll_at (HOV.out.kept hBu) (j := s) (s := d) (by have := HST.out; have := HN.out; have := HOL.out; omega) HOO.out hd4
              injection hov with hov hx1 hx2
              clear hx1 hx2
              subst hov
              have HLT : Hid (∀ W, Calls Try.prog 47 #[.int .u8 ((((⟨#[b]⟩ : ByteArray)[0]'(Nat.zero_lt_one)).toNat : Nat) : Int)] W fun e W' => e = .returned (.int .i64 (d : Int)) ∧ W' = W) := Lib.hid (fun W => by
                show Calls Try.prog 47 #[.int .u8 ((b.toNat : Nat) : Int)] W _
                rw [hd1]
                exact letterN_any d hd4 W)
              have dd0 : (0 : Int) ≤ (d : Int) := by omega
              have dd1 : (d : Int) < 4 := by omega
              have ss1 : (s : Int) < (ou.length : Int) := by have := HST.out; have := HN.out; have := HOL.out; omega
              rw [hL] at he
              subst hL
              clear h0 hno hd hd1 hcl hob hb1 hb2 hzr
              have HZ2 := Lib.hid hz2
              clear hz2
              generalize oW ou s d = ow at *
              rw [he, Bool.not_false]
              go_upto_region 12 with fail
              go_quiet ((go_at_call 47; exact Calls.quiet_of_same (HLT.out _)))
              go_wp2_with fail
              go_meet
              first | exact ⟨by rw [HZ2.out], CdIn.drewN HSX.out _⟩ | exact CdIn.drewN HSX.out _
          case rest =>
            obtain ⟨rfl, hst⟩ := hcut
            obtain ⟨wv, rfl⟩ : ∃ wv : World, wv = wc := ⟨_, rfl⟩
            have hBB : B ≤ wv.heap.size := hst.1.2.2.2
            have HO : Hid (wv.ownsRow B 2 1 (.slice A3 s c3) s (iv (row.take s))) := Lib.hid (by
              have := hst.1.2.1
              unfold OwnsI at this
              rw [List.length_take, Nat.min_eq_left (by omega)] at this
              exact this)
            have HSY := Lib.hid hst
            have HZ := Lib.hid hzr
            have hsr : s < row.length := by omega
            clear hst hzr hBu p0 p1 p2 p3 kc0 kc1 kc2
            generalize cdm ou nx gs k s = Z at *
            go_wp2_with (first | (at_builtin; refine wpList_append_own _ rfl _ _ 45 rfl B 2 j0 (.int .i64 0) 1 8 Try.underlying45 hj hy0 hy1 hy2 rfl (by decide) _ _ _ rfl (World.ownsRow.alloc HO.out _) ⟨wv.heap.size, 0, none⟩ 1 1 [.int .i64 Z] rfl rfl (one_new _ _ _) (one_int _ _) (by unfold maxLen; omega) (by omega) (by simp; omega) ?_))
            intro v' w5 hown' hgr _
            have HN5 := Lib.hid (CdIn.append HSY.out HWB.out HUB.out HYB.out hsr HKB.out HZ.out hown' hgr)
            clear hown' hgr
            go_wp2_with fail
            go_roundw
            all_goals first | exact ⟨s + 1, by omega, by go_num, HN5.out⟩ | ((repeat apply Exists.intro); exact ⟨⟨s + 1, by omega, by go_num, HN5.out⟩, rfl⟩) | (simp [intOf]; done) | (simp [intOf]; omega) | omega
        · obtain rfl : s = N := by omega
          rw [List.length_take, Nat.min_eq_left (by omega)] at hA3
          subst hA3
          have hws : w.heap.size ≤ wu.heap.size := hBu.size
          have HIS := Lib.hid hst.1
          have HFR : Hid (∀ q ∈ U, q.ownBlock = none ∨ q.ownBlock ≠ (Value.slice A3 s c3).ownBlock) := Lib.hid (fun q hq => by
            cases e : q.ownBlock with
            | none => exact .inl rfl
            | some g => exact .inr fun e' => by have h1 := HUB.out q hq g e; have h2 := (hst.1.2.1.lt g e'.symm).1; omega)
          have HOU : Hid (∀ o, (wu.alloc o).ownsRow w.heap.size 45 1 (.slice Ay k cy) k U) := Lib.hid (fun o => by
            have := hst.1.1.outer
            rw [HLU.out] at this
            exact this.alloc o)
          have HRF : Hid (row.take s = row) := Lib.hid (List.take_of_length_le (by omega))
          clear hst hBu
          go_wp2_with (first | (at_builtin; refine wpList_append_own _ rfl _ _ 22 rfl w.heap.size 45 i0 (.slice none 0 0) 1 24 Try.underlying22 hi hz0 hz1 hz2 rfl (by decide) _ _ _ rfl (HOU.out _) ⟨wu.heap.size, 0, none⟩ 1 1 [.slice A3 s c3] rfl rfl (one_new _ _ _) (one_slice _ _ _) (by unfold maxLen; omega) (by omega) (by simp; omega) ?_))
          intro y' w6 hown hg6 _
          have HST6 : Hid (MSt w (rowsF (cdm ou nx gs) (k + 1) s) y' w6) := Lib.hid (by
            rw [HNX.out]
            refine ⟨U ++ [.slice A3 s c3], HIS.out.1.snoc (own_lower (by have := HIS.out.2.1; rwa [HRF.out] at this) HWB.out) HFR.out (by rw [HLU.out]; exact hown) hg6, ?_⟩
            exact (HIS.out.2.2.1.alloc hws _).grown hg6 (by simp; omega) (fun q hq => (HIS.out.1.outer.lt q hq).1))
          clear hown hg6 p0 p1 p2 p3
          go_wp2_with fail
          go_roundw
          all_goals first | exact ⟨k + 1, by omega, by go_num, HST6.out⟩ | ((repeat apply Exists.intro); exact ⟨⟨k + 1, by omega, by go_num, HST6.out⟩, rfl⟩) | (simp [intOf]; done) | (simp [intOf]; omega) | omega
    · obtain rfl : k = n := by omega
      have HLL := Lib.hid hm.isLL
      clear hm hB
      go_wp2_with fail
      go_ret
      exact ⟨_, rfl, HLL.out, HM.out.2⟩
end Go.Proofs.Ytapemoehcohjgaa
namespace Go.Proofs.Ytapemoehcohjgaa
open Go.RowKit
open Wd
set_option linter.unusedVariables false
theorem wrongW_any (s : ByteArray) (w : World) (hs : s.size ≤ maxLen) :
    Calls Try.prog 65 #[.string s] w fun e w' => e = .returned (.bool (!outOk s)) ∧ w' = w := by
  have HO := Lib.hid (fun W => implOk s W hs)
  unfold maxLen at hs
  by_cases hbig : 6 < s.size
  · rw [outOk_big hbig]
    have hd : decide ((6 : Int) < (s.size : Int)) = true := decide_eq_true (by omega)
    have hd2 : decide (6 < s.size) = true := decide_eq_true hbig
    clear HO hbig
    go_enter Try.func65, Try.ntmps65
    go_wp2_with fail
    go_ret
    exact ⟨rfl, rfl⟩
  · rw [outOk_few (by omega)]
    have hd : decide ((6 : Int) < (s.size : Int)) = false := decide_eq_false (by omega)
    have hd2 : decide (6 < s.size) = false := decide_eq_false hbig
    clear hbig
    cases ho : okL s.data.toList
    all_goals
      rw [ho] at HO
      clear ho
      go_enter Try.func65, Try.ntmps65
      go_wp2_with fail
      refine (HO.out _).mono ?_
      rintro e w5 ⟨rfl, rfl⟩
      go_wp2_with fail
      go_ret
      exact ⟨rfl, rfl⟩
set_option maxRecDepth 100000 in
set_option maxHeartbeats 1600000 in
theorem indexG_any (v : Value) (zs : List ByteArray) (w : World) (hl : zs.length ≤ 1048576) (ht : ∀ s ∈ zs, s.size ≤ maxLen) (h : IsSL w v zs) :
    Calls Try.prog 96 #[v, .func (.func 65) #[] #[]] w fun e w' => ∃ y, e = .returned (.int .i64 y) ∧ w' = w ∧ ((zs.all outOk = true ∧ y = -1) ∨ (zs.all outOk = false ∧ 0 ≤ y)) := by
  obtain ⟨A, c, rfl, hin⟩ := h
  have HI := Lib.hid hin
  obtain ⟨N, hN⟩ : ∃ N, N = zs.length := ⟨_, rfl⟩
  rw [← hN] at hl ⊢
  have HN := Lib.hid hN
  have HC := Lib.hid (fun s (h : s.size ≤ maxLen) => wrongW_any s w h)
  have HTX := Lib.hid ht
  clear hin hN ht
  go_enter Try.func96, Try.ntmps96
  go_wp2_with fail
  go_loopw [8] (fun i wr => ∃ k : Nat, k ≤ N ∧ i = .int .i64 k ∧ (∀ j (hj : j < zs.length), j < k → outOk zs[j] = true) ∧ wr = w) (fun i _ => N - (intOf i).toNat)
  case atStart => exact ⟨0, Nat.zero_le _, rfl, fun j hj h => by omega, rfl⟩
  case round =>
    obtain ⟨k, hk, rfl, hall, rfl⟩ := hrel
    have HA := Lib.hid hall
    clear hall
    by_cases hlt : k < N
    · have hkg : k < zs.length := by rw [← HN.out]; exact hlt
      rcases HI.out with hn | ⟨x, rfl, hc⟩
      · rw [hn] at hkg; simp at hkg
      have c0 := hc k hkg
      have HBAD : Hid (¬ (outOk zs[k] = true) → zs.all outOk = false) := Lib.hid (fun h => by
        rw [List.all_eq_false]
        exact ⟨zs[k], List.getElem_mem hkg, h⟩)
      have HG2 : Hid ((outOk zs[k] = true) → ∀ j (hj : j < zs.length), j < k + 1 → outOk zs[j] = true) := Lib.hid (fun h j hj hjq => by
        by_cases e : j = k
        · subst e; exact h
        · exact HA.out j hj (by omega))
      have HW := Lib.hid (HC.out zs[k] (HTX.out _ (List.getElem_mem hkg)))
      generalize zs[k] = z at *
      clear hc hkg
      by_cases hb : outOk z = true
      · rw [hb] at HW
        have HNX := Lib.hid (HG2.out hb)
        clear hb HBAD HG2 HC
        go_wp2_with fail
        refine HW.out.mono ?_
        rintro e w5 ⟨rfl, rfl⟩
        go_wp2_with fail
        go_roundw
        all_goals first | exact ⟨k + 1, by omega, by go_num, HNX.out, by first | rfl | trivial⟩ | ((repeat apply Exists.intro); exact ⟨⟨k + 1, by omega, by go_num, HNX.out, by first | rfl | trivial⟩, by first | rfl | trivial⟩) | (simp [intOf]; done) | (simp [intOf]; omega) | omega
      · rw [(Bool.not_eq_true _).mp hb] at HW
        have HF := Lib.hid (HBAD.out hb)
        clear hb HBAD HG2 HC
        go_wp2_with fail
        refine HW.out.mono ?_
        rintro e w5 ⟨rfl, rfl⟩
        go_wp2_with fail
        go_ret
        exact ⟨_, rfl, rfl, .inr ⟨HF.out, by omega⟩⟩
    · obtain rfl : k = N := by omega
      have HT : Hid (zs.all outOk = true) := Lib.hid (by
        rw [List.all_eq_true]
        intro r hr
        obtain ⟨j, hj, e⟩ := List.getElem_of_mem hr
        rw [← e]
        exact HA.out j hj (by rw [HN.out]; exact hj))
      clear HC
      go_wp2_with fail
      go_ret
      exact ⟨_, rfl, rfl, .inl ⟨HT.out, rfl⟩⟩
theorem containsG_any (v : Value) (zs : List ByteArray) (w : World) (hl : zs.length ≤ 1048576) (ht : ∀ s ∈ zs, s.size ≤ maxLen) (h : IsSL w v zs) :
    Calls Try.prog 66 #[v, .func (.func 65) #[] #[]] w fun e w' => e = .returned (.bool (!zs.all outOk)) ∧ w' = w := by
  have HX := Lib.hid (indexG_any v zs w hl ht h)
  obtain ⟨A, c, rfl, _⟩ := h
  clear ht
  go_enter Try.func66, Try.ntmps66
  go_wp2_with fail
  refine HX.out.mono ?_
  rintro e w5 ⟨y, rfl, rfl, ⟨ha, rfl⟩ | ⟨ha, hy⟩⟩
  · have HA := Lib.hid ha
    clear ha
    go_wp2_with fail
    go_ret
    exact ⟨by rw [HA.out] <;> rfl, rfl⟩
  · have HA := Lib.hid ha
    have hd : decide (0 ≤ y) = true := decide_eq_true hy
    clear ha
    go_wp2_with fail
    go_ret
    exact ⟨by rw [HA.out] <;> first | rfl | (simp; done) | simp [hd], rfl⟩
end Go.Proofs.Ytapemoehcohjgaa
namespace Go.Proofs.Ytapemoehcohjgaa
open Go.RowKit
open Wd
set_option linter.unusedVariables false
theorem cOk_eq (x : Co) : cOk x = (stepsOk x.st x.go x.nx && (decide ((x.ou.length : Int) = x.st) && x.ou.all orowOk)) := by
  unfold cOk stepsOk
  rw [show (decide (0 ≤ x.go ∧ x.go ≤ x.st - 1)) = decide (0 ≤ x.go ∧ x.go < x.st) from by congr 1; rw [eq_iff_iff]; omega]
  simp only [Bool.and_assoc, Bool.and_comm, Bool.and_left_comm]
set_option maxRecDepth 100000 in
set_option maxHeartbeats 3200000 in
theorem implValidCoder (v : Value) (x : Co) (w : World) (hf : FewC x) (h : IsCo w v x) :
    Calls Try.prog 31 #[v] w fun e w' => e = .returned (.bool (cOk x)) ∧ Below w.heap.size w w' := by
  rw [cOk_eq]
  obtain ⟨n, o, rfl, hN, hO⟩ := h
  obtain ⟨st, go, nx, ou⟩ := x
  simp only at hN hO ⊢
  have hf1 := hf.nx
  have hf2 := hf.row
  have hf3 := hf.ou
  have hf4 := hf.orow
  have hf5 := hf.txt
  simp only at hf1 hf2 hf3 hf4 hf5
  have hb := (Below.refl _ w).alloc (Nat.le_refl _) (.cells #[.int .i64 st, .int .i64 go, n, o] 33)
  have hP := heap_alloc_new w (.cells #[.int .i64 st, .int .i64 go, n, o] 33)
  have HS := Lib.hid (steps_any st go n nx _ hf1 hf2 (hN.kept hb))
  have HOK := Lib.hid (fun W (h : Below w.heap.size w W) => hO.kept h)
  obtain ⟨An, cn, rfl, hx⟩ := hN
  obtain ⟨A, c, rfl, hin⟩ := hO
  have HB := Lib.hid hb
  have HP := Lib.hid hP
  have HW := Lib.hid (show w.heap.size < (w.alloc (.cells #[.int .i64 st, .int .i64 go, .slice An nx.length cn, .slice A ou.length c] 33)).heap.size by simp)
  clear hb hP hin hf hx
  cases hs : stepsOk st go nx
  · rw [hs] at HS
    rw [Bool.false_and]
    clear hs
    go_enter Try.func31, Try.ntmps31
    go_wp2_with fail
    refine HS.out.mono ?_
    rintro e w1 ⟨rfl, hB1⟩
    have HB1 := Lib.hid (HB.out.trans (hB1.mono (by simp)))
    clear hB1
    go_wp2_with fail
    go_ret
    exact ⟨rfl, HB1.out⟩
  · rw [hs] at HS
    rw [Bool.true_and]
    clear hs
    obtain ⟨N, hN⟩ : ∃ N, N = ou.length := ⟨_, rfl⟩
    have HN := Lib.hid hN
    by_cases h4 : (ou.length : Int) = st
    · rw [decide_eq_true h4, Bool.true_and]
      rw [← hN] at hf3 HB HP HS HW HOK h4 ⊢
      have hbe : ((N : Int) != st) = false := by simp [h4]
      clear h4 hN
      go_enter Try.func31, Try.ntmps31
      go_wp2_with fail
      refine HS.out.mono ?_
      rintro e w1 ⟨rfl, hB1⟩
      have HB1 := Lib.hid (HB.out.trans (hB1.mono (by simp)))
      have hP1 := (hB1.block w.heap.size HW.out).trans HP.out
      obtain ⟨⟨p0, p1, p2, p3⟩, _⟩ := blk4_cells hP1
      have HO1 := Lib.hid (HOK.out w1 HB1.out)
      clear hB1 hP1 HB HP HS HW HOK
      go_wp2_with fail
      clear p0 p1 p2 p3 hbe
      go_loopw [25] (fun i wr => ∃ k : Nat, k ≤ N ∧ i = .int .i64 k ∧ (∀ j (hj : j < ou.length), j < k → orowOk ou[j] = true) ∧ wr = w1) (fun i _ => N - (intOf i).toNat)
      case atStart => exact ⟨0, Nat.zero_le _, rfl, fun j hj h => by omega, rfl⟩
      case round =>
        obtain ⟨k, hk, rfl, hall, rfl⟩ := hrel
        have HALL := Lib.hid hall
        clear hall
        by_cases hlt : k < N
        · have hkg : k < ou.length := by rw [← HN.out]; exact hlt
          obtain ⟨Ax, cx, hvx, hcx⟩ := HO1.out
          injection hvx with hvA hvn hvc
          subst hvA hvc
          rcases hcx with hn | ⟨x, rfl, hc⟩
          · rw [hn] at hkg; simp at hkg
          obtain ⟨u, c0, hrow⟩ := hc k hkg
          have HC := Lib.hid (containsG_any u ou[k] _ (hf4 _ (List.getElem_mem hkg)) (hf5 _ (List.getElem_mem hkg)) hrow)
          have HBAD : Hid (orowOk ou[k] = false → ou.all orowOk = false) := Lib.hid (fun h => by
            rw [List.all_eq_false]
            exact ⟨ou[k], List.getElem_mem hkg, by rw [h]; decide⟩)
          have HGOOD : Hid (orowOk ou[k] = true → ∀ j (hj : j < ou.length), j < k + 1 → orowOk ou[j] = true) := Lib.hid (fun h j hj hjk => by
            by_cases e : j = k
            · subst e; exact h
            · exact HALL.out j hj (by omega))
          generalize ou[k] = r at *
          obtain ⟨A2, c2, rfl⟩ := hrow.shape
          obtain ⟨m, hm'⟩ : ∃ m, m = r.length := ⟨_, rfl⟩
          rw [← hm'] at c0 HC
          have HM := Lib.hid hm'
          clear hrow hc hm' hvn
          by_cases h4 : m = 4
          · subst h4
            cases ha : r.all outOk
            · rw [ha] at HC
              have HF := Lib.hid (HBAD.out (by unfold orowOk; rw [ha, Bool.and_false]))
              clear ha HBAD HGOOD HALL
              go_wp2_with fail
              refine HC.out.mono ?_
              rintro e w5 ⟨rfl, rfl⟩
              go_wp2_with fail
              go_ret
              exact ⟨by rw [HF.out] <;> rfl, HB1.out⟩
            · rw [ha] at HC
              have HNX := Lib.hid (HGOOD.out (by unfold orowOk; rw [ha, ← HM.out]; rfl))
              clear ha HBAD HGOOD HALL
              go_wp2_with fail
              refine HC.out.mono ?_
              rintro e w5 ⟨rfl, rfl⟩
              go_wp2_with fail
              go_roundw
              all_goals first | exact ⟨k + 1, by omega, by go_num, HNX.out, by first | rfl | trivial⟩ | ((repeat apply Exists.intro); exact ⟨⟨k + 1, by omega, by go_num, HNX.out, by first | rfl | trivial⟩, by first | rfl | trivial⟩) | (simp [intOf]; done) | (simp [intOf]; omega) | omega
          · have hne : ¬ (m : Int) = 4 := by omega
            have HF := Lib.hid (HBAD.out (by unfold orowOk; rw [← HM.out, decide_eq_false h4]; rfl))
            clear HBAD HGOOD HALL HC
            go_wp2_with fail
            go_ret
            exact ⟨by rw [HF.out] <;> rfl, HB1.out⟩
        · obtain rfl : k = N := by omega
          have HT : Hid (ou.all orowOk = true) := Lib.hid (by
            rw [List.all_eq_true]
            intro r hr
            obtain ⟨j, hj, e⟩ := List.getElem_of_mem hr
            rw [← e]
            exact HALL.out j hj (by rw [HN.out]; exact hj))
          clear HALL
          go_wp2_with fail
          go_ret
          exact ⟨by rw [HT.out] <;> rfl, HB1.out⟩
    · rw [decide_eq_false h4, Bool.false_and]
      rw [← hN] at HB HP HS HW h4 ⊢
      have hbe : ((N : Int) != st) = true := by simp [h4]
      clear h4 hN hf3 hf4 hf5 HOK
      go_enter Try.func31, Try.ntmps31
      go_wp2_with fail
      refine HS.out.mono ?_
      rintro e w1 ⟨rfl, hB1⟩
      have HB1 := Lib.hid (HB.out.trans (hB1.mono (by simp)))
      have hP1 := (hB1.block w.heap.size HW.out).trans HP.out
      obtain ⟨⟨p0, p1, p2, p3⟩, _⟩ := blk4_cells hP1
      clear hB1 hP1 HB HP HS HW
      go_wp2_with fail
      go_ret
      exact ⟨rfl, HB1.out⟩
end Go.Proofs.Ytapemoehcohjgaa
namespace Go.Proofs.Ytapemoehcohjgaa
open Go.RowKit
open Wd
set_option linter.unusedVariables false
def cod9 (c0 c1 c2 c3 c4 c5 c6 c7 c8 : Value) : Array Value := #[c0, c1, c2, c3, c4, c5, c6, c7, c8]
/-- the coding of a word and what it meets -/
def IsCd (w : World) (B : Nat) (cs : Array Value) (gv : Value) (x : Co) (gs : List Rl) (go : Nat) : Prop :=
  ∃ lv mv sv n o tv u, cs = cod9 gv lv mv sv (.int .i64 x.st) (.int .i64 x.go) n o tv ∧ IsLL w n x.nx ∧ IsSLL w o x.ou ∧ IsMt w B tv gs.length u ∧ (0 < gs.length → MtI x.nx gs x.nx.length go 0 0 u)
theorem IsCd.kept {w w' : World} {B : Nat} {cs : Array Value} {gv : Value} {x : Co} {gs : List Rl} {go : Nat} (h : IsCd w B cs gv x gs go) (hb : Below w.heap.size w w') : IsCd w' B cs gv x gs go := by
  obtain ⟨lv, mv, sv, n, o, tv, u, h0, h1, h2, h3, h4⟩ := h
  exact ⟨lv, mv, sv, n, o, tv, u, h0, h1.kept hb, h2.kept hb, h3.kept hb, h4⟩
namespace Wd
/-- CodedLength's answer -/
def cdA (x : Co) (gs : List Rl) : Int × Int := if (cOk x && gOk gs) = true then (if 1000000000000000 < cdT x.ou x.nx gs x.go.toNat then (0, 3) else (cdT x.ou x.nx gs x.go.toNat, 0)) else (0, 1)
end Wd
theorem size_cod : (Try.prog.info? 79).map (·.size) = some 9 := by kernel_rfl
theorem step_store_row {P : Program} {ops : Array Oper} {o : Oper} {a : Act} {w : World} {K : Act → World → Prop} {Q : Exit → Act → World → Prop} {E : Prop} (hgd : o.guard = none) (ty : TypeId) (x y : Operand) (ho : o.op = .store ty x y)
    (g : Nat) (cells : Array Value) (hx : a.eval x = .pointer (some ⟨g, 0, none⟩)) (hy : a.eval y = .agg cells) (t : TypeId) (old : Array Value) (hg : w.heap[g]? = some (.cells old t (0, 0))) (hi : (P.info? ty).map (·.size) = some cells.size)
    (hold : old.size = cells.size) (h1 : cells.all (·.oneCell') = true) (h : K (a.put o.dst undef) (w.setRow g cells)) : if Region.wanted o (yielded ops a.tmps) = true then Oper.wp P o a w K Q else E := by
  rw [if_pos (by simp [Region.wanted, hgd])]
  exact wp_store_row ty x y ho g cells hx hy t old hg hi hold h1 h
theorem one9 {A1 A2 A3 A4 A5 A6 : Option Addr} {n1 n2 n3 n4 n5 n6 c1 c2 c3 c4 c5 c6 : Nat} {i1 i2 i3 : Int} : (#[.slice A1 n1 c1, .slice A2 n2 c2, .slice A3 n3 c3, .int .i64 i1, .int .i64 i2, .int .i64 i3, .slice A4 n4 c4, .slice A5 n5 c5, .slice A6 n6 c6] : Array Value).all (·.oneCell') = true :=
  all_oneCell_toArray (cs := [.slice A1 n1 c1, .slice A2 n2 c2, .slice A3 n3 c3, .int .i64 i1, .int .i64 i2, .int .i64 i3, .slice A4 n4 c4, .slice A5 n5 c5, .slice A6 n6 c6]) (by intro v hv; simp only [List.mem_cons, List.not_mem_nil, or_false] at hv; rcases hv with rfl | rfl | rfl | rfl | rfl | rfl | rfl | rfl | rfl <;> rfl)
theorem IsMt.apart {w : World} {lo R n : Nat} {v : Value} {u : Nat → Nat → Int} (h : IsMt w lo v n u) (hR : R < lo) (cs : Array Value) : IsMt (w.setRow R cs) lo v n u := by
  obtain ⟨g, rfl, h⟩ := h
  refine ⟨g, rfl, World.ownsRow.kept h (grown_setRow w R cs) (.inr ?_)⟩
  intro e
  have e2 := (h.lt _ e).1
  omega
abbrev z9 : Array Value := #[.slice none 0 0, .slice none 0 0, .slice none 0 0, .int .i64 0, .int .i64 0, .int .i64 0, .slice none 0 0, .slice none 0 0, .slice none 0 0]
set_option maxRecDepth 100000 in
set_option maxHeartbeats 1600000 in
theorem codingOf_any (v gv : Value) (x : Co) (gs : List Rl) (go : Nat) (w : World) (hf : FewC x) (hfr : FewR gs) (h : IsCo w v x) (hr : Rules w gv gs) (hgo : cOk x = true → x.go = (go : Int)) :
    Calls Try.prog 41 #[v, .agg #[gv]] w fun e w' => ∃ c0 c1 c2 c3 c4 c5 c6 c7 c8, e = .returned (.tuple #[.agg #[c0, c1, c2, c3, c4, c5, c6, c7, c8], .bool (cOk x && gOk gs)]) ∧ (#[c0, c1, c2, c3, c4, c5, c6, c7, c8] : Array Value).all (·.oneCell') = true ∧ ((cOk x && gOk gs) = true → IsCd w' w.heap.size #[c0, c1, c2, c3, c4, c5, c6, c7, c8] gv x gs go) ∧ Below w.heap.size w w' := by
  obtain ⟨dU, hu, hd⟩ := und_row (t := 79) (by kernel_rfl)
  have HU := Lib.hid (And.intro hu hd)
  have HVC := Lib.hid (fun W (hb : Below w.heap.size w W) => implValidCoder v x W hf (h.kept hb))
  obtain ⟨n, o, rfl, hN, hO⟩ := h
  have HNK := Lib.hid (fun W (hb : Below w.heap.size w W) => And.intro (hN.kept hb) (hO.kept hb))
  have HRK := Lib.hid (fun W (hb : Below w.heap.size w W) => hr.kept hb)
  obtain ⟨An, cn, rfl, _⟩ := id hN
  obtain ⟨Ao, co, rfl, _⟩ := id hO
  obtain ⟨Ag, cg, rfl, _⟩ := id hr
  have b1 := (Below.refl _ w).alloc (Nat.le_refl _) (.cells #[.int .i64 x.st, .int .i64 x.go, .slice An x.nx.length cn, .slice Ao x.ou.length co] 33)
  have b2 := b1.alloc b1.size (.cells #[.slice Ag gs.length cg] 37)
  have b3 := b2.alloc b2.size (.cells z9 79)
  have e1 : (w.alloc (.cells #[.int .i64 x.st, .int .i64 x.go, .slice An x.nx.length cn, .slice Ao x.ou.length co] 33)).heap.size = w.heap.size + 1 := by simp
  have e2 : ((w.alloc (.cells #[.int .i64 x.st, .int .i64 x.go, .slice An x.nx.length cn, .slice Ao x.ou.length co] 33)).alloc (.cells #[.slice Ag gs.length cg] 37)).heap.size = w.heap.size + 1 + 1 := by simp
  have q1 := (Below.refl _ (w.alloc (.cells #[.int .i64 x.st, .int .i64 x.go, .slice An x.nx.length cn, .slice Ao x.ou.length co] 33))).alloc (Nat.le_refl _) (.cells #[.slice Ag gs.length cg] 37)
  have q2 := (Below.refl _ ((w.alloc (.cells #[.int .i64 x.st, .int .i64 x.go, .slice An x.nx.length cn, .slice Ao x.ou.length co] 33)).alloc (.cells #[.slice Ag gs.length cg] 37))).alloc (Nat.le_refl _) (.cells z9 79)
  have k1 := q1.block w.heap.size (by simp)
  have k2 := q2.block w.heap.size (by simp; omega)
  have HC3 := Lib.hid (k2.trans (k1.trans (heap_alloc_new w (.cells #[.int .i64 x.st, .int .i64 x.go, .slice An x.nx.length cn, .slice Ao x.ou.length co] 33))))
  have g1 := cell_new (w.alloc (.cells #[.int .i64 x.st, .int .i64 x.go, .slice An x.nx.length cn, .slice Ao x.ou.length co] 33)) (.slice Ag gs.length cg) 37
  rw [e1] at g1
  have HG3 := Lib.hid ((q2.cell (p := ⟨w.heap.size + 1, 0, none⟩) (by simp)).trans g1)
  have z1 := heap_alloc_new ((w.alloc (.cells #[.int .i64 x.st, .int .i64 x.go, .slice An x.nx.length cn, .slice Ao x.ou.length co] 33)).alloc (.cells #[.slice Ag gs.length cg] 37)) (.cells z9 79)
  rw [e2] at z1
  have HZ3 := Lib.hid z1
  have HB3 := Lib.hid b3
  have HS3 : Hid (w.heap.size + 3 ≤ (((w.alloc (.cells #[.int .i64 x.st, .int .i64 x.go, .slice An x.nx.length cn, .slice Ao x.ou.length co] 33)).alloc (.cells #[.slice Ag gs.length cg] 37)).alloc (.cells z9 79)).heap.size) := Lib.hid (by simp)
  clear b1 b2 b3 e1 e2 q1 q2 k1 k2 g1 z1 hu hd hN hO hr
  cases hc : cOk x
  · rw [hc] at HVC
    simp only [Bool.false_and]
    go_enter Try.func41, Try.ntmps41
    go_upto_region 1 with fail
    generalize (((w.alloc (.cells #[.int .i64 x.st, .int .i64 x.go, .slice An x.nx.length cn, .slice Ao x.ou.length co] 33)).alloc (.cells #[.slice Ag gs.length cg] 37)).alloc (.cells z9 79)) = w3 at *
    obtain ⟨⟨p0, p1, p2, p3⟩, _⟩ := blk4_cells HC3.out
    go_wp2_with fail
    refine (HVC.out _ HB3.out).mono ?_
    rintro e w4 ⟨rfl, hB4⟩
    have HB4 := Lib.hid (HB3.out.trans (hB4.mono HB3.out.size))
    have HZ4 := Lib.hid ((hB4.block _ (by have := HS3.out; omega)).trans HZ3.out)
    have HZ0 := Lib.hid (show (Try.prog.info? 79).map (·.size) = some z9.size from size_cod)
    have HZ1 := Lib.hid (show z9.all (·.oneCell') = true from one9)
    have HE := Lib.hid (bSetRow HB4.out (R := w.heap.size + 1 + 1) (by omega) z9)
    clear hB4 p0 p1 p2 p3
    go_wp2_with (with_reducible refine wpList_store_row rfl 79 _ _ rfl (w.heap.size + 1 + 1) _ rfl rfl 79 _ HZ4.out HZ0.out rfl HZ1.out ?_)
    exact bodyPost_ret (v := .tuple #[.agg z9, .bool false]) (results_row_slot rfl _ _ (w.heap.size + 1 + 1) 79 _ (0, 0) _ rfl (setRow_heap _ _ _ _ _ _ HZ4.out) HU.out.1 HU.out.2 HZ0.out _ rfl) rfl ⟨_, _, _, _, _, _, _, _, _, rfl, one9, fun h => by simp at h, HE.out⟩
  · have hgo := hgo hc
    obtain ⟨h1, h2, h3, h4, h5, h6⟩ := cOk_facts hc
    rw [hc] at HVC
    simp only [Bool.true_and]
    obtain ⟨st, g0, nx, ou⟩ := x
    simp only at *
    subst hgo
    have HWK := Lib.hid (fun W (hb : Below w.heap.size w W) => walkOf_any (go : Int) st (.slice An nx.length cn) nx (.slice Ag gs.length cg) gs W h1.1 h1.2 h3 h4 (HNK.out W hb).1 hfr (HRK.out W hb))
    have HME : Hid (∀ (wv : Value) (W0 W : World) (lo : Nat), Below w.heap.size w W0 → Below W0.heap.size W0 W → (gOk gs = true → IsW W0 lo wv (.slice Ag gs.length cg) gs nx (go : Int)) → (gOk gs = false → wv = zeroW) → Calls Try.prog 77 #[wv] W fun e w' => ∃ T m u, e = .returned (.slice (some ⟨T, 0, none⟩) m m) ∧ (gOk gs = true → IsMt w' W.heap.size (.slice (some ⟨T, 0, none⟩) m m) gs.length u ∧ (0 < gs.length → MtI nx gs nx.length go 0 0 u)) ∧ Below W.heap.size W w') := Lib.hid (fun wv W0 W lo hb0 hb hw hz => by
      cases hk : gOk gs
      · rw [hz hk]
        refine (meetings_any zeroW (.slice none 0 0) [] nx st 0 0 W h1.1 h1.2 h3 h4 (by omega) rfl ⟨none, 0, rfl, .inl rfl⟩ ⟨_, _, rfl, World.ownsRow_nil _ _ _ _, ⟨none, 0, rfl, .inl rfl⟩⟩).mono ?_
        rintro e w' ⟨v, u, rfl, ⟨T, rfl, hT⟩, _, hB⟩
        exact ⟨T, 0, u, rfl, fun h => by simp at h, hB⟩
      · refine (meetings_any wv (.slice Ag gs.length cg) gs nx st go lo W h1.1 h1.2 h3 h4 h2.2 hk (HRK.out W (hb0.trans (hb.mono hb0.size))) ((hw hk).kept hb)).mono ?_
        rintro e w' ⟨v, u, rfl, ⟨T, rfl, hT⟩, h, hB⟩
        exact ⟨T, gs.length, u, rfl, fun _ => ⟨⟨T, rfl, hT⟩, h⟩, hB⟩)
    clear h1 h2 h3 h4 h5 h6 hc hf hfr
    generalize gOk gs = R at *
    go_enter Try.func41, Try.ntmps41
    go_upto_region 1 with fail
    generalize (((w.alloc (.cells #[.int .i64 st, .int .i64 (go : Int), .slice An nx.length cn, .slice Ao ou.length co] 33)).alloc (.cells #[.slice Ag gs.length cg] 37)).alloc (.cells z9 79)) = w3 at *
    obtain ⟨⟨p0, p1, p2, p3⟩, _⟩ := blk4_cells HC3.out
    go_wp2_with fail
    refine (HVC.out _ HB3.out).mono ?_
    rintro e w4 ⟨rfl, hB4⟩
    have HB4 := Lib.hid (HB3.out.trans (hB4.mono HB3.out.size))
    have HZ4 := Lib.hid ((hB4.block _ (by have := HS3.out; omega)).trans HZ3.out)
    have HC4 := Lib.hid ((hB4.block _ (by have := HS3.out; omega)).trans HC3.out)
    have hg4 := (hB4.cell (lt_of_cell HG3.out)).trans HG3.out
    obtain ⟨⟨r0, r1, r2, r3⟩, _⟩ := blk4_cells HC4.out
    have HS4 := Lib.hid (Nat.le_trans HS3.out hB4.size)
    clear hB4 p0 p1 p2 p3
    go_wp2_with fail
    refine (HWK.out _ HB4.out).mono ?_
    rintro e w5 ⟨wv, rfl, hW1, hW0, hB5⟩
    have HB5 := Lib.hid (HB4.out.trans (hB5.mono HB4.out.size))
    have HZ5 := Lib.hid ((hB5.block _ (by have := HS4.out; omega)).trans HZ4.out)
    have HC5 := Lib.hid ((hB5.block _ (by have := HS4.out; omega)).trans HC4.out)
    have HS5 := Lib.hid (Nat.le_trans HS4.out hB5.size)
    have HME5 := Lib.hid (fun W (hb : Below w5.heap.size w5 W) => HME.out wv w5 W w4.heap.size HB5.out hb hW1 hW0)
    obtain ⟨A1, n1, c1, A2, n2, c2, A3, n3, c3, d, hwv, hgv⟩ : ∃ A1 n1 c1 A2 n2 c2 A3 n3 c3 d, wv = .agg #[.slice A1 n1 c1, .slice A2 n2 c2, .slice A3 n3 c3, .int .i64 d] ∧ (R = true → (.slice A1 n1 c1 : Value) = .slice Ag gs.length cg) := by
      cases hk : R
      · exact ⟨_, _, _, _, _, _, _, _, _, _, hW0 hk, fun h => by simp at h⟩
      · obtain ⟨B2, d2, B3, d3, e⟩ := (hW1 hk).shape
        exact ⟨_, _, _, _, _, _, _, _, _, _, e, fun _ => rfl⟩
    subst hwv
    have HGV := Lib.hid hgv
    clear hB5 r0 r1 r2 r3 hg4 hW1 hW0 hgv HWK HME HVC
    go_upto_region 4 with fail
    have hb6 := (Below.refl _ w5).alloc (Nat.le_refl _) (.cells #[.slice A1 n1 c1, .slice A2 n2 c2, .slice A3 n3 c3, .int .i64 d] 76)
    have HX6 := Lib.hid (heap_alloc_new w5 (.cells #[.slice A1 n1 c1, .slice A2 n2 c2, .slice A3 n3 c3, .int .i64 d] 76))
    have HC6 := Lib.hid ((hb6.block _ (by have := HS5.out; omega)).trans HC5.out)
    have HZ6 := Lib.hid ((hb6.block _ (by have := HS5.out; omega)).trans HZ5.out)
    have HB6 := Lib.hid (HB5.out.trans (hb6.mono HB5.out.size))
    have HL6 : Hid (w5.heap.size < (w5.alloc (.cells #[.slice A1 n1 c1, .slice A2 n2 c2, .slice A3 n3 c3, .int .i64 d] 76)).heap.size) := Lib.hid (by simp)
    have HM6 := Lib.hid (fun W (hb : Below (w5.alloc (.cells #[.slice A1 n1 c1, .slice A2 n2 c2, .slice A3 n3 c3, .int .i64 d] 76)).heap.size (w5.alloc (.cells #[.slice A1 n1 c1, .slice A2 n2 c2, .slice A3 n3 c3, .int .i64 d] 76)) W) => HME5.out W (hb6.trans (hb.mono (Nat.le_of_lt HL6.out))))
    clear hb6
    generalize w5.alloc (.cells #[.slice A1 n1 c1, .slice A2 n2 c2, .slice A3 n3 c3, .int .i64 d] 76) = w6 at *
    have HS : Hid (∀ W, Below w6.heap.size w6 W → (W.cell? ⟨w.heap.size, 0, none⟩ = some (.int .i64 st) ∧ W.cell? ⟨w.heap.size, 1, none⟩ = some (.int .i64 (go : Int)) ∧ W.cell? ⟨w.heap.size, 2, none⟩ = some (.slice An nx.length cn) ∧ W.cell? ⟨w.heap.size, 3, none⟩ = some (.slice Ao ou.length co)) ∧ W.cell? ⟨w5.heap.size, 0, none⟩ = some (.slice A1 n1 c1) ∧ W.cell? ⟨w5.heap.size, 1, none⟩ = some (.slice A2 n2 c2) ∧ W.cell? ⟨w5.heap.size, 2, none⟩ = some (.slice A3 n3 c3) ∧ W.cell? ⟨w5.heap.size, 3, none⟩ = some (.int .i64 d)) := Lib.hid (fun W hb =>
      ⟨(blk4_cells ((hb.block _ (by have := HS5.out; have := HL6.out; omega)).trans HC6.out)).1, (blk4_cells ((hb.block _ HL6.out).trans HX6.out)).1⟩)
    have HZW : Hid (∀ W, Below w6.heap.size w6 W → W.heap[w.heap.size + 1 + 1]? = some (.cells z9 79 (0, 0))) := Lib.hid (fun W hb => (hb.block _ (by have := HS5.out; have := HL6.out; omega)).trans HZ6.out)
    have hd6 : Below w6.heap.size w6 w6.drew := below_drewN (Below.refl _ _) 1
    have HS0 := Lib.hid (HS.out w6.drew hd6)
    refine wp_region_held_drew (S := fun W : World => (W.cell? ⟨w.heap.size, 0, none⟩ = some (.int .i64 st) ∧ W.cell? ⟨w.heap.size, 1, none⟩ = some (.int .i64 (go : Int)) ∧ W.cell? ⟨w.heap.size, 2, none⟩ = some (.slice An nx.length cn) ∧ W.cell? ⟨w.heap.size, 3, none⟩ = some (.slice Ao ou.length co)) ∧ W.cell? ⟨w5.heap.size, 0, none⟩ = some (.slice A1 n1 c1) ∧ W.cell? ⟨w5.heap.size, 1, none⟩ = some (.slice A2 n2 c2) ∧ W.cell? ⟨w5.heap.size, 2, none⟩ = some (.slice A3 n3 c3) ∧ W.cell? ⟨w5.heap.size, 3, none⟩ = some (.int .i64 d)) (by kernel_rfl) HS0.out (fun hHeld => ?_)
    refine takeH (i := 0) (dst := some 21) (v := ?_) rfl (by kernel_rfl) (by kernel_rfl) (by kernel_rfl) (fun _ _ _ h => h) (Or.inl ⟨by rfl, ?_⟩) (by assumption) ?_
    rotate_left 1
    · (intro w hSw; (try dsimp only at hSw); go_simp; try (with_reducible rfl))
    try simp only [Act.put, List.setIfInBounds_toArray, List.set_cons_zero, List.set_cons_succ]
    refine takeH (i := 1) (dst := some 22) (v := ?_) rfl (by kernel_rfl) (by kernel_rfl) (by kernel_rfl) (fun _ _ _ h => h) (Or.inl ⟨by rfl, ?_⟩) (by assumption) ?_
    rotate_left 1
    · (intro w hSw; (try dsimp only at hSw); go_simp; try (with_reducible rfl))
    try simp only [Act.put, List.setIfInBounds_toArray, List.set_cons_zero, List.set_cons_succ]
    refine takeH (i := 2) (dst := some 23) (v := ?_) rfl (by kernel_rfl) (by kernel_rfl) (by kernel_rfl) (fun _ _ _ h => h) (Or.inl ⟨by rfl, ?_⟩) (by assumption) ?_
    rotate_left 1
    · (intro w hSw; (try dsimp only at hSw); go_simp; try (with_reducible rfl))
    try simp only [Act.put, List.setIfInBounds_toArray, List.set_cons_zero, List.set_cons_succ]
    refine takeH (i := 5) (dst := some 26) (v := ?_) rfl (by kernel_rfl) (by kernel_rfl) (by kernel_rfl) (fun _ _ _ h => h) (Or.inl ⟨by rfl, ?_⟩) (by assumption) ?_
    rotate_left 1
    · (intro w hSw; (try dsimp only at hSw); go_simp; try (with_reducible rfl))
    try simp only [Act.put, List.setIfInBounds_toArray, List.set_cons_zero, List.set_cons_succ]
    refine wpAnyH_ready (rs := [3]) (by kernel_rfl) (by simp) ?_
    refine AllReadyH.cons (o := ⟨some 24, _, _, _, _, none⟩) rfl (fun K hK => ?_) AllReadyH.nil
    go_simp
    refine (HM6.out _ hd6).mono ?_
    rintro e w9 ⟨T, m, u, rfl, hT, hB9⟩
    have HB9 : Hid (Below w6.heap.size w6 w9) := Lib.hid (below_undrewC hB9)
    have HZ9 := Lib.hid (HZW.out w9 HB9.out)
    have HNO := Lib.hid (show (Try.prog.info? 79).map (·.size) = some (#[.slice A1 n1 c1, .slice A2 n2 c2, .slice A3 n3 c3, .int .i64 d, .int .i64 st, .int .i64 (go : Int), .slice An nx.length cn, .slice Ao ou.length co, .slice (some ⟨T, 0, none⟩) m m] : Array Value).size from size_cod)
    have HSR : Hid ((fun W : World => (W.cell? ⟨w.heap.size, 0, none⟩ = some (.int .i64 st) ∧ W.cell? ⟨w.heap.size, 1, none⟩ = some (.int .i64 (go : Int)) ∧ W.cell? ⟨w.heap.size, 2, none⟩ = some (.slice An nx.length cn) ∧ W.cell? ⟨w.heap.size, 3, none⟩ = some (.slice Ao ou.length co)) ∧ W.cell? ⟨w5.heap.size, 0, none⟩ = some (.slice A1 n1 c1) ∧ W.cell? ⟨w5.heap.size, 1, none⟩ = some (.slice A2 n2 c2) ∧ W.cell? ⟨w5.heap.size, 2, none⟩ = some (.slice A3 n3 c3) ∧ W.cell? ⟨w5.heap.size, 3, none⟩ = some (.int .i64 d)) (w9.setRow (w.heap.size + 1 + 1) #[.slice A1 n1 c1, .slice A2 n2 c2, .slice A3 n3 c3, .int .i64 d, .int .i64 st, .int .i64 (go : Int), .slice An nx.length cn, .slice Ao ou.length co, .slice (some ⟨T, 0, none⟩) m m])) := Lib.hid
      ⟨(blk4_cells ((setRow_other w9 (w.heap.size + 1 + 1) w.heap.size #[.slice A1 n1 c1, .slice A2 n2 c2, .slice A3 n3 c3, .int .i64 d, .int .i64 st, .int .i64 (go : Int), .slice An nx.length cn, .slice Ao ou.length co, .slice (some ⟨T, 0, none⟩) m m] (by omega)).trans ((HB9.out.block _ (by have := HS5.out; have := HL6.out; omega)).trans HC6.out))).1,
       (blk4_cells ((setRow_other w9 (w.heap.size + 1 + 1) w5.heap.size #[.slice A1 n1 c1, .slice A2 n2 c2, .slice A3 n3 c3, .int .i64 d, .int .i64 st, .int .i64 (go : Int), .slice An nx.length cn, .slice Ao ou.length co, .slice (some ⟨T, 0, none⟩) m m] (by have := HS5.out; omega)).trans ((HB9.out.block _ HL6.out).trans HX6.out))).1⟩
    have HBW := Lib.hid (HB6.out.trans (HB9.out.mono HB6.out.size))
    have HBF := Lib.hid (bSetRow HBW.out (R := w.heap.size + 1 + 1) (by omega) #[.slice A1 n1 c1, .slice A2 n2 c2, .slice A3 n3 c3, .int .i64 d, .int .i64 st, .int .i64 (go : Int), .slice An nx.length cn, .slice Ao ou.length co, .slice (some ⟨T, 0, none⟩) m m])
    have HIS : Hid (R = true → IsCd (w9.setRow (w.heap.size + 1 + 1) #[.slice A1 n1 c1, .slice A2 n2 c2, .slice A3 n3 c3, .int .i64 d, .int .i64 st, .int .i64 (go : Int), .slice An nx.length cn, .slice Ao ou.length co, .slice (some ⟨T, 0, none⟩) m m]) w.heap.size #[.slice A1 n1 c1, .slice A2 n2 c2, .slice A3 n3 c3, .int .i64 d, .int .i64 st, .int .i64 (go : Int), .slice An nx.length cn, .slice Ao ou.length co, .slice (some ⟨T, 0, none⟩) m m] (.slice Ag gs.length cg) ⟨st, (go : Int), nx, ou⟩ gs go) := Lib.hid (fun hR => by
      obtain ⟨hT1, hT2⟩ := hT hR
      have hk := HNK.out _ HBF.out
      refine ⟨.slice A2 n2 c2, .slice A3 n3 c3, .int .i64 d, _, _, .slice (some ⟨T, 0, none⟩) m m, u, ?_, hk.1, hk.2, ?_, hT2⟩
      · rw [HGV.out hR]
        rfl
      · obtain ⟨g', e', h'⟩ := IsMt.apart hT1 (R := w.heap.size + 1 + 1) (by have := HS5.out; have := HL6.out; show _ < w6.heap.size; omega) #[.slice A1 n1 c1, .slice A2 n2 c2, .slice A3 n3 c3, .int .i64 d, .int .i64 st, .int .i64 (go : Int), .slice An nx.length cn, .slice Ao ou.length co, .slice (some ⟨T, 0, none⟩) m m]
        exact ⟨g', e', own_lower h' (by have := HS5.out; have := HL6.out; show _ ≤ w6.heap.size; omega)⟩)
    clear hT hB9
    refine hK.out _ _ (HS.out w9 HB9.out) (fun hHeld => ?_)
    clear hK K
    try simp only [Act.put, List.setIfInBounds_toArray, List.set_cons_zero, List.set_cons_succ]
    refine takeH (i := 4) (dst := some 25) (v := ?_) rfl (by kernel_rfl) (by kernel_rfl) (by kernel_rfl) (fun _ _ _ h => h) (Or.inl ⟨by rfl, ?_⟩) (by assumption) ?_
    rotate_left 1
    · (intro w hSw; (try dsimp only at hSw); go_simp; try (with_reducible rfl))
    try simp only [Act.put, List.setIfInBounds_toArray, List.set_cons_zero, List.set_cons_succ]
    refine wpAnyH_ready (rs := [6]) (by kernel_rfl) (by simp) ?_
    refine AllReadyH.cons (o := ⟨none, _, _, _, _, none⟩) rfl (fun K hK => ?_) AllReadyH.nil
    refine step_store_row (by rfl) 79 _ _ rfl (w.heap.size + 1 + 1) #[.slice A1 n1 c1, .slice A2 n2 c2, .slice A3 n3 c3, .int .i64 d, .int .i64 st, .int .i64 (go : Int), .slice An nx.length cn, .slice Ao ou.length co, .slice (some ⟨T, 0, none⟩) m m] rfl rfl 79 z9 HZ9.out HNO.out rfl one9 ?_
    refine hK.out _ _ HSR.out (fun hHeld => ?_)
    clear hK K
    try simp only [Act.put]
    refine takeH (i := 7) (dst := some 5) (v := ?_) rfl (by kernel_rfl) (by kernel_rfl) (by kernel_rfl) (fun _ _ _ h => h) (Or.inl ⟨by rfl, ?_⟩) (by assumption) ?_
    rotate_left 1
    · (intro w hSw; (try dsimp only at hSw); go_simp; try (with_reducible rfl))
    try simp only [Act.put, List.setIfInBounds_toArray, List.set_cons_zero, List.set_cons_succ]
    refine wpAnyH_done (by kernel_rfl) ?_ _
    go_wp2_with fail
    exact bodyPost_ret (v := .tuple #[.agg #[.slice A1 n1 c1, .slice A2 n2 c2, .slice A3 n3 c3, .int .i64 d, .int .i64 st, .int .i64 (go : Int), .slice An nx.length cn, .slice Ao ou.length co, .slice (some ⟨T, 0, none⟩) m m], .bool R]) (results_row_slot rfl _ _ (w.heap.size + 1 + 1) 79 _ (0, 0) _ rfl (setRow_heap _ _ _ _ _ _ HZ9.out) HU.out.1 HU.out.2 HNO.out _ rfl) rfl ⟨_, _, _, _, _, _, _, _, _, rfl, ⟨rfl, rfl, rfl, rfl, rfl, rfl, rfl, rfl, rfl⟩, HIS.out, HBF.out⟩
set_option maxRecDepth 100000 in
set_option maxHeartbeats 1600000 in
theorem implCodedLength (v gv : Value) (x : Co) (gs : List Rl) (w : World) (hf : FewC x) (hfr : FewR gs) (h : IsCo w v x) (hr : Rules w gv gs) :
    Calls Try.prog 13 #[v, .agg #[gv]] w fun e w' => e = .returned (.tuple #[.int .i64 (cdA x gs).1, .int .i64 (cdA x gs).2]) ∧ Below w.heap.size w w' := by
  obtain ⟨dU, hu, hd⟩ := und_row (t := 79) (by kernel_rfl)
  have HU := Lib.hid (And.intro hu hd)
  have HCO := Lib.hid (fun W (hb : Below w.heap.size w W) => codingOf_any v gv x gs x.go.toNat W hf hfr (h.kept hb) (hr.kept hb) (fun hc => by have := (cOk_facts hc).2.1; omega))
  have HRK := Lib.hid (fun W (hb : Below w.heap.size w W) => hr.kept hb)
  obtain ⟨n, o, rfl, hN, hO⟩ := h
  obtain ⟨An, cn, rfl, _⟩ := id hN
  obtain ⟨Ao, co, rfl, _⟩ := id hO
  obtain ⟨Ag, cg, rfl, _⟩ := id hr
  have b1 := (Below.refl _ w).alloc (Nat.le_refl _) (.cells #[.int .i64 x.st, .int .i64 x.go, .slice An x.nx.length cn, .slice Ao x.ou.length co] 33)
  have HB2 := Lib.hid (b1.alloc b1.size (.cells #[.slice Ag gs.length cg] 37))
  have e1 : (w.alloc (.cells #[.int .i64 x.st, .int .i64 x.go, .slice An x.nx.length cn, .slice Ao x.ou.length co] 33)).heap.size = w.heap.size + 1 := by simp
  have q1 := (Below.refl _ (w.alloc (.cells #[.int .i64 x.st, .int .i64 x.go, .slice An x.nx.length cn, .slice Ao x.ou.length co] 33))).alloc (Nat.le_refl _) (.cells #[.slice Ag gs.length cg] 37)
  have HC2 := Lib.hid ((q1.block w.heap.size (by simp)).trans (heap_alloc_new w (.cells #[.int .i64 x.st, .int .i64 x.go, .slice An x.nx.length cn, .slice Ao x.ou.length co] 33)))
  have g1 := cell_new (w.alloc (.cells #[.int .i64 x.st, .int .i64 x.go, .slice An x.nx.length cn, .slice Ao x.ou.length co] 33)) (.slice Ag gs.length cg) 37
  rw [e1] at g1
  have HG2 := Lib.hid g1
  clear b1 e1 q1 g1 hu hd hN hO hr hf hfr
  go_enter Try.func13, Try.ntmps13
  go_upto_region 1 with fail
  obtain ⟨⟨p0, p1, p2, p3⟩, _⟩ := blk4_cells HC2.out
  have g2 := HG2.out
  generalize ((w.alloc (.cells #[.int .i64 x.st, .int .i64 x.go, .slice An x.nx.length cn, .slice Ao x.ou.length co] 33)).alloc (.cells #[.slice Ag gs.length cg] 37)) = w2 at *
  go_wp2_with fail
  refine (HCO.out _ HB2.out).mono ?_
  rintro e w4 ⟨c0, c1, c2, c3, c4, c5, c6, c7, c8, rfl, hone, hcd, hB4⟩
  have HB4 := Lib.hid (HB2.out.trans (hB4.mono HB2.out.size))
  have HONE := Lib.hid hone
  have HR4 := Lib.hid (heap_alloc_new w4 (.cells z9 79))
  have hb5 := (Below.refl _ w4).alloc (Nat.le_refl _) (.cells z9 79)
  have HX5 := Lib.hid (setRow_heap (w4.alloc (.cells z9 79)) w4.heap.size _ #[c0, c1, c2, c3, c4, c5, c6, c7, c8] _ _ HR4.out)
  have HB5 := Lib.hid (bSetRow (HB4.out.alloc HB4.out.size (.cells z9 79)) (R := w4.heap.size) HB4.out.size #[c0, c1, c2, c3, c4, c5, c6, c7, c8])
  have HL5 := Lib.hid (show w4.heap.size < ((w4.alloc (.cells z9 79)).setRow w4.heap.size #[c0, c1, c2, c3, c4, c5, c6, c7, c8]).heap.size by rw [size_setRow]; simp)
  have HCD := Lib.hid (fun hk => (hcd hk).kept (bSetRow hb5 (R := w4.heap.size) (Nat.le_refl _) #[c0, c1, c2, c3, c4, c5, c6, c7, c8]))
  have HSN := Lib.hid (show (Try.prog.info? 79).map (·.size) = some (#[c0, c1, c2, c3, c4, c5, c6, c7, c8] : Array Value).size from size_cod)
  clear hB4 hone hcd hb5 p0 p1 p2 p3 g2
  cases hk : (cOk x && gOk gs)
  · have HA : Hid (cdA x gs = (0, 1)) := Lib.hid (by unfold cdA; rw [if_neg (by rw [hk]; simp)])
    go_wp2_with (with_reducible refine wpList_store_row rfl 79 _ _ rfl w4.heap.size _ rfl rfl 79 z9 HR4.out HSN.out rfl HONE.out ?_)
    go_ret2
    exact ⟨by rw [HA.out]; rfl, HB5.out⟩
  · have hv := (Bool.and_eq_true_iff.1 hk).1
    have hok := (Bool.and_eq_true_iff.1 hk).2
    obtain ⟨lv, mv, sv, n, o, tv, u, hcs, hN, hO, hT, hm⟩ := HCD.out hk
    unfold cod9 at hcs
    simp only [Array.mk.injEq, List.cons.injEq, and_true] at hcs
    obtain ⟨rfl, rfl, rfl, rfl, rfl, rfl, rfl, rfl, rfl⟩ := hcs
    have HLN := Lib.hid (fun W (hb : Below ((w4.alloc (.cells z9 79)).setRow w4.heap.size #[.slice Ag gs.length cg, c1, c2, c3, .int .i64 x.st, .int .i64 x.go, c6, c7, c8]).heap.size ((w4.alloc (.cells z9 79)).setRow w4.heap.size #[.slice Ag gs.length cg, c1, c2, c3, .int .i64 x.st, .int .i64 x.go, c6, c7, c8]) W) => length_any (.slice Ag gs.length cg) c1 c2 c3 c6 c7 c8 _ x gs x.go.toNat u W hv hok (HRK.out W (HB5.out.trans (hb.mono HB5.out.size))) (hN.kept hb) (hO.kept hb) (hT.kept hb) hm)
    clear hN hO hT hm hv hok
    have HA : Hid (cdA x gs = if 1000000000000000 < cdT x.ou x.nx gs x.go.toNat then (0, 3) else (cdT x.ou x.nx gs x.go.toNat, 0)) := Lib.hid (by unfold cdA; rw [if_pos hk])
    clear hk HCD
    generalize cdT x.ou x.nx gs x.go.toNat = Z at *
    go_upto_region 4 with (with_reducible refine wpList_store_row rfl 79 _ _ rfl w4.heap.size _ rfl rfl 79 z9 HR4.out HSN.out rfl HONE.out ?_)
    generalize ((w4.alloc (.cells z9 79)).setRow w4.heap.size #[.slice Ag gs.length cg, c1, c2, c3, .int .i64 x.st, .int .i64 x.go, c6, c7, c8]) = w5 at *
    go_wp2_with (with_reducible refine wpList_load_rowD HU.out.2 rfl 79 _ rfl w4.heap.size rfl 79 _ _ HX5.out HU.out.1 HSN.out ?_)
    refine (HLN.out _ (Below.refl _ _)).mono ?_
    rintro e w6 ⟨rfl, hB6⟩
    have HB6 := Lib.hid (HB5.out.trans (hB6.mono HB5.out.size))
    have HX6 := Lib.hid ((hB6.block _ HL5.out).trans HX5.out)
    have HL6 := Lib.hid (HLN.out w6 hB6)
    clear hB6
    by_cases hz : 1000000000000000 < Z
    · go_wp2_with fail
      go_ret2
      exact ⟨by rw [HA.out, if_pos hz]; rfl, HB6.out⟩
    · go_wp2_with (with_reducible refine wpList_load_rowD HU.out.2 rfl 79 _ rfl w4.heap.size rfl 79 _ _ HX6.out HU.out.1 HSN.out ?_)
      refine HL6.out.mono ?_
      rintro e w7 ⟨rfl, hB7⟩
      have HB7 := Lib.hid (HB6.out.trans (hB7.mono HB6.out.size))
      clear hB7
      go_wp2_with fail
      go_ret2
      exact ⟨by rw [HA.out, if_neg (by omega)]; rfl, HB7.out⟩
end Go.Proofs.Ytapemoehcohjgaa
namespace Go.Proofs.Ytapemoehcohjgaa
open Go.RowKit
open Wd
set_option linter.unusedVariables false
set_option maxRecDepth 100000 in
set_option maxHeartbeats 3200000 in
theorem l04Long_any (pm pg : Nat) (nv ov : Value) (x : Co) (gs : List Rl) (w : World) (hv : cOk x = true) (hok : gOk gs = true) (hC : B4 w pm (.int .i64 x.st) (.int .i64 x.go) nv ov 33) (hN : IsLL w nv x.nx) (hO : IsSLL w ov x.ou) (hg : GP w pg gs) :
    Calls Try.prog 37 #[.pointer (some ⟨pm, 0, none⟩), .pointer (some ⟨pg, 0, none⟩)] w fun e w' => e = .returned (.int .i64 (min 1000000000000001 (cdT x.ou x.nx gs x.go.toNat))) ∧ Below w.heap.size w w' := by
  obtain ⟨h1, h2, h3, h4, h5, h6⟩ := cOk_facts hv
  have hn := gOk_len hok
  obtain ⟨gg, hgg⟩ : ∃ gg : Nat, x.go = gg := ⟨x.go.toNat, by omega⟩
  have HMA := Lib.hid (fun W (hb : Below w.heap.size w W) => l04Maps_any nv x.nx x.st pg gs W h1.1 h1.2 h3 h4 (hN.kept hb) (gOk_iff.1 hok).2.1 hn (hg.kept hb))
  have HCD := Lib.hid (fun W mv (hb : Below w.heap.size w W) (hm : IsLL W mv (mapsN x.nx gs x.nx.length gs.length)) => l04Coded_any pm pg nv ov mv x gs W hv hok (hC.kept hb) (hN.kept hb) (hO.kept hb) (hg.kept hb) hm)
  obtain ⟨gv, hgv, Ag, cg, rfl, hrc⟩ := hg
  obtain ⟨An, cn, rfl, _⟩ := id hN
  obtain ⟨⟨p0, p1, p2, p3⟩, _⟩ := blk4_cells hC
  by_cases h0 : gs.length = 0
  · have HR : Hid (min 1000000000000001 (cdT x.ou x.nx gs x.go.toNat) = 0) := Lib.hid (by unfold cdT; rw [if_pos h0]; rfl)
    rw [h0] at hgv
    clear HMA HCD hN hO hC hrc
    go_enter Try.func37, Try.ntmps37
    go_wp2_with fail
    go_ret
    exact ⟨by rw [HR.out]; rfl, Below.refl _ _⟩
  · have HR : Hid (min 1000000000000001 (cdT x.ou x.nx gs x.go.toNat) = cdm x.ou x.nx gs (gs.length - 1) gg) := Lib.hid (by unfold cdT cdm; rw [if_neg h0, hgg]; rfl)
    rw [hgg] at p1
    have HS : Hid (∀ W, Below w.heap.size w W → W.cell? ⟨pm, 1, none⟩ = some (.int .i64 (gg : Int)) ∧ W.cell? ⟨pm, 2, none⟩ = some (.slice An x.nx.length cn) ∧ W.cell? ⟨pg, 0, none⟩ = some (.slice Ag gs.length cg)) := Lib.hid (fun W hb => ⟨(hb.cell (lt_of_cell p1)).trans p1, (hb.cell (lt_of_cell p2)).trans p2, (hb.cell (lt_of_cell hgv)).trans hgv⟩)
    have HS0 := Lib.hid (HS.out w (Below.refl _ _))
    have hgN : gg < x.nx.length := by omega
    obtain ⟨n, hne⟩ : ∃ n, n = gs.length := ⟨_, rfl⟩
    have hw1 : IntKind.i64.wrap ((n : Int) - 1) = (n : Int) - 1 := by rw [IntKind.wrap_i64]; omega
    have HN0 : Hid (0 < n) := Lib.hid (by omega)
    have HRT := Lib.hid (fun W y (hy : IsLL W y (rowsF (cdm x.ou x.nx gs) n x.nx.length)) => (show ∃ a z c c2, y = .slice (some a) n c ∧ W.cell? (a.add (n - 1)) = some (.slice (some z) x.nx.length c2) ∧ W.cell? (z.add gg) = some (.int .i64 (cdm x.ou x.nx gs (n - 1) gg)) from by
      obtain ⟨o1, o2, o3, o4⟩ := rowsF_at (u := cdm x.ou x.nx gs) (k := n) (N := x.nx.length) (j := n - 1) (s := gg) (by omega) hgN
      obtain ⟨a, z, c, c2, hv, e0, e1⟩ := ll_getD hy o1 o2
      rw [o3] at e0
      rw [o4] at e1
      rw [rowsF_len] at hv
      exact ⟨a, z, c, c2, hv, e0, e1⟩))
    have n2' : (1 : Int) ≤ (n : Int) := by omega
    have n0' : (0 : Int) ≤ (n : Int) - 1 := by omega
    have n1' : (n : Int) - 1 < (n : Int) := by omega
    have g0' : (0 : Int) ≤ (gg : Int) := by omega
    have g1' : (gg : Int) < (x.nx.length : Int) := by omega
    have hne0 : ((n : Int) == 0) = false := by simp; omega
    have hnn : ((n : Int) - 1).toNat = n - 1 := by omega
    rw [← hne] at HR HS HS0 hgv hn h0 HMA HCD
    clear hN hO hC hrc p0 p1 p2 p3 h1 h2 h3 h4 h5 h6 hgN hne hv hok
    obtain ⟨st, go, nx, ou⟩ := x
    simp only at *
    subst hgg
    generalize cdm ou nx gs (n - 1) gg = Z at *
    go_enter Try.func37, Try.ntmps37
    go_upto_region 3 with fail
    have hd0 : Below w.heap.size w w.drew := below_drewN (Below.refl _ _) 1
    refine wp_region_held_drew (S := fun W : World => W.cell? ⟨pm, 1, none⟩ = some (.int .i64 (gg : Int)) ∧ W.cell? ⟨pm, 2, none⟩ = some (.slice An nx.length cn) ∧ W.cell? ⟨pg, 0, none⟩ = some (.slice Ag n cg)) (by kernel_rfl) (HS.out w.drew hd0) (fun hHeld => ?_)
    refine takeH (i := 0) (dst := some 11) (v := ?_) rfl (by kernel_rfl) (by kernel_rfl) (by kernel_rfl) (fun _ _ _ h => h) (Or.inl ⟨by rfl, ?_⟩) (by assumption) ?_
    rotate_left 1
    · (intro w hSw; (try dsimp only at hSw); go_simp; try (with_reducible rfl))
    try simp only [Act.put, List.setIfInBounds_toArray, List.set_cons_zero, List.set_cons_succ]
    refine takeH (i := 1) (dst := some 12) (v := ?_) rfl (by kernel_rfl) (by kernel_rfl) (by kernel_rfl) (fun _ _ _ h => h) (Or.inl ⟨by rfl, ?_⟩) (by assumption) ?_
    rotate_left 1
    · (intro w hSw; (try dsimp only at hSw); go_simp; try (with_reducible rfl))
    try simp only [Act.put, List.setIfInBounds_toArray, List.set_cons_zero, List.set_cons_succ]
    refine takeH (i := 2) (dst := some 13) (v := ?_) rfl (by kernel_rfl) (by kernel_rfl) (by kernel_rfl) (fun _ _ _ h => h) (Or.inl ⟨by rfl, ?_⟩) (by assumption) ?_
    rotate_left 1
    · (intro w hSw; (try dsimp only at hSw); go_simp; try (with_reducible rfl))
    try simp only [Act.put, List.setIfInBounds_toArray, List.set_cons_zero, List.set_cons_succ]
    refine takeH (i := 3) (dst := some 14) (v := ?_) rfl (by kernel_rfl) (by kernel_rfl) (by kernel_rfl) (fun _ _ _ h => h) (Or.inl ⟨by rfl, ?_⟩) (by assumption) ?_
    rotate_left 1
    · (intro w hSw; (try dsimp only at hSw); go_simp; try (with_reducible rfl))
    try simp only [Act.put, List.setIfInBounds_toArray, List.set_cons_zero, List.set_cons_succ]
    refine takeH (i := 4) (dst := some 15) (v := ?_) rfl (by kernel_rfl) (by kernel_rfl) (by kernel_rfl) (fun _ _ _ h => h) (Or.inl ⟨by rfl, ?_⟩) (by assumption) ?_
    rotate_left 1
    · (intro w hSw; (try dsimp only at hSw); go_simp; try (with_reducible rfl))
    try simp only [Act.put, List.setIfInBounds_toArray, List.set_cons_zero, List.set_cons_succ]
    refine takeH (i := 5) (dst := some 16) (v := ?_) rfl (by kernel_rfl) (by kernel_rfl) (by kernel_rfl) (fun _ _ _ h => h) (Or.inl ⟨by rfl, ?_⟩) (by assumption) ?_
    rotate_left 1
    · (intro w hSw; (try dsimp only at hSw); go_simp; try (with_reducible rfl))
    try simp only [Act.put, List.setIfInBounds_toArray, List.set_cons_zero, List.set_cons_succ]
    refine takeH (i := 6) (dst := some 17) (v := ?_) rfl (by kernel_rfl) (by kernel_rfl) (by kernel_rfl) (fun _ _ _ h => h) (Or.inl ⟨by rfl, ?_⟩) (by assumption) ?_
    rotate_left 1
    · (intro w hSw; (try dsimp only at hSw); go_simp; try (with_reducible rfl))
    try simp only [Act.put, List.setIfInBounds_toArray, List.set_cons_zero, List.set_cons_succ]
    refine takeH (i := 9) (dst := some 20) (v := ?_) rfl (by kernel_rfl) (by kernel_rfl) (by kernel_rfl) (fun _ _ _ h => h) (Or.inl ⟨by rfl, ?_⟩) (by assumption) ?_
    rotate_left 1
    · (intro w hSw; (try dsimp only at hSw); go_simp; try (with_reducible rfl))
    try simp only [Act.put, List.setIfInBounds_toArray, List.set_cons_zero, List.set_cons_succ]
    refine takeH (i := 10) (dst := some 21) (v := ?_) rfl (by kernel_rfl) (by kernel_rfl) (by kernel_rfl) (fun _ _ _ h => h) (Or.inl ⟨by rfl, ?_⟩) (by assumption) ?_
    rotate_left 1
    · (intro w hSw; (try dsimp only at hSw); go_simp; try (with_reducible rfl))
    try simp only [Act.put, List.setIfInBounds_toArray, List.set_cons_zero, List.set_cons_succ]
    refine takeH (i := 11) (dst := some 22) (v := ?_) rfl (by kernel_rfl) (by kernel_rfl) (by kernel_rfl) (fun _ _ _ h => h) (Or.inl ⟨by rfl, ?_⟩) (by assumption) ?_
    rotate_left 1
    · (intro w hSw; (try dsimp only at hSw); go_simp; try (with_reducible rfl))
    try simp only [Act.put, List.setIfInBounds_toArray, List.set_cons_zero, List.set_cons_succ]
    refine takeH (i := 12) (dst := some 23) (v := ?_) rfl (by kernel_rfl) (by kernel_rfl) (by kernel_rfl) (fun _ _ _ h => h) (Or.inl ⟨by rfl, ?_⟩) (by assumption) ?_
    rotate_left 1
    · (intro w hSw; (try dsimp only at hSw); go_simp; try (with_reducible rfl))
    try simp only [Act.put, List.setIfInBounds_toArray, List.set_cons_zero, List.set_cons_succ]
    refine takeH (i := 13) (dst := some 24) (v := ?_) rfl (by kernel_rfl) (by kernel_rfl) (by kernel_rfl) (fun _ _ _ h => h) (Or.inl ⟨by rfl, ?_⟩) (by assumption) ?_
    rotate_left 1
    · (intro w hSw; (try dsimp only at hSw); go_simp; try (with_reducible rfl))
    try simp only [Act.put, List.setIfInBounds_toArray, List.set_cons_zero, List.set_cons_succ]
    refine takeH (i := 14) (dst := some 25) (v := ?_) rfl (by kernel_rfl) (by kernel_rfl) (by kernel_rfl) (fun _ _ _ h => h) (Or.inl ⟨by rfl, ?_⟩) (by assumption) ?_
    rotate_left 1
    · (intro w hSw; (try dsimp only at hSw); go_simp; try (with_reducible rfl))
    try simp only [Act.put, List.setIfInBounds_toArray, List.set_cons_zero, List.set_cons_succ]
    refine takeH (i := 17) (dst := some 28) (v := ?_) rfl (by kernel_rfl) (by kernel_rfl) (by kernel_rfl) (fun _ _ _ h => h) (Or.inl ⟨by rfl, ?_⟩) (by assumption) ?_
    rotate_left 1
    · (intro w hSw; (try dsimp only at hSw); go_simp; try (with_reducible rfl))
    try simp only [Act.put, List.setIfInBounds_toArray, List.set_cons_zero, List.set_cons_succ]
    refine takeH (i := 18) (dst := some 29) (v := ?_) rfl (by kernel_rfl) (by kernel_rfl) (by kernel_rfl) (fun _ _ _ h => h) (Or.inl ⟨by rfl, ?_⟩) (by assumption) ?_
    rotate_left 1
    · (intro w hSw; (try dsimp only at hSw); go_simp; try (with_reducible rfl))
    try simp only [Act.put, List.setIfInBounds_toArray, List.set_cons_zero, List.set_cons_succ]
    refine takeH (i := 19) (dst := some 30) (v := ?_) rfl (by kernel_rfl) (by kernel_rfl) (by kernel_rfl) (fun _ _ _ h => h) (Or.inl ⟨by rfl, ?_⟩) (by assumption) ?_
    rotate_left 1
    · (intro w hSw; (try dsimp only at hSw); go_simp; try (with_reducible rfl))
    try simp only [Act.put, List.setIfInBounds_toArray, List.set_cons_zero, List.set_cons_succ]
    refine takeH (i := 20) (dst := some 31) (v := ?_) rfl (by kernel_rfl) (by kernel_rfl) (by kernel_rfl) (fun _ _ _ h => h) (Or.inl ⟨by rfl, ?_⟩) (by assumption) ?_
    rotate_left 1
    · (intro w hSw; (try dsimp only at hSw); go_simp; try (with_reducible rfl))
    try simp only [Act.put, List.setIfInBounds_toArray, List.set_cons_zero, List.set_cons_succ]
    refine wpAnyH_ready (rs := [7]) (by kernel_rfl) (by simp) ?_
    refine AllReadyH.cons (o := ⟨some 18, _, _, _, _, none⟩) rfl (fun K hK => ?_) AllReadyH.nil
    go_simp
    refine (HMA.out _ hd0).mono ?_
    rintro e w7 ⟨ym, Um, rfl, hm7, hB7⟩
    have HB7 : Hid (Below w.heap.size w w7) := Lib.hid (below_undrewC hB7)
    have HM7 := Lib.hid hm7.isLL
    clear hm7 hB7
    refine hK.out _ _ (HS.out w7 HB7.out) (fun hHeld => ?_)
    clear hK K
    try simp only [Act.put, List.setIfInBounds_toArray, List.set_cons_zero, List.set_cons_succ]
    refine wpAnyH_ready (rs := [8]) (by kernel_rfl) (by simp) ?_
    refine AllReadyH.cons (o := ⟨some 19, _, _, _, _, none⟩) rfl (fun K hK => ?_) AllReadyH.nil
    go_simp
    refine (HCD.out _ _ HB7.out HM7.out).mono ?_
    rintro e w8 ⟨y8, rfl, hy8, hB8⟩
    have HB8 := Lib.hid (HB7.out.trans (hB8.mono HB7.out.size))
    obtain ⟨a8, z8, c8, c28, rfl, e0, e1⟩ := HRT.out _ _ hy8
    clear hy8 hB8
    refine hK.out _ _ (HS.out w8 HB8.out) (fun hHeld => ?_)
    clear hK K
    try simp only [Act.put, List.setIfInBounds_toArray, List.set_cons_zero, List.set_cons_succ]
    refine wpAnyH_ready (rs := [15]) (by kernel_rfl) (by simp) ?_
    refine AllReadyH.cons (o := ⟨some 26, _, _, _, _, none⟩) rfl (fun K hK => ?_) AllReadyH.nil
    go_simp
    refine hK.out _ _ (HS.out w8 HB8.out) (fun hHeld => ?_)
    clear hK K
    try simp only [Act.put, List.setIfInBounds_toArray, List.set_cons_zero, List.set_cons_succ]
    refine wpAnyH_ready (rs := [16]) (by kernel_rfl) (by simp) ?_
    refine AllReadyH.cons (o := ⟨some 27, _, _, _, _, none⟩) rfl (fun K hK => ?_) AllReadyH.nil
    go_simp
    refine hK.out _ _ (HS.out w8 HB8.out) (fun hHeld => ?_)
    clear hK K
    try simp only [Act.put, List.setIfInBounds_toArray, List.set_cons_zero, List.set_cons_succ]
    refine wpAnyH_ready (rs := [21]) (by kernel_rfl) (by simp) ?_
    refine AllReadyH.cons (o := ⟨some 32, _, _, _, _, none⟩) rfl (fun K hK => ?_) AllReadyH.nil
    go_simp
    refine hK.out _ _ (HS.out w8 HB8.out) (fun hHeld => ?_)
    clear hK K
    try simp only [Act.put, List.setIfInBounds_toArray, List.set_cons_zero, List.set_cons_succ]
    refine wpAnyH_ready (rs := [22]) (by kernel_rfl) (by simp) ?_
    refine AllReadyH.cons (o := ⟨some 33, _, _, _, _, none⟩) rfl (fun K hK => ?_) AllReadyH.nil
    go_simp
    refine hK.out _ _ (HS.out w8 HB8.out) (fun hHeld => ?_)
    clear hK K
    try simp only [Act.put, List.setIfInBounds_toArray, List.set_cons_zero, List.set_cons_succ]
    refine takeH (i := 23) (dst := some 4) (v := ?_) rfl (by kernel_rfl) (by kernel_rfl) (by kernel_rfl) (fun _ _ _ h => h) (Or.inl ⟨by rfl, ?_⟩) (by assumption) ?_
    rotate_left 1
    · (intro w hSw; (try dsimp only at hSw); go_simp; try (with_reducible rfl))
    try simp only [Act.put, List.setIfInBounds_toArray, List.set_cons_zero, List.set_cons_succ]
    refine wpAnyH_done (by kernel_rfl) ?_ _
    go_wp2_with fail
    go_ret
    exact ⟨by rw [HR.out]; rfl, HB8.out⟩
set_option maxRecDepth 100000 in
set_option maxHeartbeats 3200000 in
theorem specCodedLength (v gv : Value) (x : Co) (gs : List Rl) (w : World) (hf : FewC x) (hfr : FewR gs) (h : IsCo w v x) (hr : Rules w gv gs) :
    Calls Try.prog 10 #[v, .agg #[gv]] w fun e w' => e = .returned (.tuple #[.int .i64 (cdA x gs).1, .int .i64 (cdA x gs).2]) ∧ Below w.heap.size w w' := by
  obtain ⟨n, o, rfl, hN, hO⟩ := h
  have hb : Below w.heap.size w ((w.alloc (.cells #[.int .i64 x.st, .int .i64 x.go, n, o] 33)).alloc (.cells #[gv] 37)) := ((Below.refl _ w).alloc (Nat.le_refl _) _).alloc (by simp) _
  have hP : B4 ((w.alloc (.cells #[.int .i64 x.st, .int .i64 x.go, n, o] 33)).alloc (.cells #[gv] 37)) w.heap.size (.int .i64 x.st) (.int .i64 x.go) n o 33 := (B4.new w _ _ _ _ _).alloc _
  have hG : GP ((w.alloc (.cells #[.int .i64 x.st, .int .i64 x.go, n, o] 33)).alloc (.cells #[gv] 37)) (w.heap.size + 1) gs := by
    have := rules_gpT (hr.kept ((Below.refl _ w).alloc (Nat.le_refl _) (.cells #[.int .i64 x.st, .int .i64 x.go, n, o] 33))) 37
    rwa [show (w.alloc (.cells #[.int .i64 x.st, .int .i64 x.go, n, o] 33)).heap.size = w.heap.size + 1 from by simp] at this
  have HC := Lib.hid (l04Coder_any w.heap.size n o x _ hP (hN.kept hb) (hO.kept hb) hf)
  have HG := Lib.hid (fun W h => l02Ok_any (w.heap.size + 1) gs W hfr h)
  have HGP := Lib.hid hG
  have HB := Lib.hid hb
  have HP := Lib.hid hP
  have HNO := Lib.hid (fun W (hW : Below w.heap.size w W) => And.intro (hN.kept hW) (hO.kept hW))
  obtain ⟨An, cn, rfl, _⟩ := hN
  obtain ⟨Ao, co, rfl, _⟩ := hO
  obtain ⟨Ag, cg, rfl, _⟩ := hr
  clear hb hP hG
  cases hc : cOk x
  · rw [hc] at HC
    have HA : Hid (cdA x gs = (0, 1)) := Lib.hid (by unfold cdA; rw [if_neg (by rw [hc]; simp)])
    clear hc
    go_enter Try.func10, Try.ntmps10
    go_wp2_with fail
    refine HC.out.mono ?_
    rintro e w3 ⟨rfl, hD⟩
    have HB3 := Lib.hid (HB.out.trans (hD.below _))
    clear hD
    go_wp2_with fail
    go_ret2
    exact ⟨by rw [HA.out]; rfl, HB3.out⟩
  · rw [hc] at HC
    cases hok : gOk gs
    · have HA : Hid (cdA x gs = (0, 1)) := Lib.hid (by unfold cdA; rw [if_neg (by rw [hok]; simp)])
      have HG2 : Hid (∀ W, GP W (w.heap.size + 1) gs → Calls Try.prog 36 #[.pointer (some ⟨w.heap.size + 1, 0, none⟩)] W fun e w' => e = .returned (.bool false) ∧ Below W.heap.size W w') := Lib.hid (fun W h => by have := HG.out W h; rwa [hok] at this)
      clear hc hok
      go_enter Try.func10, Try.ntmps10
      go_wp2_with fail
      refine HC.out.mono ?_
      rintro e w3 ⟨rfl, hD⟩
      have HB3 := Lib.hid (HB.out.trans (hD.below _))
      have HG3 := Lib.hid (HGP.out.kept (hD.below _))
      clear hD
      go_wp2_with fail
      refine (HG2.out _ HG3.out).mono ?_
      rintro e w4 ⟨rfl, hB4⟩
      have HB4 := Lib.hid (HB3.out.trans (hB4.mono HB3.out.size))
      clear hB4
      go_wp2_with fail
      go_ret2
      exact ⟨by rw [HA.out]; rfl, HB4.out⟩
    · have HA : Hid (cdA x gs = if 1000000000000000 < cdT x.ou x.nx gs x.go.toNat then (0, 3) else (cdT x.ou x.nx gs x.go.toNat, 0)) := Lib.hid (by unfold cdA; rw [if_pos (by rw [hc, hok]; rfl)])
      have HG2 : Hid (∀ W, GP W (w.heap.size + 1) gs → Calls Try.prog 36 #[.pointer (some ⟨w.heap.size + 1, 0, none⟩)] W fun e w' => e = .returned (.bool true) ∧ Below W.heap.size W w') := Lib.hid (fun W h => by have := HG.out W h; rwa [hok] at this)
      have HL := Lib.hid (fun W (hb : Below w.heap.size w W) hC hg => l04Long_any w.heap.size (w.heap.size + 1) _ _ x gs W hc hok hC (HNO.out W hb).1 (HNO.out W hb).2 hg)
      clear hc hok HNO
      generalize cdT x.ou x.nx gs x.go.toNat = Z at *
      go_enter Try.func10, Try.ntmps10
      go_wp2_with fail
      refine HC.out.mono ?_
      rintro e w3 ⟨rfl, hD⟩
      have HB3 := Lib.hid (HB.out.trans (hD.below _))
      have HG3 := Lib.hid (HGP.out.kept (hD.below _))
      have HP3 := Lib.hid (HP.out.kept (hD.below _))
      clear hD
      go_wp2_with fail
      refine (HG2.out _ HG3.out).mono ?_
      rintro e w4 ⟨rfl, hB4⟩
      have HB4 := Lib.hid (HB3.out.trans (hB4.mono HB3.out.size))
      have HG4 := Lib.hid (HG3.out.kept hB4)
      have HP4 := Lib.hid (HP3.out.kept hB4)
      clear hB4
      go_wp2_with fail
      refine (HL.out _ HB4.out HP4.out HG4.out).mono ?_
      rintro e w8 ⟨rfl, hB8⟩
      have HB8 := Lib.hid (HB4.out.trans (hB8.mono HB4.out.size))
      clear hB8
      by_cases hz : 1000000000000000 < Z
      · have hm : min 1000000000000001 Z = 1000000000000001 := by omega
        rw [hm]
        go_wp2_with fail
        go_ret2
        exact ⟨by rw [HA.out, if_pos hz]; rfl, HB8.out⟩
      · have hm : min 1000000000000001 Z = Z := by omega
        rw [hm]
        go_wp2_with fail
        go_ret2
        exact ⟨by rw [HA.out, if_neg (by omega)]; rfl, HB8.out⟩
end Go.Proofs.Ytapemoehcohjgaa
