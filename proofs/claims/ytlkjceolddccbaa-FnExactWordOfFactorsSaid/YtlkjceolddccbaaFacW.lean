/-
  The word of factors: numbers; walks: spec.WordOfFactors, impl.WordOfFactors.
-/
import Derived.Test.YtlkjceolddccbaaFacS
import Derived.Deep.QuietTactic
namespace Go.Proofs.Ytlkjceolddccbaa
open Go.RowKit
open Wd
set_option linter.unusedVariables false
namespace Wd
/-- the word so far with a factor behind it -/
def wStep (x : Rl) (u : ByteArray) : ByteArray := if x.L.size = 0 then u ++ u.extract x.l.toNat (x.l.toNat + x.r.toNat) else u ++ x.L
def facW : List Rl → ByteArray → ByteArray
  | [], u => u
  | x :: xs, u => facW xs (wStep x u)
theorem facW_drop {gs : List Rl} {k : Nat} (u : ByteArray) (h : k < gs.length) : facW (gs.drop k) u = facW (gs.drop (k + 1)) (wStep gs[k] u) := by
  rw [List.drop_eq_getElem_cons h]; rfl
theorem facW_end {gs : List Rl} {k : Nat} (u : ByteArray) (h : gs.length ≤ k) : facW (gs.drop k) u = u := by
  rw [List.drop_of_length_le h]; rfl
theorem facF_le : ∀ (xs : List Rl) (n N : Int), facF xs n = some N → 0 ≤ n → n ≤ N
  | [], n, N, h, _ => by
    simp only [facF, Option.some.injEq] at h
    omega
  | x :: xs, n, N, h, hn => by
    unfold facF at h
    by_cases hf : facFits x n = true
    · rw [if_pos hf] at h
      have hb := facLn_bd hf hn
      split at h
      · have := facF_le xs _ N h (by omega)
        omega
      · cases h
    · rw [if_neg hf] at h
      cases h
/-- what a factor that fits adds -/
theorem fac_step {gs : List Rl} {k : Nat} {u : ByteArray} {N : Int} (hk : k < gs.length) (h : facF (gs.drop k) (u.size : Int) = some N) :
    facF (gs.drop (k + 1)) ((wStep gs[k] u).size : Int) = some N ∧
    ((gs[k].L.size = 0 ∧ ∃ a b : Nat, gs[k].l = a ∧ gs[k].r = b ∧ a + b ≤ u.size ∧ wStep gs[k] u = u ++ u.extract a (a + b)) ∨
     (gs[k].L.size = 1 ∧ gs[k].l = 0 ∧ gs[k].r = 0 ∧ wStep gs[k] u = u ++ gs[k].L)) := by
  rw [facF_drop _ hk] at h
  by_cases hf : facFits gs[k] (u.size : Int) = true
  · rw [if_pos hf] at h
    split at h
    · unfold facFits at hf
      unfold facLn at h
      by_cases h0 : gs[k].L.size = 0
      · rw [if_pos h0] at hf h
        simp only [Bool.and_eq_true, decide_eq_true_iff] at hf
        have hs : wStep gs[k] u = u ++ u.extract gs[k].l.toNat (gs[k].l.toNat + gs[k].r.toNat) := by unfold wStep; rw [if_pos h0]
        refine ⟨?_, .inl ⟨h0, gs[k].l.toNat, gs[k].r.toNat, by omega, by omega, by omega, hs⟩⟩
        rw [hs, ByteArray.size_append, ByteArray.size_extract]
        rw [← h]
        congr 1
        omega
      · rw [if_neg h0] at hf h
        simp only [Bool.and_eq_true, decide_eq_true_iff] at hf
        have h1 : gs[k].L.size = 1 := by
          have := hf.1
          unfold isL at this
          simp only [Bool.and_eq_true, decide_eq_true_iff] at this
          exact this.1
        have hs : wStep gs[k] u = u ++ gs[k].L := by unfold wStep; rw [if_neg h0]
        refine ⟨?_, .inr ⟨h1, hf.2.1, hf.2.2, hs⟩⟩
        rw [hs, ByteArray.size_append, h1]
        rw [← h]
        congr 1
    · cases h
  · rw [if_neg hf] at h
    cases h
theorem ba_ext {a b : ByteArray} (h : a.data.toList = b.data.toList) : a = b := ByteArray.ext (Array.toList_inj.1 h)
theorem ba_nil_append (b : ByteArray) : (⟨#[]⟩ : ByteArray) ++ b = b := ba_ext (by simp)
theorem ba_append_nil (b : ByteArray) : b ++ (⟨#[]⟩ : ByteArray) = b := ba_ext (by simp)
theorem ba_extract_nil (u : ByteArray) : u.extract 0 0 = ⟨#[]⟩ := ba_ext (by simp)
/-- the word of factors, and the code -/
def wofG (gs : List Rl) : ByteArray × Int := if facOk gs = true then (if 2000 < facN gs then (⟨#[]⟩, 3) else (facW gs ⟨#[]⟩, 0)) else (⟨#[]⟩, 1)
end Wd
/-- between two factors -/
def FwRel (gs : List Rl) (w : World) (N : Int) (R : ByteArray) (wv iv' : Value) (wr : World) : Prop :=
  ∃ (k : Nat) (u : ByteArray), k ≤ gs.length ∧ iv' = .int .i64 k ∧ wv = .string u ∧ facF (gs.drop k) (u.size : Int) = some N ∧ facW (gs.drop k) u = R ∧ Below w.heap.size w wr
set_option maxRecDepth 100000 in
set_option maxHeartbeats 3200000 in
theorem specWordOfFactors (v : Value) (gs : List Rl) (w : World) (hf : FewR gs) (hr : Rules w v gs) (hw : WfF gs) :
    Calls Try.prog 35 #[v] w fun e w' => e = .returned (.tuple #[.string (wofG gs).1, .int .i64 (wofG gs).2]) ∧ Below w.heap.size w w' := by
  have hc := l06Length_any v gs w hf hr hw
  have hn := hf.len
  obtain ⟨A, c, rfl, hrr⟩ := hr
  unfold wofG
  cases hok : facOk gs
  · rw [hok] at hc
    have HC := Lib.hid hc
    clear hc hok hrr
    go_enter Try.func35, Try.ntmps35
    go_wp2_with fail
    refine HC.out.mono ?_
    rintro e w1 ⟨rfl, hB⟩
    go_wp2_with fail
    go_ret2
    exact ⟨rfl, hB⟩
  · rw [hok] at hc
    rw [if_pos rfl]
    by_cases hbig : 2000 < facN gs
    · rw [if_pos hbig]
      generalize facN gs = N at *
      have HC := Lib.hid hc
      clear hc hok hrr
      go_enter Try.func35, Try.ntmps35
      go_wp2_with fail
      refine HC.out.mono ?_
      rintro e w1 ⟨rfl, hB⟩
      go_wp2_with fail
      go_ret2
      exact ⟨rfl, hB⟩
    · rw [if_neg hbig]
      have hF : facF (gs.drop 0) (((⟨#[]⟩ : ByteArray).size : Nat) : Int) = some (facN gs) := by
        have h1 := hok
        unfold facOk at h1
        unfold facN
        rw [Option.isSome_iff_exists] at h1
        obtain ⟨m, hm⟩ := h1
        rw [hm]
        unfold facR at hm
        split at hm
        · exact hm
        · cases hm
      generalize facN gs = N at *
      obtain ⟨R, hR⟩ : ∃ R, R = facW gs ⟨#[]⟩ := ⟨_, rfl⟩
      rw [← hR]
      have HR0 : Hid (facW (gs.drop 0) ⟨#[]⟩ = R) := Lib.hid hR.symm
      have HF0 := Lib.hid hF
      obtain ⟨n, hng⟩ : ∃ n, n = gs.length := ⟨_, rfl⟩
      rw [← hng] at hc hn ⊢
      have HN := Lib.hid hng
      have HR := Lib.hid hrr
      have HC := Lib.hid hc
      clear hc hok hrr hR hF hng
      go_enter Try.func35, Try.ntmps35
      go_wp2_with fail
      refine HC.out.mono ?_
      rintro e w1 ⟨rfl, hB⟩
      have HB1 := Lib.hid hB
      clear hB
      go_wp2_with fail
      go_loopw [6, 7] (fun wv i wr => FwRel gs w N R wv i wr) (fun _ i _ => n - (intOf i).toNat)
      case atStart => exact ⟨0, ⟨#[]⟩, Nat.zero_le _, rfl, rfl, HF0.out, HR0.out, HB1.out⟩
      case round =>
        obtain ⟨k, u, hk, rfl, rfl, hF, hW, hB⟩ := hrel
        obtain ⟨wo, rfl⟩ : ∃ wo : World, wo = wr := ⟨_, rfl⟩
        have hle := facF_le _ _ _ hF (by omega)
        by_cases hlt : k < n
        · have hkg : k < gs.length := by rw [← HN.out]; exact hlt
          rcases HR.out with h | ⟨g, rfl, hg, hc⟩
          · rw [h] at hkg; simp at hkg
          obtain ⟨a0, a1, a2⟩ := rules_cells hc hkg
          rw [← hB.cell (p := ⟨g, k * 3, none⟩) hg] at a0
          rw [← hB.cell (p := ⟨g, k * 3 + 1, none⟩) hg] at a1
          rw [← hB.cell (p := ⟨g, k * 3 + 2, none⟩) hg] at a2
          rw [facW_drop u hkg] at hW
          obtain ⟨hF2, hcase⟩ := fac_step hkg hF
          have hle2 := facF_le _ _ _ hF2 (by omega)
          have t1 : (0 : Int) ≤ (k : Int) := by omega
          have t2 : (k : Int) < (n : Int) := by omega
          have hst : ∀ m U, U = wStep gs[k] u → FwRel gs w N R (.string U) (.int .i64 ((k + 1 : Nat) : Int)) (wo.drewN m) := fun m U hU => by
            subst hU
            exact ⟨k + 1, _, by omega, rfl, rfl, hF2, hW, below_drewN hB m⟩
          clear hc hk hF hB
          rcases hcase with ⟨h0, a, b, ha, hb, hab, hU⟩ | ⟨h1, hl, hr, hU⟩
          · rw [hU] at hst hle2
            rw [empty_arr h0] at a0
            rw [ha] at a1
            rw [hb] at a2
            have hsz := ByteArray.size_append (a := u) (b := u.extract a (a + b))
            have HST := Lib.hid hst
            have s1 : IntKind.i64.wrap ((a : Int) + (b : Int)) = ((a + b : Nat) : Int) := by rw [IntWalk.i64_in _ (by omega)]; omega
            have s2 : (0 : Int) ≤ (a : Int) := by omega
            have s3 : (a : Int) ≤ ((a + b : Nat) : Int) := by omega
            have s4 : ((a + b : Nat) : Int) ≤ (u.size : Int) := by omega
            clear hst hU h0 ha hb hF2 hW hsz
            go_wp2_with fail
            go_quiet (fail)
            go_wp2_with fail
            go_roundw
            all_goals first | exact HST.out _ _ rfl | ((repeat apply Exists.intro); exact ⟨HST.out _ _ rfl, rfl⟩) | (simp [intOf]; done) | (simp [intOf]; omega) | omega
          · rw [hU] at hst hle2
            have he := full_list (L := gs[k].L) (by omega)
            have hsz := ByteArray.size_append (a := u) (b := gs[k].L)
            have HST := Lib.hid (hst 0)
            generalize gs[k].L = L at *
            clear hst hU hF2 hW hl hr
            go_wp2_with fail
            go_roundw
            all_goals first | exact HST.out _ rfl | ((repeat apply Exists.intro); exact ⟨HST.out _ rfl, rfl⟩) | (simp [intOf]; done) | (simp [intOf]; omega) | omega
        · obtain rfl : k = n := by have := HN.out; omega
          rw [facW_end u (by rw [← HN.out]; exact Nat.le_refl _)] at hW
          have HW := Lib.hid hW
          clear hW hF
          go_wp2_with fail
          go_ret2
          exact ⟨by rw [← HW.out]; rfl, hB⟩
end Go.Proofs.Ytlkjceolddccbaa
