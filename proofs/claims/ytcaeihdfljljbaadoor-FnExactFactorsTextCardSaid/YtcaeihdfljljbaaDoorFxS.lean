/-
  The text of factors. Walks: spec.l06Text, spec.FactorsText.
-/
import Derived.Test.YtcaeihdfljljbaaDoorDecI
import Derived.Test.YtcaeihdfljljbaaDoorFacT
import Derived.Deep.DeepCutAuto
namespace Go.Proofs.YtcaeihdfljljbaaDoor
open Go.RowKit
open Wd
set_option linter.unusedVariables false
namespace Wd
theorem fx_sz (u t : ByteArray) : (u ++ t).size = u.size + t.size := ByteArray.size_append
/-- the line of a factor -/
def facT (x : Rl) : ByteArray := if x.L.size = 0 then ((decT x.l.toNat ++ ⟨#[32]⟩) ++ decT x.r.toNat) ++ ⟨#[10]⟩ else x.L ++ ⟨#[10]⟩
def fsT : List Rl → ByteArray
  | [] => ⟨#[]⟩
  | x :: xs => facT x ++ fsT xs
theorem fsT_app (a b : List Rl) : fsT (a ++ b) = fsT a ++ fsT b := by
  induction a with
  | nil => exact (ByteArray.empty_append).symm
  | cons z zs ih =>
    show facT z ++ fsT (zs ++ b) = (facT z ++ fsT zs) ++ fsT b
    rw [ih]
    exact (ByteArray.append_assoc).symm
theorem fsT_one (z : Rl) : fsT [z] = facT z := ByteArray.append_empty
theorem fsT_take (zs : List Rl) (k : Nat) (h : k < zs.length) : fsT (zs.take (k + 1)) = fsT (zs.take k) ++ facT zs[k] := by
  rw [List.take_succ_eq_append_getElem h, fsT_app, fsT_one]
/-- what a valid factor's parts are -/
def OkX (x : Rl) : Prop := (x.L = ⟨#[]⟩ ∧ (0 ≤ x.l ∧ x.l ≤ 1000000000000000) ∧ 0 ≤ x.r ∧ x.r ≤ 1000000000000000) ∨ ∃ c : UInt8, x.L = ⟨#[c]⟩
theorem facF_ok : ∀ (gs : List Rl) (n m : Int), 0 ≤ n → n ≤ 1000000000000000 → facF gs n = some m → ∀ x ∈ gs, OkX x
  | [], _, _, _, _, _ => by simp
  | x :: xs, n, m, h0, h1, h => by
    unfold facF at h
    by_cases hq : facFits x n = true
    · rw [if_pos hq] at h
      have hb := facLn_bd hq h0
      by_cases hr : n + facLn x ≤ 1000000000000000
      · rw [if_pos hr] at h
        have ih := facF_ok xs _ m (by omega) hr h
        intro y hy
        rcases List.mem_cons.1 hy with rfl | hy
        · unfold facFits at hq
          by_cases hz : y.L.size = 0
          · rw [if_pos hz] at hq
            simp only [Bool.and_eq_true, decide_eq_true_iff] at hq
            exact .inl ⟨empty_arr hz, by omega, by omega⟩
          · rw [if_neg hz, Bool.and_eq_true] at hq
            obtain ⟨c, hc, _⟩ := isL_byte hq.1
            exact .inr ⟨c, hc⟩
        · exact ih y hy
      · rw [if_neg hr] at h; cases h
    · rw [if_neg hq] at h; cases h
structure OkF (gs : List Rl) : Prop where
  len : gs.length ≤ 120
  all : ∀ k (h : k < gs.length), OkX gs[k]
theorem OkF.of {gs : List Rl} (h : facOk gs = true) : OkF gs := by
  unfold facOk facR at h
  by_cases hl : gs.length ≤ 120
  · rw [if_pos hl] at h
    obtain ⟨m, hm⟩ := Option.isSome_iff_exists.1 h
    exact ⟨hl, fun k hk => facF_ok gs 0 m (by omega) (by omega) hm _ (List.getElem_mem hk)⟩
  · rw [if_neg hl] at h; cases h
theorem facT_size {x : Rl} (h : OkX x) : (facT x).size ≤ 60 := by
  have e1 : (⟨#[32]⟩ : ByteArray).size = 1 := rfl
  have e2 : (⟨#[10]⟩ : ByteArray).size = 1 := rfl
  rcases h with ⟨h1, h2, h3⟩ | ⟨c, h1⟩
  · have a1 := decT_size (n := x.l.toNat) (by omega)
    have a2 := decT_size (n := x.r.toNat) (by omega)
    unfold facT
    rw [if_pos (by rw [h1]; rfl), fx_sz, fx_sz, fx_sz]
    omega
  · unfold facT
    rw [if_neg (by rw [h1]; simp [ByteArray.size]), fx_sz, h1]
    simp [ByteArray.size]
theorem fsT_size : ∀ (gs : List Rl), (∀ x ∈ gs, OkX x) → (fsT gs).size ≤ 60 * gs.length
  | [], _ => by decide
  | x :: xs, h => by
    have h1 := facT_size (h x (by simp))
    have h2 := fsT_size xs (fun y hy => h y (by simp [hy]))
    show (facT x ++ fsT xs).size ≤ _
    rw [fx_sz]
    simp only [List.length_cons]
    omega
theorem OkF.size {gs : List Rl} (h : OkF gs) (k : Nat) : (fsT (gs.take k)).size ≤ 7200 := by
  have h1 := fsT_size (gs.take k) (fun x hx => by
    obtain ⟨j, hj, rfl⟩ := List.getElem_of_mem (List.mem_of_mem_take hx)
    exact h.all j hj)
  have h2 := h.len
  have h3 : (gs.take k).length ≤ gs.length := by rw [List.length_take]; omega
  omega
end Wd
theorem undrewF {B : Nat} {w w' : World} (h : Below B w.drew w') : Below B w w' := ⟨h.os, h.tape, h.output, h.size, h.block⟩
theorem decZ (n : Nat) (W : World) (h : n ≤ 9223372036854775807) :
    Calls Tryd.prog 27 #[.int .i64 (n : Int)] W fun e w' => e = .returned (.string (decT n)) ∧ Below W.heap.size W w' := dec_any (n + 1) n W (by omega) h
set_option maxRecDepth 100000 in
set_option maxHeartbeats 6400000 in
theorem l06Text_any (v : Value) (gs : List Rl) (w : World) (hf : FewR gs) (hr : Rules w v gs) (hok : OkF gs) :
    Calls Tryd.prog 34 #[v] w fun e w' => e = .returned (.string (fsT gs)) ∧ Below w.heap.size w w' := by
  have hn := hf.len
  obtain ⟨A, c, rfl, hr⟩ := hr
  obtain ⟨n, hng⟩ : ∃ n, n = gs.length := ⟨_, rfl⟩
  rw [← hng] at hn ⊢
  have HN := Lib.hid hng
  have HR := Lib.hid hr
  have HO := Lib.hid hok
  clear hr hng hf hok
  go_enter Tryd.func34, Tryd.ntmps34
  go_wp2
  go_loopw [3, 4] (fun s i wr => ∃ k : Nat, k ≤ n ∧ i = .int .i64 k ∧ s = .string (fsT (gs.take k)) ∧ Below w.heap.size w wr) (fun _ i _ => n - (intOf i).toNat)
  case atStart => exact ⟨0, Nat.zero_le _, rfl, rfl, Below.refl _ _⟩
  case round =>
    obtain ⟨k, hk, rfl, rfl, hB⟩ := hrel
    obtain ⟨wo, rfl⟩ : ∃ wo : World, wo = wr := ⟨_, rfl⟩
    have hU := HO.out.size k
    by_cases hlt : k < n
    · have hkg : k < gs.length := by rw [← HN.out]; exact hlt
      rcases HR.out with h | ⟨g, rfl, hg, hc⟩
      · rw [h] at hkg; simp at hkg
      obtain ⟨a0, a1, a2⟩ := rules_cells hc hkg
      rw [← hB.cell (p := ⟨g, k * 3, none⟩) hg] at a0
      rw [← hB.cell (p := ⟨g, k * 3 + 1, none⟩) hg] at a1
      rw [← hB.cell (p := ⟨g, k * 3 + 2, none⟩) hg] at a2
      have hsn := fsT_take gs k hkg
      have hx := HO.out.all k hkg
      have HG : Hid (g < wo.heap.size) := Lib.hid (Nat.lt_of_lt_of_le hg hB.size)
      have t1 : (0 : Int) ≤ (k : Int) := by omega
      have t2 : (k : Int) < (n : Int) := by omega
      have HKN : Hid (k + 1 ≤ n) := Lib.hid (by omega)
      generalize fsT (gs.take k) = U at *
      generalize gs[k] = x at *
      obtain ⟨L, l, r⟩ := x
      have HB := Lib.hid hB
      clear hc hg hB hk
      rcases hx with ⟨hL, ⟨hl0, hl1⟩, hr0, hr1⟩ | ⟨cc, hL⟩
      · simp only at hL hl0 hl1 hr0 hr1
        subst hL
        obtain ⟨l, rfl⟩ : ∃ m : Nat, l = m := ⟨l.toNat, by omega⟩
        obtain ⟨r, rfl⟩ : ∃ m : Nat, r = m := ⟨r.toNat, by omega⟩
        have HSN : Hid (fsT (gs.take (k + 1)) = U ++ (((decT l ++ ⟨#[32]⟩) ++ decT r) ++ ⟨#[10]⟩)) := Lib.hid (by rw [hsn]; rfl)
        have hl2 : l ≤ 1000000000000000 := by omega
        have hr2 : r ≤ 1000000000000000 := by omega
        have s1 := decT_size (n := l) (by omega)
        have s2 := decT_size (n := r) (by omega)
        have HLR := Lib.hid (And.intro hl2 hr2)
        have HD := Lib.hid (fun q (h : q ≤ 1000000000000000) W => decZ q W (by omega))
        have HK := Lib.hid (fun W (hb : Below wo.heap.size wo W) => And.intro ((hb.cell (p := ⟨g, k * 3 + 1, none⟩) HG.out).trans a1) ((hb.cell (p := ⟨g, k * 3 + 2, none⟩) HG.out).trans a2))
        have HC := Lib.hid (And.intro a1 a2)
        have HZ := Lib.hid HB.out
        clear HB
        have HB := Lib.hid (Below.refl wo.heap.size wo)
        have c1 : (9223372036854775807 < (decT l).size + 1) = False := by simp; omega
        have c2 : (9223372036854775807 < (decT l).size + 1 + (decT r).size) = False := by simp; omega
        have c3 : (9223372036854775807 < (decT l).size + 1 + (decT r).size + 1) = False := by simp; omega
        have c4 : (9223372036854775807 < U.size + ((decT l).size + 1 + (decT r).size + 1)) = False := by simp; omega
        clear hsn hl0 hl1 hr0 hr1 hl2 hr2 s1 s2 hU
        go_upto_region 7 with fail
        go_region_held3 (fun w' => w'.cell? ⟨g, k * 3 + 1, none⟩ = some (.int .i64 (l : Int)) ∧ w'.cell? ⟨g, k * 3 + 2, none⟩ = some (.int .i64 (r : Int)))
          (first | (with_reducible exact HC.out) | (with_reducible go_keep) | exact HC.out | go_keep)
          (first
            | (go_at_call 27
               refine (HD.out _ ?_ _).mono ?_
               (first | exact HLR.out.1 | exact HLR.out.2)
               rintro e w5 ⟨rfl, hB5⟩
               have HB := Lib.hid (show Below wo.heap.size wo w5 from by first | (with_reducible exact HB.out.trans (hB5.mono HB.out.size)) | (with_reducible exact HB.out.trans ((undrewF hB5).mono HB.out.size)) | exact HB.out.trans ((below_undrew hB5).mono HB.out.size))
               have HC := Lib.hid (HK.out w5 HB.out)
               clear hB5))
        all_goals
          have HBC := Lib.hid (HZ.out.trans (HB.out.mono HZ.out.size))
          go_wp2_with fail
          go_roundw
        all_goals first | exact ⟨k + 1, HKN.out, by go_num, by rw [HSN.out], HBC.out⟩ | ((repeat apply Exists.intro); exact ⟨⟨k + 1, HKN.out, by go_num, by rw [HSN.out], HBC.out⟩, rfl⟩) | (simp [intOf]; done) | (simp [intOf]; have := HKN.out; omega) | (have := HKN.out; omega)
      · simp only at hL
        subst hL
        have HSN : Hid (fsT (gs.take (k + 1)) = U ++ (⟨#[cc]⟩ ++ ⟨#[10]⟩)) := Lib.hid (by rw [hsn]; rfl)
        have c1 : (9223372036854775807 < U.size + 2) = False := by simp; omega
        have c2 : (9223372036854775807 < U.size + (1 + 1)) = False := by simp; omega
        have c3 : (9223372036854775807 < U.size + ((⟨#[cc]⟩ : ByteArray) ++ ⟨#[10]⟩).size) = False := by rw [fx_sz]; have e1 : (⟨#[cc]⟩ : ByteArray).size = 1 := rfl; have e2 : (⟨#[10]⟩ : ByteArray).size = 1 := rfl; simp [e1, e2]; omega
        clear hsn hU
        go_wp2_with fail
        go_roundw
        all_goals first | exact ⟨k + 1, HKN.out, by go_num, by rw [HSN.out], HB.out⟩ | ((repeat apply Exists.intro); exact ⟨⟨k + 1, HKN.out, by go_num, by rw [HSN.out], HB.out⟩, rfl⟩) | (simp [intOf]; done) | (simp [intOf]; omega) | omega
    · obtain rfl : k = n := by omega
      have HE : Hid (fsT (gs.take k) = fsT gs) := Lib.hid (by rw [List.take_of_length_le (by have := HN.out; omega)])
      have HB := Lib.hid hB
      clear hB
      go_wp2_with fail
      go_ret
      exact ⟨by rw [← HE.out]; rfl, HB.out⟩
set_option maxRecDepth 100000 in
set_option maxHeartbeats 3200000 in
theorem specFactorsText (v : Value) (gs : List Rl) (w : World) (hf : FewR gs) (hr : Rules w v gs) (hw : WfF gs) :
    Calls Tryd.prog 11 #[v] w fun e w' => e = .returned (.string (if facOk gs = true then fsT gs else ⟨#[]⟩)) ∧ Below w.heap.size w w' := by
  have HV := Lib.hid (specValidFactors v gs w hf hr hw)
  have HX := Lib.hid (fun W (hb : Below w.heap.size w W) => hr.kept hb)
  obtain ⟨A, c, rfl, _⟩ := hr
  cases hok : facOk gs
  · rw [hok] at HV
    rw [if_neg (by decide)]
    clear hok
    go_enter Tryd.func11, Tryd.ntmps11
    go_wp2_with fail
    refine HV.out.mono ?_
    rintro e w1 ⟨rfl, hB1⟩
    have HB1 := Lib.hid hB1
    clear hB1
    go_wp2_with fail
    go_ret
    exact ⟨rfl, HB1.out⟩
  · have HT := Lib.hid (fun W (hb : Below w.heap.size w W) => l06Text_any _ gs W hf (HX.out W hb) (OkF.of hok))
    rw [hok] at HV
    rw [if_pos rfl]
    clear hok
    go_enter Tryd.func11, Tryd.ntmps11
    go_wp2_with fail
    refine HV.out.mono ?_
    rintro e w1 ⟨rfl, hB1⟩
    have HB1 := Lib.hid hB1
    clear hB1
    go_wp2_with fail
    refine (HT.out _ HB1.out).mono ?_
    rintro e w2 ⟨rfl, hB2⟩
    have HB2 := Lib.hid (HB1.out.trans (hB2.mono HB1.out.size))
    clear hB2
    go_wp2_with fail
    go_ret
    exact ⟨rfl, HB2.out⟩
end Go.Proofs.YtcaeihdfljljbaaDoor
