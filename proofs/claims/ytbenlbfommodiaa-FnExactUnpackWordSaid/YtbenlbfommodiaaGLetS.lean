/-
  Walk: spec.l02Letter.
-/
import Derived.Test.YtbenlbfommodiaaGLetM
import Derived.Test.YtbenlbfommodiaaGWLen
namespace Go.Proofs.Ytbenlbfommodiaa
open Go.RowKit
open Wd
set_option linter.unusedVariables false

/-- the letter that comes back -/
def LetPost (gs : List Rl) (T : Nat) (w : World) (e : Ending) (w' : World) : Prop :=
  (∃ (x : Rl) (h0 : 0 < x.L.size), gs[T]? = some x ∧ x.L.size = 1 ∧ lt x.L[0] = true ∧ e = .returned (.int .u8 (x.L[0]).toNat)) ∧ w = w'

set_option maxRecDepth 100000 in
set_option maxHeartbeats 6400000 in
theorem l02Letter_any (p : Nat) (gs : List Rl) (x : Value) (B m : Nat) (i : Int) (w : World) (hok : gOk gs = true) (h : GP w p gs) (hx : OwnsI w B x (lens gs)) (hm : gs.length = m + 1) (hi0 : 0 ≤ i) (hi1 : i ≤ 1000000000000000)
    (T : Nat) (hT : leafAt gs gs.length m i = T) :
    Calls Try.prog 117 #[.pointer (some ⟨p, 0, none⟩), x, .int .i64 i] w (LetPost gs T w) := by
  obtain ⟨v, hv, A, c, rfl, hr⟩ := h
  have hn := gOk_len hok
  have hst := down_start hm hi0 hi1
  rw [hT] at hst
  rcases hr with hr | ⟨g, rfl, hg, hc⟩
  · rw [hr] at hm; simp at hm
  rcases hx.shape with ⟨_, h'⟩ | ⟨gx, cx, rfl, _⟩
  · have := lens_len gs; rw [h', hm] at this; simp at this
  have HX := Lib.hid (fun j (hj : j < gs.length) => (show w.cell? ⟨gx, j, none⟩ = some (.int .i64 ((lens gs).getD j 0)) by
    have := hx.cell j (by rw [lens_len]; exact hj)
    rw [this, List.getD_eq_getElem?_getD, List.getElem?_eq_getElem (by rw [lens_len]; exact hj), Option.getD_some]))
  have hl := lens_len gs
  rw [hl]
  obtain ⟨n, hng⟩ : ∃ n, n = gs.length := ⟨_, rfl⟩
  rw [← hng] at hn hv ⊢
  have HN := Lib.hid hng
  have HST := Lib.hid hst
  have HC := Lib.hid hc
  have HK := Lib.hid hok
  have hm' : n = m + 1 := by omega
  have hmi : (n : Int) - 1 = (m : Int) := by omega
  have HMI := Lib.hid hmi
  clear hst hc hok hx hl hng hm hT hmi
  subst hm'
  go_enter Try.func117, Try.ntmps117
  go_wp2_with fail
  go_loopw [2, 7, 8] (fun iv kv _ wr => ∃ (k : Nat) (j : Int), kv = .int .i64 k ∧ iv = .int .i64 j ∧ Down gs T k j ∧ w = wr) (fun _ kv _ _ => (intOf kv).toNat)
  case atStart => exact ⟨m, i, by go_num, rfl, HST.out, rfl⟩
  case round =>
    obtain ⟨k, j, rfl, rfl, hd, hw⟩ := hrel
    subst hw
    have hkg := hd.1
    have hkn : k < m + 1 := by rw [HN.out]; exact hkg
    have hj0 := hd.2.1
    have hj1 := hd.2.2.1
    obtain ⟨a0, a1, a2⟩ := rules_cells HC.out hkg
    by_cases h0 : gs[k].L.size = 0
    · obtain ⟨a, b, ha, hb, hak, hbk, p1, p2, hl, hr⟩ := down_step hd HK.out hkg h0
      have he := empty_arr h0
      rw [he] at a0
      rw [ha] at a1
      rw [hb] at a2
      have o1 := HX.out a (by omega)
      generalize (lens gs).getD a 0 = z at *
      have HL := Lib.hid hl
      have HR := Lib.hid hr
      clear hd hl hr he h0 ha hb
      by_cases hlt : j < z
      · have HD := Lib.hid (HL.out hlt)
        go_wp2_with fail
        go_roundw
        case rel => exact ⟨a, j, rfl, rfl, HD.out, trivial⟩
        case measure => simp [intOf]; omega
      · have HD := Lib.hid (HR.out hlt)
        go_wp2_with fail
        go_roundw
        case rel => exact ⟨b, j - z, rfl, rfl, HD.out, trivial⟩
        case measure => simp [intOf]; omega
    · have he := full_list h0
      obtain rfl := down_end hd hkg h0
      have hL1 := (ok_letter h0).1 (fits_at (gOk_iff.1 HK.out).2.1 T hkg)
      have h0' : 0 < gs[T].L.size := by have := hL1.1.1; omega
      have HF : Hid (LetPost gs T w (.returned (.int .u8 (gs[T].L[0]'h0').toNat)) w) := Lib.hid ⟨⟨gs[T], h0', List.getElem?_eq_getElem hkg, hL1.1.1, by
        have := okL_at hL1.1.2 (i := 0) (by simpa using h0'); exact this, rfl⟩, rfl⟩
      clear hL1
      clear hd h0
      go_wp2_with fail
      go_ret
      exact HF.out
end Go.Proofs.Ytbenlbfommodiaa
