/-
  Walk: impl.DeedText.
-/
import Derived.Test.YtcaeihdfljljbaaDoorDtS
import Derived.Test.YtcaeihdfljljbaaDoorDdI
import Derived.Test.YtcaeihdfljljbaaDoorDecI
namespace Go.Proofs.YtcaeihdfljljbaaDoor
open Go.RowKit
open Wd
set_option linter.unusedVariables false
theorem duo_cells {w : World} {R : Nat} {t : TypeId} {a b : Value} (h : w.heap[R]? = some (.cells #[a, b] t (0, 0))) :
    (w.cell? ⟨R, 0, none⟩ = some a ∧ w.cell? ⟨R, 1, none⟩ = some b) ∧ w.frozen? ⟨R, 0, none⟩ = false ∧ w.frozen? ⟨R, 1, none⟩ = false := by
  have key : ∀ o, w.cell? ⟨R, o, none⟩ = (#[a, b] : Array Value)[o]? := fun o => by simp [World.cell?, h]
  refine ⟨⟨?_, ?_⟩, ?_, ?_⟩
  · rw [key]; rfl
  · rw [key]; rfl
  all_goals simp [World.frozen?, h]
/-- the form's block -/
def FmD (w3 : World) (F : Nat) (W0 : ByteArray) (n : Int) (wx : World) : Prop :=
  wx.heap[F]? = some (.cells #[.string W0, .int .i64 n] 66 (0, 0)) ∧ w3.heap.size ≤ F ∧ Below w3.heap.size w3 wx
theorem FmD.one {w3 w7 : World} {W0 : ByteArray} {n : Int} (hb : Below w3.heap.size w3 w7) :
    FmD w3 w7.heap.size W0 n (w7.alloc (.cells #[.string W0, .int .i64 n] 66)) :=
  ⟨heap_alloc_new _ _, hb.size, hb.alloc hb.size _⟩
theorem FmD.two {w3 w7 : World} {F : Nat} {W0 : ByteArray} {n : Int} {a b : Value} (hF : w3.heap.size ≤ F) (hb : Below w3.heap.size w3 w7) (hx : w7.heap[F]? = some (.cells #[a, b] 66 (0, 0))) :
    FmD w3 F W0 n ((w7.setCell ⟨F, 0, none⟩ (.string W0)).setCell ⟨F, 1, none⟩ (.int .i64 n)) :=
  ⟨by simp [World.setCell, Array.getElem?_modify, hx], hF, (hb.setCell hF _).setCell hF _⟩
theorem FmD.drewN {w3 wx : World} {F : Nat} {W0 : ByteArray} {n : Int} (h : FmD w3 F W0 n wx) (m : Nat) : FmD w3 F W0 n (wx.drewN m) :=
  ⟨h.1, h.2.1, below_drewN h.2.2 m⟩
theorem FmD.of {w3 wx : World} {F : Nat} {W0 W1 : ByteArray} {n m : Int} (h : FmD w3 F W0 n wx) (e0 : W1 = W0) (e1 : m = n) : FmD w3 F W1 m wx := by
  rw [e0, e1]; exact h
set_option maxRecDepth 100000 in
set_option maxHeartbeats 25600000 in
theorem implDeedText (k a b c : Int) (w : World) (ht : Pow10 w) :
    Calls Tryd.prog 9 #[.agg #[.int .i64 k, .int .i64 a, .int .i64 b, .int .i64 c]] w fun e w' => e = .returned (.string (if ddOk k a b c = true then ddT k.toNat a.toNat b.toNat c.toNat else ⟨#[]⟩)) ∧ Below w.heap.size w w' := by
  have hb0 := (Below.refl _ w).alloc (Nat.le_refl _) (.cells #[.int .i64 k, .int .i64 a, .int .i64 b, .int .i64 c] 25)
  have hP0 := heap_alloc_new w (.cells #[.int .i64 k, .int .i64 a, .int .i64 b, .int .i64 c] 25)
  have hs0 : w.heap.size < (w.alloc (.cells #[.int .i64 k, .int .i64 a, .int .i64 b, .int .i64 c] 25)).heap.size := by simp
  have HV := Lib.hid (fun W => implValidDeed k a b c W)
  have HB0 := Lib.hid hb0
  have HP0 := Lib.hid hP0
  have HS0 := Lib.hid hs0
  have HTB := Lib.hid ht
  clear hb0 hP0 hs0 ht
  cases hok : ddOk k a b c
  · rw [hok] at HV
    rw [if_neg (by decide)]
    clear hok
    go_enter Tryd.func9, Tryd.ntmps9
    go_wp2_with fail
    refine (HV.out _).mono ?_
    rintro e w1 ⟨rfl, hB1⟩
    have HB1 := Lib.hid (HB0.out.trans (hB1.mono (by simp)))
    clear hB1
    go_wp2_with fail
    go_ret
    exact ⟨rfl, HB1.out⟩
  · rw [hok] at HV
    rw [if_pos rfl]
    obtain ⟨⟨hk1, hk9⟩, ⟨ha0, ha1⟩, ⟨hb0, hb1⟩, hc0, hc1⟩ : (1 ≤ k ∧ k ≤ 9) ∧ (0 ≤ a ∧ a ≤ 999) ∧ (0 ≤ b ∧ b ≤ 999) ∧ (0 ≤ c ∧ c ≤ 999) := by
      unfold ddOk dnOk at hok
      simp only [Bool.and_eq_true, decide_eq_true_iff] at hok
      exact ⟨hok.1, hok.2.1, hok.2.2.1, hok.2.2.2.1⟩
    clear hok
    obtain ⟨kk, rfl⟩ : ∃ n : Nat, k = n := ⟨k.toNat, by omega⟩
    obtain ⟨aa, rfl⟩ : ∃ n : Nat, a = n := ⟨a.toNat, by omega⟩
    obtain ⟨bb, rfl⟩ : ∃ n : Nat, b = n := ⟨b.toNat, by omega⟩
    obtain ⟨cc, rfl⟩ : ∃ n : Nat, c = n := ⟨c.toNat, by omega⟩
    simp only [Int.toNat_natCast]
    obtain ⟨T, hT⟩ : ∃ T, T = ddT kk aa bb cc := ⟨_, rfl⟩
    rw [← hT]
    have HN : Hid (1 ≤ ddN (kk : Int) ∧ ddN (kk : Int) ≤ 3) := Lib.hid (by unfold ddN; split <;> (try split) <;> (try split) <;> omega)
    have sW := ddW_size (k := kk) (by omega)
    have sA := decT_size (n := aa) (by omega)
    have sB := decT_size (n := bb) (by omega)
    have sC := decT_size (n := cc) (by omega)
    have k0 : (0 : Int) ≤ (kk : Int) := by omega
    have k1 : (kk : Int) < 10 := by omega
    have HT := Lib.hid hT
    clear hT
    go_enter Tryd.func9, Tryd.ntmps9
    go_wp2_with fail
    refine (HV.out _).mono ?_
    rintro e w3 ⟨rfl, hB3⟩
    have HP3 := Lib.hid ((hB3.block w.heap.size HS0.out).trans HP0.out)
    have HB3 := Lib.hid (HB0.out.trans (hB3.mono (by simp)))
    have HS3 : Hid (w.heap.size < w3.heap.size) := Lib.hid (by have := hB3.size; have := HS0.out; omega)
    obtain ⟨⟨p0, p1, p2, p3⟩, _⟩ := dblk_cells HP3.out
    clear hB3
    go_upto_region 3 with fail
    go_cut [3] (fun s3 wx => ∃ F, s3 = .pointer (some ⟨F, 0, none⟩) ∧ FmD w3 F (ddW kk) (ddN (kk : Int)) wx)
    case first =>
      have HFM : Hid (∀ W, Below w3.heap.size w3 W → Calls Tryd.prog 30 #[] W fun e w' => e = .returned (.agg #[.string ⟨#[]⟩, .int .i64 0, .string ⟨#[112, 117, 116]⟩, .int .i64 2, .string ⟨#[115, 97, 118, 101]⟩, .int .i64 1, .string ⟨#[99, 114, 97, 115, 104]⟩, .int .i64 1, .string ⟨#[111, 102, 102, 101, 114]⟩, .int .i64 3, .string ⟨#[97, 115, 107]⟩, .int .i64 2, .string ⟨#[100, 101, 108, 105, 118, 101, 114]⟩, .int .i64 1, .string ⟨#[99, 111, 112, 121]⟩, .int .i64 1, .string ⟨#[100, 114, 111, 112]⟩, .int .i64 1, .string ⟨#[115, 119, 101, 101, 112]⟩, .int .i64 1]) ∧ Below w3.heap.size w3 w' ∧ ∀ b, b < W.heap.size → w'.heap[b]? = W.heap[b]?) := Lib.hid (fun W hb => by
        refine (deedForms_lit W).mono ?_
        rintro e w' ⟨he, h2⟩
        exact ⟨he, hb.trans (h2.mono hb.size), fun b hb => h2.block b hb⟩)
      have HPK := Lib.hid (fun W (hb : Below w3.heap.size w3 W) => (hb.cell (p := ⟨w.heap.size, 0, none⟩) HS3.out).trans p0)
      clear HN HV HP3 HP0 HT HTB
      obtain rfl | rfl | rfl | rfl | rfl | rfl | rfl | rfl | rfl : kk = 1 ∨ kk = 2 ∨ kk = 3 ∨ kk = 4 ∨ kk = 5 ∨ kk = 6 ∨ kk = 7 ∨ kk = 8 ∨ kk = 9 := by omega
      · have hx7 := index_deed1
        have p0 : w3.cell? ⟨w.heap.size, 0, none⟩ = some (.int .i64 1) := p0
        have HPK : Hid (∀ W, Below w3.heap.size w3 W → W.cell? ⟨w.heap.size, 0, none⟩ = some (.int .i64 1)) := Lib.hid (fun W hb => HPK.out W hb)
        go_region_held3 (fun w' => w'.cell? ⟨w.heap.size, 0, none⟩ = some (.int .i64 1))
          (first | (with_reducible go_keep) | (with_reducible exact p0) | (with_reducible exact HC7.out) | (with_reducible exact HPK.out _ (HB7.out.alloc HB7.out.size _)) | (with_reducible exact HPK.out _ ((HB7.out.setCell (Nat.le_refl _) _).setCell (Nat.le_refl _) _)) | go_keep)
          (first
            | (go_at_call 30
               refine (HFM.out _ ?_).mono ?_
               (first | (with_reducible exact (Below.refl _ _).alloc (Nat.le_refl _) _) | (with_reducible exact below_drewD ((Below.refl _ _).alloc (Nat.le_refl _) _)) | (with_reducible exact (below_drewD (Below.refl _ _)).alloc (Nat.le_refl _) _))
               rintro e w7 ⟨rfl, hB7, hK7⟩
               have HX7 : Hid (w7.heap[w3.heap.size]? = some (.cells #[.string ⟨#[]⟩, .int .i64 0] 66 (0, 0))) := Lib.hid ((hK7 _ (by simp)).trans (heap_alloc_new w3 _))
               obtain ⟨⟨x0, x1⟩, e0, e1⟩ := duo_cells HX7.out
               have HB7 := Lib.hid hB7
               have HC7 := Lib.hid (HPK.out w7 hB7)
               clear hB7 hK7)
            | (go_at_call 30
               refine (HFM.out _ ?_).mono ?_
               (first | (with_reducible exact Below.refl _ _) | (with_reducible exact below_drewD (Below.refl _ _)))
               rintro e w7 ⟨rfl, hB7, hK7⟩
               have HB7 := Lib.hid hB7
               have HC7 := Lib.hid (HPK.out w7 hB7)
               clear hB7 hK7))
        all_goals (go_wp2_with fail; go_meet)
        all_goals first
          | (with_reducible exact ⟨_, rfl, FmD.of (FmD.two (Nat.le_refl _) HB7.out HX7.out) rfl rfl⟩)
          | (with_reducible exact ⟨_, rfl, FmD.of (FmD.one HB7.out) rfl rfl⟩)
          | (with_reducible exact ⟨_, rfl, FmD.of ((FmD.two (Nat.le_refl _) HB7.out HX7.out).drewN 1) rfl rfl⟩)
          | (with_reducible exact ⟨_, rfl, FmD.of ((FmD.one HB7.out).drewN 1) rfl rfl⟩)
          | exact ⟨_, rfl, FmD.of (FmD.two (Nat.le_refl _) HB7.out HX7.out) rfl rfl⟩
          | exact ⟨_, rfl, FmD.of (FmD.one HB7.out) rfl rfl⟩
      · have hx7 := index_deed2
        have p0 : w3.cell? ⟨w.heap.size, 0, none⟩ = some (.int .i64 2) := p0
        have HPK : Hid (∀ W, Below w3.heap.size w3 W → W.cell? ⟨w.heap.size, 0, none⟩ = some (.int .i64 2)) := Lib.hid (fun W hb => HPK.out W hb)
        go_region_held3 (fun w' => w'.cell? ⟨w.heap.size, 0, none⟩ = some (.int .i64 2))
          (first | (with_reducible go_keep) | (with_reducible exact p0) | (with_reducible exact HC7.out) | (with_reducible exact HPK.out _ (HB7.out.alloc HB7.out.size _)) | (with_reducible exact HPK.out _ ((HB7.out.setCell (Nat.le_refl _) _).setCell (Nat.le_refl _) _)) | go_keep)
          (first
            | (go_at_call 30
               refine (HFM.out _ ?_).mono ?_
               (first | (with_reducible exact (Below.refl _ _).alloc (Nat.le_refl _) _) | (with_reducible exact below_drewD ((Below.refl _ _).alloc (Nat.le_refl _) _)) | (with_reducible exact (below_drewD (Below.refl _ _)).alloc (Nat.le_refl _) _))
               rintro e w7 ⟨rfl, hB7, hK7⟩
               have HX7 : Hid (w7.heap[w3.heap.size]? = some (.cells #[.string ⟨#[]⟩, .int .i64 0] 66 (0, 0))) := Lib.hid ((hK7 _ (by simp)).trans (heap_alloc_new w3 _))
               obtain ⟨⟨x0, x1⟩, e0, e1⟩ := duo_cells HX7.out
               have HB7 := Lib.hid hB7
               have HC7 := Lib.hid (HPK.out w7 hB7)
               clear hB7 hK7)
            | (go_at_call 30
               refine (HFM.out _ ?_).mono ?_
               (first | (with_reducible exact Below.refl _ _) | (with_reducible exact below_drewD (Below.refl _ _)))
               rintro e w7 ⟨rfl, hB7, hK7⟩
               have HB7 := Lib.hid hB7
               have HC7 := Lib.hid (HPK.out w7 hB7)
               clear hB7 hK7))
        all_goals (go_wp2_with fail; go_meet)
        all_goals first
          | (with_reducible exact ⟨_, rfl, FmD.of (FmD.two (Nat.le_refl _) HB7.out HX7.out) rfl rfl⟩)
          | (with_reducible exact ⟨_, rfl, FmD.of (FmD.one HB7.out) rfl rfl⟩)
          | (with_reducible exact ⟨_, rfl, FmD.of ((FmD.two (Nat.le_refl _) HB7.out HX7.out).drewN 1) rfl rfl⟩)
          | (with_reducible exact ⟨_, rfl, FmD.of ((FmD.one HB7.out).drewN 1) rfl rfl⟩)
          | exact ⟨_, rfl, FmD.of (FmD.two (Nat.le_refl _) HB7.out HX7.out) rfl rfl⟩
          | exact ⟨_, rfl, FmD.of (FmD.one HB7.out) rfl rfl⟩
      · have hx7 := index_deed3
        have p0 : w3.cell? ⟨w.heap.size, 0, none⟩ = some (.int .i64 3) := p0
        have HPK : Hid (∀ W, Below w3.heap.size w3 W → W.cell? ⟨w.heap.size, 0, none⟩ = some (.int .i64 3)) := Lib.hid (fun W hb => HPK.out W hb)
        go_region_held3 (fun w' => w'.cell? ⟨w.heap.size, 0, none⟩ = some (.int .i64 3))
          (first | (with_reducible go_keep) | (with_reducible exact p0) | (with_reducible exact HC7.out) | (with_reducible exact HPK.out _ (HB7.out.alloc HB7.out.size _)) | (with_reducible exact HPK.out _ ((HB7.out.setCell (Nat.le_refl _) _).setCell (Nat.le_refl _) _)) | go_keep)
          (first
            | (go_at_call 30
               refine (HFM.out _ ?_).mono ?_
               (first | (with_reducible exact (Below.refl _ _).alloc (Nat.le_refl _) _) | (with_reducible exact below_drewD ((Below.refl _ _).alloc (Nat.le_refl _) _)) | (with_reducible exact (below_drewD (Below.refl _ _)).alloc (Nat.le_refl _) _))
               rintro e w7 ⟨rfl, hB7, hK7⟩
               have HX7 : Hid (w7.heap[w3.heap.size]? = some (.cells #[.string ⟨#[]⟩, .int .i64 0] 66 (0, 0))) := Lib.hid ((hK7 _ (by simp)).trans (heap_alloc_new w3 _))
               obtain ⟨⟨x0, x1⟩, e0, e1⟩ := duo_cells HX7.out
               have HB7 := Lib.hid hB7
               have HC7 := Lib.hid (HPK.out w7 hB7)
               clear hB7 hK7)
            | (go_at_call 30
               refine (HFM.out _ ?_).mono ?_
               (first | (with_reducible exact Below.refl _ _) | (with_reducible exact below_drewD (Below.refl _ _)))
               rintro e w7 ⟨rfl, hB7, hK7⟩
               have HB7 := Lib.hid hB7
               have HC7 := Lib.hid (HPK.out w7 hB7)
               clear hB7 hK7))
        all_goals (go_wp2_with fail; go_meet)
        all_goals first
          | (with_reducible exact ⟨_, rfl, FmD.of (FmD.two (Nat.le_refl _) HB7.out HX7.out) rfl rfl⟩)
          | (with_reducible exact ⟨_, rfl, FmD.of (FmD.one HB7.out) rfl rfl⟩)
          | (with_reducible exact ⟨_, rfl, FmD.of ((FmD.two (Nat.le_refl _) HB7.out HX7.out).drewN 1) rfl rfl⟩)
          | (with_reducible exact ⟨_, rfl, FmD.of ((FmD.one HB7.out).drewN 1) rfl rfl⟩)
          | exact ⟨_, rfl, FmD.of (FmD.two (Nat.le_refl _) HB7.out HX7.out) rfl rfl⟩
          | exact ⟨_, rfl, FmD.of (FmD.one HB7.out) rfl rfl⟩
      · have hx7 := index_deed4
        have p0 : w3.cell? ⟨w.heap.size, 0, none⟩ = some (.int .i64 4) := p0
        have HPK : Hid (∀ W, Below w3.heap.size w3 W → W.cell? ⟨w.heap.size, 0, none⟩ = some (.int .i64 4)) := Lib.hid (fun W hb => HPK.out W hb)
        go_region_held3 (fun w' => w'.cell? ⟨w.heap.size, 0, none⟩ = some (.int .i64 4))
          (first | (with_reducible go_keep) | (with_reducible exact p0) | (with_reducible exact HC7.out) | (with_reducible exact HPK.out _ (HB7.out.alloc HB7.out.size _)) | (with_reducible exact HPK.out _ ((HB7.out.setCell (Nat.le_refl _) _).setCell (Nat.le_refl _) _)) | go_keep)
          (first
            | (go_at_call 30
               refine (HFM.out _ ?_).mono ?_
               (first | (with_reducible exact (Below.refl _ _).alloc (Nat.le_refl _) _) | (with_reducible exact below_drewD ((Below.refl _ _).alloc (Nat.le_refl _) _)) | (with_reducible exact (below_drewD (Below.refl _ _)).alloc (Nat.le_refl _) _))
               rintro e w7 ⟨rfl, hB7, hK7⟩
               have HX7 : Hid (w7.heap[w3.heap.size]? = some (.cells #[.string ⟨#[]⟩, .int .i64 0] 66 (0, 0))) := Lib.hid ((hK7 _ (by simp)).trans (heap_alloc_new w3 _))
               obtain ⟨⟨x0, x1⟩, e0, e1⟩ := duo_cells HX7.out
               have HB7 := Lib.hid hB7
               have HC7 := Lib.hid (HPK.out w7 hB7)
               clear hB7 hK7)
            | (go_at_call 30
               refine (HFM.out _ ?_).mono ?_
               (first | (with_reducible exact Below.refl _ _) | (with_reducible exact below_drewD (Below.refl _ _)))
               rintro e w7 ⟨rfl, hB7, hK7⟩
               have HB7 := Lib.hid hB7
               have HC7 := Lib.hid (HPK.out w7 hB7)
               clear hB7 hK7))
        all_goals (go_wp2_with fail; go_meet)
        all_goals first
          | (with_reducible exact ⟨_, rfl, FmD.of (FmD.two (Nat.le_refl _) HB7.out HX7.out) rfl rfl⟩)
          | (with_reducible exact ⟨_, rfl, FmD.of (FmD.one HB7.out) rfl rfl⟩)
          | (with_reducible exact ⟨_, rfl, FmD.of ((FmD.two (Nat.le_refl _) HB7.out HX7.out).drewN 1) rfl rfl⟩)
          | (with_reducible exact ⟨_, rfl, FmD.of ((FmD.one HB7.out).drewN 1) rfl rfl⟩)
          | exact ⟨_, rfl, FmD.of (FmD.two (Nat.le_refl _) HB7.out HX7.out) rfl rfl⟩
          | exact ⟨_, rfl, FmD.of (FmD.one HB7.out) rfl rfl⟩
      · have hx7 := index_deed5
        have p0 : w3.cell? ⟨w.heap.size, 0, none⟩ = some (.int .i64 5) := p0
        have HPK : Hid (∀ W, Below w3.heap.size w3 W → W.cell? ⟨w.heap.size, 0, none⟩ = some (.int .i64 5)) := Lib.hid (fun W hb => HPK.out W hb)
        go_region_held3 (fun w' => w'.cell? ⟨w.heap.size, 0, none⟩ = some (.int .i64 5))
          (first | (with_reducible go_keep) | (with_reducible exact p0) | (with_reducible exact HC7.out) | (with_reducible exact HPK.out _ (HB7.out.alloc HB7.out.size _)) | (with_reducible exact HPK.out _ ((HB7.out.setCell (Nat.le_refl _) _).setCell (Nat.le_refl _) _)) | go_keep)
          (first
            | (go_at_call 30
               refine (HFM.out _ ?_).mono ?_
               (first | (with_reducible exact (Below.refl _ _).alloc (Nat.le_refl _) _) | (with_reducible exact below_drewD ((Below.refl _ _).alloc (Nat.le_refl _) _)) | (with_reducible exact (below_drewD (Below.refl _ _)).alloc (Nat.le_refl _) _))
               rintro e w7 ⟨rfl, hB7, hK7⟩
               have HX7 : Hid (w7.heap[w3.heap.size]? = some (.cells #[.string ⟨#[]⟩, .int .i64 0] 66 (0, 0))) := Lib.hid ((hK7 _ (by simp)).trans (heap_alloc_new w3 _))
               obtain ⟨⟨x0, x1⟩, e0, e1⟩ := duo_cells HX7.out
               have HB7 := Lib.hid hB7
               have HC7 := Lib.hid (HPK.out w7 hB7)
               clear hB7 hK7)
            | (go_at_call 30
               refine (HFM.out _ ?_).mono ?_
               (first | (with_reducible exact Below.refl _ _) | (with_reducible exact below_drewD (Below.refl _ _)))
               rintro e w7 ⟨rfl, hB7, hK7⟩
               have HB7 := Lib.hid hB7
               have HC7 := Lib.hid (HPK.out w7 hB7)
               clear hB7 hK7))
        all_goals (go_wp2_with fail; go_meet)
        all_goals first
          | (with_reducible exact ⟨_, rfl, FmD.of (FmD.two (Nat.le_refl _) HB7.out HX7.out) rfl rfl⟩)
          | (with_reducible exact ⟨_, rfl, FmD.of (FmD.one HB7.out) rfl rfl⟩)
          | (with_reducible exact ⟨_, rfl, FmD.of ((FmD.two (Nat.le_refl _) HB7.out HX7.out).drewN 1) rfl rfl⟩)
          | (with_reducible exact ⟨_, rfl, FmD.of ((FmD.one HB7.out).drewN 1) rfl rfl⟩)
          | exact ⟨_, rfl, FmD.of (FmD.two (Nat.le_refl _) HB7.out HX7.out) rfl rfl⟩
          | exact ⟨_, rfl, FmD.of (FmD.one HB7.out) rfl rfl⟩
      · have hx7 := index_deed6
        have p0 : w3.cell? ⟨w.heap.size, 0, none⟩ = some (.int .i64 6) := p0
        have HPK : Hid (∀ W, Below w3.heap.size w3 W → W.cell? ⟨w.heap.size, 0, none⟩ = some (.int .i64 6)) := Lib.hid (fun W hb => HPK.out W hb)
        go_region_held3 (fun w' => w'.cell? ⟨w.heap.size, 0, none⟩ = some (.int .i64 6))
          (first | (with_reducible go_keep) | (with_reducible exact p0) | (with_reducible exact HC7.out) | (with_reducible exact HPK.out _ (HB7.out.alloc HB7.out.size _)) | (with_reducible exact HPK.out _ ((HB7.out.setCell (Nat.le_refl _) _).setCell (Nat.le_refl _) _)) | go_keep)
          (first
            | (go_at_call 30
               refine (HFM.out _ ?_).mono ?_
               (first | (with_reducible exact (Below.refl _ _).alloc (Nat.le_refl _) _) | (with_reducible exact below_drewD ((Below.refl _ _).alloc (Nat.le_refl _) _)) | (with_reducible exact (below_drewD (Below.refl _ _)).alloc (Nat.le_refl _) _))
               rintro e w7 ⟨rfl, hB7, hK7⟩
               have HX7 : Hid (w7.heap[w3.heap.size]? = some (.cells #[.string ⟨#[]⟩, .int .i64 0] 66 (0, 0))) := Lib.hid ((hK7 _ (by simp)).trans (heap_alloc_new w3 _))
               obtain ⟨⟨x0, x1⟩, e0, e1⟩ := duo_cells HX7.out
               have HB7 := Lib.hid hB7
               have HC7 := Lib.hid (HPK.out w7 hB7)
               clear hB7 hK7)
            | (go_at_call 30
               refine (HFM.out _ ?_).mono ?_
               (first | (with_reducible exact Below.refl _ _) | (with_reducible exact below_drewD (Below.refl _ _)))
               rintro e w7 ⟨rfl, hB7, hK7⟩
               have HB7 := Lib.hid hB7
               have HC7 := Lib.hid (HPK.out w7 hB7)
               clear hB7 hK7))
        all_goals (go_wp2_with fail; go_meet)
        all_goals first
          | (with_reducible exact ⟨_, rfl, FmD.of (FmD.two (Nat.le_refl _) HB7.out HX7.out) rfl rfl⟩)
          | (with_reducible exact ⟨_, rfl, FmD.of (FmD.one HB7.out) rfl rfl⟩)
          | (with_reducible exact ⟨_, rfl, FmD.of ((FmD.two (Nat.le_refl _) HB7.out HX7.out).drewN 1) rfl rfl⟩)
          | (with_reducible exact ⟨_, rfl, FmD.of ((FmD.one HB7.out).drewN 1) rfl rfl⟩)
          | exact ⟨_, rfl, FmD.of (FmD.two (Nat.le_refl _) HB7.out HX7.out) rfl rfl⟩
          | exact ⟨_, rfl, FmD.of (FmD.one HB7.out) rfl rfl⟩
      · have hx7 := index_deed7
        have p0 : w3.cell? ⟨w.heap.size, 0, none⟩ = some (.int .i64 7) := p0
        have HPK : Hid (∀ W, Below w3.heap.size w3 W → W.cell? ⟨w.heap.size, 0, none⟩ = some (.int .i64 7)) := Lib.hid (fun W hb => HPK.out W hb)
        go_region_held3 (fun w' => w'.cell? ⟨w.heap.size, 0, none⟩ = some (.int .i64 7))
          (first | (with_reducible go_keep) | (with_reducible exact p0) | (with_reducible exact HC7.out) | (with_reducible exact HPK.out _ (HB7.out.alloc HB7.out.size _)) | (with_reducible exact HPK.out _ ((HB7.out.setCell (Nat.le_refl _) _).setCell (Nat.le_refl _) _)) | go_keep)
          (first
            | (go_at_call 30
               refine (HFM.out _ ?_).mono ?_
               (first | (with_reducible exact (Below.refl _ _).alloc (Nat.le_refl _) _) | (with_reducible exact below_drewD ((Below.refl _ _).alloc (Nat.le_refl _) _)) | (with_reducible exact (below_drewD (Below.refl _ _)).alloc (Nat.le_refl _) _))
               rintro e w7 ⟨rfl, hB7, hK7⟩
               have HX7 : Hid (w7.heap[w3.heap.size]? = some (.cells #[.string ⟨#[]⟩, .int .i64 0] 66 (0, 0))) := Lib.hid ((hK7 _ (by simp)).trans (heap_alloc_new w3 _))
               obtain ⟨⟨x0, x1⟩, e0, e1⟩ := duo_cells HX7.out
               have HB7 := Lib.hid hB7
               have HC7 := Lib.hid (HPK.out w7 hB7)
               clear hB7 hK7)
            | (go_at_call 30
               refine (HFM.out _ ?_).mono ?_
               (first | (with_reducible exact Below.refl _ _) | (with_reducible exact below_drewD (Below.refl _ _)))
               rintro e w7 ⟨rfl, hB7, hK7⟩
               have HB7 := Lib.hid hB7
               have HC7 := Lib.hid (HPK.out w7 hB7)
               clear hB7 hK7))
        all_goals (go_wp2_with fail; go_meet)
        all_goals first
          | (with_reducible exact ⟨_, rfl, FmD.of (FmD.two (Nat.le_refl _) HB7.out HX7.out) rfl rfl⟩)
          | (with_reducible exact ⟨_, rfl, FmD.of (FmD.one HB7.out) rfl rfl⟩)
          | (with_reducible exact ⟨_, rfl, FmD.of ((FmD.two (Nat.le_refl _) HB7.out HX7.out).drewN 1) rfl rfl⟩)
          | (with_reducible exact ⟨_, rfl, FmD.of ((FmD.one HB7.out).drewN 1) rfl rfl⟩)
          | exact ⟨_, rfl, FmD.of (FmD.two (Nat.le_refl _) HB7.out HX7.out) rfl rfl⟩
          | exact ⟨_, rfl, FmD.of (FmD.one HB7.out) rfl rfl⟩
      · have hx7 := index_deed8
        have p0 : w3.cell? ⟨w.heap.size, 0, none⟩ = some (.int .i64 8) := p0
        have HPK : Hid (∀ W, Below w3.heap.size w3 W → W.cell? ⟨w.heap.size, 0, none⟩ = some (.int .i64 8)) := Lib.hid (fun W hb => HPK.out W hb)
        go_region_held3 (fun w' => w'.cell? ⟨w.heap.size, 0, none⟩ = some (.int .i64 8))
          (first | (with_reducible go_keep) | (with_reducible exact p0) | (with_reducible exact HC7.out) | (with_reducible exact HPK.out _ (HB7.out.alloc HB7.out.size _)) | (with_reducible exact HPK.out _ ((HB7.out.setCell (Nat.le_refl _) _).setCell (Nat.le_refl _) _)) | go_keep)
          (first
            | (go_at_call 30
               refine (HFM.out _ ?_).mono ?_
               (first | (with_reducible exact (Below.refl _ _).alloc (Nat.le_refl _) _) | (with_reducible exact below_drewD ((Below.refl _ _).alloc (Nat.le_refl _) _)) | (with_reducible exact (below_drewD (Below.refl _ _)).alloc (Nat.le_refl _) _))
               rintro e w7 ⟨rfl, hB7, hK7⟩
               have HX7 : Hid (w7.heap[w3.heap.size]? = some (.cells #[.string ⟨#[]⟩, .int .i64 0] 66 (0, 0))) := Lib.hid ((hK7 _ (by simp)).trans (heap_alloc_new w3 _))
               obtain ⟨⟨x0, x1⟩, e0, e1⟩ := duo_cells HX7.out
               have HB7 := Lib.hid hB7
               have HC7 := Lib.hid (HPK.out w7 hB7)
               clear hB7 hK7)
            | (go_at_call 30
               refine (HFM.out _ ?_).mono ?_
               (first | (with_reducible exact Below.refl _ _) | (with_reducible exact below_drewD (Below.refl _ _)))
               rintro e w7 ⟨rfl, hB7, hK7⟩
               have HB7 := Lib.hid hB7
               have HC7 := Lib.hid (HPK.out w7 hB7)
               clear hB7 hK7))
        all_goals (go_wp2_with fail; go_meet)
        all_goals first
          | (with_reducible exact ⟨_, rfl, FmD.of (FmD.two (Nat.le_refl _) HB7.out HX7.out) rfl rfl⟩)
          | (with_reducible exact ⟨_, rfl, FmD.of (FmD.one HB7.out) rfl rfl⟩)
          | (with_reducible exact ⟨_, rfl, FmD.of ((FmD.two (Nat.le_refl _) HB7.out HX7.out).drewN 1) rfl rfl⟩)
          | (with_reducible exact ⟨_, rfl, FmD.of ((FmD.one HB7.out).drewN 1) rfl rfl⟩)
          | exact ⟨_, rfl, FmD.of (FmD.two (Nat.le_refl _) HB7.out HX7.out) rfl rfl⟩
          | exact ⟨_, rfl, FmD.of (FmD.one HB7.out) rfl rfl⟩
      · have hx7 := index_deed9
        have p0 : w3.cell? ⟨w.heap.size, 0, none⟩ = some (.int .i64 9) := p0
        have HPK : Hid (∀ W, Below w3.heap.size w3 W → W.cell? ⟨w.heap.size, 0, none⟩ = some (.int .i64 9)) := Lib.hid (fun W hb => HPK.out W hb)
        go_region_held3 (fun w' => w'.cell? ⟨w.heap.size, 0, none⟩ = some (.int .i64 9))
          (first | (with_reducible go_keep) | (with_reducible exact p0) | (with_reducible exact HC7.out) | (with_reducible exact HPK.out _ (HB7.out.alloc HB7.out.size _)) | (with_reducible exact HPK.out _ ((HB7.out.setCell (Nat.le_refl _) _).setCell (Nat.le_refl _) _)) | go_keep)
          (first
            | (go_at_call 30
               refine (HFM.out _ ?_).mono ?_
               (first | (with_reducible exact (Below.refl _ _).alloc (Nat.le_refl _) _) | (with_reducible exact below_drewD ((Below.refl _ _).alloc (Nat.le_refl _) _)) | (with_reducible exact (below_drewD (Below.refl _ _)).alloc (Nat.le_refl _) _))
               rintro e w7 ⟨rfl, hB7, hK7⟩
               have HX7 : Hid (w7.heap[w3.heap.size]? = some (.cells #[.string ⟨#[]⟩, .int .i64 0] 66 (0, 0))) := Lib.hid ((hK7 _ (by simp)).trans (heap_alloc_new w3 _))
               obtain ⟨⟨x0, x1⟩, e0, e1⟩ := duo_cells HX7.out
               have HB7 := Lib.hid hB7
               have HC7 := Lib.hid (HPK.out w7 hB7)
               clear hB7 hK7)
            | (go_at_call 30
               refine (HFM.out _ ?_).mono ?_
               (first | (with_reducible exact Below.refl _ _) | (with_reducible exact below_drewD (Below.refl _ _)))
               rintro e w7 ⟨rfl, hB7, hK7⟩
               have HB7 := Lib.hid hB7
               have HC7 := Lib.hid (HPK.out w7 hB7)
               clear hB7 hK7))
        all_goals (go_wp2_with fail; go_meet)
        all_goals first
          | (with_reducible exact ⟨_, rfl, FmD.of (FmD.two (Nat.le_refl _) HB7.out HX7.out) rfl rfl⟩)
          | (with_reducible exact ⟨_, rfl, FmD.of (FmD.one HB7.out) rfl rfl⟩)
          | (with_reducible exact ⟨_, rfl, FmD.of ((FmD.two (Nat.le_refl _) HB7.out HX7.out).drewN 1) rfl rfl⟩)
          | (with_reducible exact ⟨_, rfl, FmD.of ((FmD.one HB7.out).drewN 1) rfl rfl⟩)
          | exact ⟨_, rfl, FmD.of (FmD.two (Nat.le_refl _) HB7.out HX7.out) rfl rfl⟩
          | exact ⟨_, rfl, FmD.of (FmD.one HB7.out) rfl rfl⟩
    case rest =>
      obtain ⟨F, rfl, hst⟩ := hcut
      obtain ⟨hF, hFl, hBc⟩ := hst
      have hPc := (hBc.block w.heap.size HS3.out).trans HP3.out
      clear p0 p1 p2 p3
      obtain ⟨⟨p0, p1, p2, p3⟩, _⟩ := dblk_cells hPc
      have HFC := Lib.hid (fun W (hb : Below wc.heap.size wc W) => (duo_cells ((hb.block F (Array.getElem?_eq_some_iff.1 hF).1).trans hF)).1.2)
      obtain ⟨⟨f0, f1⟩, _⟩ := duo_cells hF
      have HBC := Lib.hid (HB3.out.trans (hBc.mono HB3.out.size))
      have HTC := Lib.hid (fun W (hb : Below wc.heap.size wc W) => (HTB.out.kept HBC.out).kept hb)
      have HDA := Lib.hid (fun W (hb : Below wc.heap.size wc W) => decI_any aa W (by omega) (HTC.out W hb))
      have HDB := Lib.hid (fun W (hb : Below wc.heap.size wc W) => decI_any bb W (by omega) (HTC.out W hb))
      have HDC := Lib.hid (fun W (hb : Below wc.heap.size wc W) => decI_any cc W (by omega) (HTC.out W hb))
      have hN1 := HN.out.1
      have hN2 := HN.out.2
      have HE : Hid (T = if 2 < ddN (kk : Int) then (if 1 < ddN (kk : Int) then (ddW kk ++ (⟨#[32]⟩ ++ decT aa)) ++ (⟨#[32]⟩ ++ decT bb) else ddW kk ++ (⟨#[32]⟩ ++ decT aa)) ++ (⟨#[32]⟩ ++ decT cc) else (if 1 < ddN (kk : Int) then (ddW kk ++ (⟨#[32]⟩ ++ decT aa)) ++ (⟨#[32]⟩ ++ decT bb) else ddW kk ++ (⟨#[32]⟩ ++ decT aa))) := Lib.hid HT.out
      clear hBc hPc HT HN HP0 HB0 HV HTB hF
      generalize ddN (kk : Int) = N at *
      generalize ddW kk = W0 at *
      generalize decT aa = TA at *
      generalize decT bb = TB at *
      generalize decT cc = TC at *
      have h1s : (⟨#[32]⟩ : ByteArray).size = 1 := rfl
      have c1 : (9223372036854775807 < 1 + TA.size) = False := by simp; omega
      have c2 : (9223372036854775807 < 1 + TB.size) = False := by simp; omega
      have c3 : (9223372036854775807 < 1 + TC.size) = False := by simp; omega
      have c4 : (9223372036854775807 < W0.size + ((⟨#[32]⟩ : ByteArray) ++ TA).size) = False := by rw [app_size]; simp [h1s]; omega
      have c5 : (9223372036854775807 < (W0 ++ ((⟨#[32]⟩ : ByteArray) ++ TA)).size + ((⟨#[32]⟩ : ByteArray) ++ TB).size) = False := by simp only [app_size]; simp [h1s]; omega
      have c6 : (9223372036854775807 < (W0 ++ ((⟨#[32]⟩ : ByteArray) ++ TA)).size + ((⟨#[32]⟩ : ByteArray) ++ TC).size) = False := by simp only [app_size]; simp [h1s]; omega
      have c7 : (9223372036854775807 < ((W0 ++ ((⟨#[32]⟩ : ByteArray) ++ TA)) ++ ((⟨#[32]⟩ : ByteArray) ++ TB)).size + ((⟨#[32]⟩ : ByteArray) ++ TC).size) = False := by simp only [app_size]; simp [h1s]; omega
      have d4 : (9223372036854775807 < W0.size + (1 + TA.size)) = False := by simp; omega
      have d5 : (9223372036854775807 < W0.size + (1 + TA.size) + (1 + TB.size)) = False := by simp; omega
      have d7 : (9223372036854775807 < W0.size + (1 + TA.size) + (1 + TB.size) + (1 + TC.size)) = False := by simp; omega
      have i0 : ∀ w, (Instr.index 69 (.agg #[.int .i64 (aa : Int), .int .i64 (bb : Int), .int .i64 (cc : Int)]) (.int .i64 0)).run Tryd.prog w = .ok (.int .i64 (aa : Int)) w := fun _ => by kernel_rfl
      have i1 : ∀ w, (Instr.index 69 (.agg #[.int .i64 (aa : Int), .int .i64 (bb : Int), .int .i64 (cc : Int)]) (.int .i64 1)).run Tryd.prog w = .ok (.int .i64 (bb : Int)) w := fun _ => by kernel_rfl
      have i2 : ∀ w, (Instr.index 69 (.agg #[.int .i64 (aa : Int), .int .i64 (bb : Int), .int .i64 (cc : Int)]) (.int .i64 2)).run Tryd.prog w = .ok (.int .i64 (cc : Int)) w := fun _ => by kernel_rfl
      have g0 : decide (0 < N) = true := decide_eq_true (by omega)
      clear h1s
      by_cases h1 : 1 < N
      · have h1' : decide (1 < N) = true := decide_eq_true h1
        by_cases h2 : 2 < N
        · have h2' : decide (2 < N) = true := decide_eq_true h2
          have HR : Hid (T = ((W0 ++ (⟨#[32]⟩ ++ TA)) ++ (⟨#[32]⟩ ++ TB)) ++ (⟨#[32]⟩ ++ TC)) := Lib.hid (by rw [HE.out, if_pos h2, if_pos h1])
          clear h1 h2 hN1 hN2
          go_wp2_with fail
          refine wp_loop_rounds 4 ?_
          rw [rounds_succ]
          go_wp2_with fail
          refine (HDA.out _ (Below.refl _ _)).mono ?_
          rintro e w4 ⟨rfl, hB4⟩
          have f4 := HFC.out w4 hB4
          have HB4 := Lib.hid hB4
          clear hB4
          go_wp2_with fail
          rw [rounds_succ]
          go_wp2_with fail
          refine (HDB.out _ HB4.out).mono ?_
          rintro e w5 ⟨rfl, hB5⟩
          have HB5 := Lib.hid (HB4.out.trans (hB5.mono HB4.out.size))
          have f5 := HFC.out w5 HB5.out
          clear hB5
          go_wp2_with fail
          rw [rounds_succ]
          go_wp2_with fail
          refine (HDC.out _ HB5.out).mono ?_
          rintro e w6 ⟨rfl, hB6⟩
          have HB6 := Lib.hid (HB5.out.trans (hB6.mono HB5.out.size))
          have f6 := HFC.out w6 HB6.out
          clear hB6
          go_wp2_with fail
          rw [rounds_succ]
          go_wp2_with fail
          go_ret
          exact ⟨by rw [HR.out]; rfl, HBC.out.trans (HB6.out.mono HBC.out.size)⟩
        · have h2' : decide (2 < N) = false := decide_eq_false h2
          have HR : Hid (T = (W0 ++ (⟨#[32]⟩ ++ TA)) ++ (⟨#[32]⟩ ++ TB)) := Lib.hid (by rw [HE.out, if_neg h2, if_pos h1])
          clear h1 h2 hN1 hN2
          go_wp2_with fail
          refine wp_loop_rounds 4 ?_
          rw [rounds_succ]
          go_wp2_with fail
          refine (HDA.out _ (Below.refl _ _)).mono ?_
          rintro e w4 ⟨rfl, hB4⟩
          have f4 := HFC.out w4 hB4
          have HB4 := Lib.hid hB4
          clear hB4
          go_wp2_with fail
          rw [rounds_succ]
          go_wp2_with fail
          refine (HDB.out _ HB4.out).mono ?_
          rintro e w5 ⟨rfl, hB5⟩
          have HB5 := Lib.hid (HB4.out.trans (hB5.mono HB4.out.size))
          have f5 := HFC.out w5 HB5.out
          clear hB5
          go_wp2_with fail
          rw [rounds_succ]
          go_wp2_with fail
          rw [rounds_succ]
          go_wp2_with fail
          go_ret
          exact ⟨by rw [HR.out]; rfl, HBC.out.trans (HB5.out.mono HBC.out.size)⟩
      · have h1' : decide (1 < N) = false := decide_eq_false h1
        have h2' : decide (2 < N) = false := decide_eq_false (by omega)
        have HR : Hid (T = W0 ++ (⟨#[32]⟩ ++ TA)) := Lib.hid (by rw [HE.out, if_neg (by omega), if_neg h1])
        clear h1 hN1 hN2
        go_wp2_with fail
        refine wp_loop_rounds 4 ?_
        rw [rounds_succ]
        go_wp2_with fail
        refine (HDA.out _ (Below.refl _ _)).mono ?_
        rintro e w4 ⟨rfl, hB4⟩
        have f4 := HFC.out w4 hB4
        have HB4 := Lib.hid hB4
        clear hB4
        go_wp2_with fail
        rw [rounds_succ]
        go_wp2_with fail
        rw [rounds_succ]
        go_wp2_with fail
        rw [rounds_succ]
        go_wp2_with fail
        go_ret
        exact ⟨by rw [HR.out]; rfl, HBC.out.trans (HB4.out.mono HBC.out.size)⟩
end Go.Proofs.YtcaeihdfljljbaaDoor
