/-
  Lists of numbers as texts. Walks: spec.l04List, impl.textLine.
-/
import Derived.Test.YtcaeihdfljljbaaDoorDecI
import Derived.Test.YtcaeihdfljljbaaDoorToI
import Derived.Deep.QuietTactic
import Derived.BigQuiet
namespace Go.Proofs.YtcaeihdfljljbaaDoor
open Go.RowKit
open Wd
set_option linter.unusedVariables false
namespace Wd
theorem app_sz (u t : ByteArray) : (u ++ t).size = u.size + t.size := ByteArray.size_append
/-- numbers, each behind a blank -/
def listT : List Int → ByteArray
  | [] => ⟨#[]⟩
  | z :: zs => (⟨#[32]⟩ ++ decT z.toNat) ++ listT zs
theorem listT_app (a b : List Int) : listT (a ++ b) = listT a ++ listT b := by
  induction a with
  | nil => exact (ByteArray.empty_append).symm
  | cons z zs ih =>
    show (⟨#[32]⟩ ++ decT z.toNat) ++ listT (zs ++ b) = ((⟨#[32]⟩ ++ decT z.toNat) ++ listT zs) ++ listT b
    rw [ih]
    exact (ByteArray.append_assoc).symm
theorem listT_one (z : Int) : listT [z] = ⟨#[32]⟩ ++ decT z.toNat := ByteArray.append_empty
theorem listT_take (zs : List Int) (k : Nat) (h : k < zs.length) : listT (zs.take (k + 1)) = listT (zs.take k) ++ (⟨#[32]⟩ ++ decT (zs[k]).toNat) := by
  rw [List.take_succ_eq_append_getElem h, listT_app, listT_one]
/-- numbers that are not negative, and fit -/
def SmallZ (zs : List Int) : Prop := ∀ z ∈ zs, 0 ≤ z ∧ z ≤ 9223372036854775807
theorem listT_size : ∀ (zs : List Int), SmallZ zs → (listT zs).size ≤ 20 * zs.length
  | [], _ => by decide
  | z :: zs, h => by
    have h1 := h z (by simp)
    have h2 := decT_size (n := z.toNat) (by omega)
    have h3 := listT_size zs (fun y hy => h y (by simp [hy]))
    show ((⟨#[32]⟩ ++ decT z.toNat) ++ listT zs).size ≤ _
    rw [app_sz, app_sz]
    have h4 : (⟨#[32]⟩ : ByteArray).size = 1 := rfl
    simp only [List.length_cons]
    omega
theorem SmallZ.take {zs : List Int} (h : SmallZ zs) (k : Nat) : SmallZ (zs.take k) := fun z hz => h z (List.mem_of_mem_take hz)
/-- a line -/
def lineT (word : ByteArray) (zs : List Int) : ByteArray := (word ++ listT zs) ++ ⟨#[10]⟩
end Wd
theorem decN (n : Nat) (W : World) (h : n ≤ 9223372036854775807) :
    Calls Tryd.prog 27 #[.int .i64 (n : Int)] W fun e w' => e = .returned (.string (decT n)) ∧ Below W.heap.size W w' := dec_any (n + 1) n W (by omega) h
theorem empty_app (t : ByteArray) : (⟨#[]⟩ : ByteArray) ++ t = t := ByteArray.empty_append
set_option maxRecDepth 100000 in
set_option maxHeartbeats 3200000 in
theorem l04List_any (v : Value) (zs : List Int) (w : World) (hn : zs.length ≤ 1048576) (hz : SmallZ zs) (h : IsL w v zs) :
    Calls Tryd.prog 87 #[v] w fun e w' => e = .returned (.string (listT zs)) ∧ Below w.heap.size w w' := by
  obtain ⟨A, c, rfl, hin⟩ := h
  have HI := Lib.hid hin
  have HZ := Lib.hid hz
  obtain ⟨n, hne⟩ : ∃ n, n = zs.length := ⟨_, rfl⟩
  rw [← hne] at hn ⊢
  have HN := Lib.hid hne
  clear hin hz hne
  go_enter Tryd.func87, Tryd.ntmps87
  go_wp2_with fail
  go_loopw [3, 4] (fun s i wr => ∃ k : Nat, k ≤ n ∧ i = .int .i64 k ∧ s = .string (listT (zs.take k)) ∧ Below w.heap.size w wr) (fun _ i _ => n - (intOf i).toNat)
  case atStart => exact ⟨0, Nat.zero_le _, rfl, rfl, Below.refl _ _⟩
  case round =>
    obtain ⟨k, hk, rfl, rfl, hB⟩ := hrel
    obtain ⟨wo, rfl⟩ : ∃ wo : World, wo = wr := ⟨_, rfl⟩
    by_cases hlt : k < n
    · have hkg : k < zs.length := by rw [← HN.out]; exact hlt
      rcases HI.out with hn0 | ⟨x, rfl, hc⟩
      · rw [hn0] at hkg; simp at hkg
      have c0 := hc k hkg
      have d0 := (hB.cell (lt_of_cell c0)).trans c0
      have hzk := HZ.out _ (List.getElem_mem hkg)
      have hsn := listT_take zs k hkg
      have hsz := listT_size (zs.take k) (HZ.out.take k)
      have hl : (zs.take k).length = k := by rw [List.length_take]; omega
      rw [hl] at hsz
      generalize listT (zs.take k) = U at *
      generalize zs[k] = z at *
      obtain ⟨m, rfl⟩ : ∃ m : Nat, z = m := ⟨z.toNat, by omega⟩
      rw [Int.toNat_natCast] at hsn
      have hm : m ≤ 9223372036854775807 := by omega
      have hds := decT_size hm
      have HD := Lib.hid (fun W => decN m W hm)
      have HSN := Lib.hid hsn
      generalize decT m = T at *
      have h1s : (⟨#[32]⟩ : ByteArray).size = 1 := rfl
      have c1 : (9223372036854775807 < 1 + T.size) = False := by simp; omega
      have c2 : (9223372036854775807 < U.size + (1 + T.size)) = False := by simp; omega
      have c3 : (9223372036854775807 < U.size + ((⟨#[32]⟩ : ByteArray) ++ T).size) = False := by rw [app_sz]; simp [h1s]; omega
      have HB := Lib.hid hB
      clear hsn hl hc c0 hB h1s hzk
      go_wp2_with fail
      refine (HD.out _).mono ?_
      rintro e w2 ⟨rfl, hB2⟩
      have HB2 := Lib.hid (HB.out.trans (hB2.mono HB.out.size))
      clear hB2
      go_wp2_with fail
      go_roundw
      all_goals first | exact ⟨k + 1, by omega, by go_num, by rw [HSN.out], HB2.out⟩ | ((repeat apply Exists.intro); exact ⟨⟨k + 1, by omega, by go_num, by rw [HSN.out], HB2.out⟩, rfl⟩) | (simp [intOf]; done) | (simp [intOf]; omega) | omega
    · obtain rfl : k = n := by omega
      have HE : Hid (listT (zs.take k) = listT zs) := Lib.hid (by rw [List.take_of_length_le (by have := HN.out; omega)])
      have HB := Lib.hid hB
      clear hB
      go_wp2_with fail
      go_ret
      exact ⟨by rw [← HE.out]; rfl, HB.out⟩
set_option maxRecDepth 100000 in
set_option maxHeartbeats 3200000 in
theorem textLine_any (word : ByteArray) (v : Value) (zs : List Int) (w : World) (hw : word.size ≤ 100) (hn : zs.length ≤ 1048576) (hz : SmallZ zs) (h : IsL w v zs) (ht : Pow10 w) :
    Calls Tryd.prog 61 #[.string word, v] w fun e w' => e = .returned (.string (lineT word zs)) ∧ Below w.heap.size w w' := by
  obtain ⟨A, c, rfl, hin⟩ := h
  have HI := Lib.hid hin
  have HZ := Lib.hid hz
  have HTB := Lib.hid (fun W (hb : Below w.heap.size w W) => ht.kept hb)
  obtain ⟨n, hne⟩ : ∃ n, n = zs.length := ⟨_, rfl⟩
  rw [← hne] at hn ⊢
  have HN := Lib.hid hne
  have hst : word ++ listT [] = word := ByteArray.append_empty
  have HST := Lib.hid hst
  clear hin hz hne ht hst
  go_enter Tryd.func61, Tryd.ntmps61
  go_wp2_with fail
  go_loopw [0, 9] (fun s i wr => ∃ k : Nat, k ≤ n ∧ i = .int .i64 k ∧ s = .string (word ++ listT (zs.take k)) ∧ Below w.heap.size w wr) (fun _ i _ => n - (intOf i).toNat)
  case atStart => exact ⟨0, Nat.zero_le _, rfl, by rw [List.take_zero, HST.out], Below.refl _ _⟩
  case round =>
    obtain ⟨k, hk, rfl, rfl, hB⟩ := hrel
    obtain ⟨wo, rfl⟩ : ∃ wo : World, wo = wr := ⟨_, rfl⟩
    have hsz := listT_size (zs.take k) (HZ.out.take k)
    have hl : (zs.take k).length ≤ k := List.length_take_le _ _
    have husz : (word ++ listT (zs.take k)).size ≤ 20971620 := by rw [app_sz]; omega
    by_cases hlt : k < n
    · have hkg : k < zs.length := by rw [← HN.out]; exact hlt
      rcases HI.out with hn0 | ⟨x, rfl, hc⟩
      · rw [hn0] at hkg; simp at hkg
      have c0 := hc k hkg
      have d0 := (hB.cell (lt_of_cell c0)).trans c0
      have hzk := HZ.out _ (List.getElem_mem hkg)
      have hsn : word ++ listT (zs.take (k + 1)) = (word ++ listT (zs.take k)) ++ (⟨#[32]⟩ ++ decT (zs[k]).toNat) := by rw [listT_take zs k hkg, ByteArray.append_assoc]
      generalize word ++ listT (zs.take k) = U at *
      generalize zs[k] = z at *
      obtain ⟨m, rfl⟩ : ∃ m : Nat, z = m := ⟨z.toNat, by omega⟩
      rw [Int.toNat_natCast] at hsn
      have hm : m ≤ 9223372036854775807 := by omega
      have hds := decT_size hm
      have HD := Lib.hid (formatN m wo hm (HTB.out wo hB))
      have HSN := Lib.hid hsn
      generalize decT m = T at *
      have h1s : (⟨#[32]⟩ : ByteArray).size = 1 := rfl
      have c1 : (9223372036854775807 < 1 + T.size) = False := by simp; omega
      have c2 : (9223372036854775807 < U.size + (1 + T.size)) = False := by simp; omega
      have c3 : (9223372036854775807 < U.size + ((⟨#[32]⟩ : ByteArray) ++ T).size) = False := by rw [app_sz]; simp [h1s]; omega
      have HB := Lib.hid hB
      clear hsn hl hc c0 hB h1s hzk hsz
      go_wp2_with fail
      refine HD.out.mono ?_
      rintro e w2 ⟨rfl, hB2⟩
      have HB2 := Lib.hid (HB.out.trans (hB2.mono HB.out.size))
      clear hB2
      go_wp2_with fail
      go_roundw
      all_goals first | exact ⟨k + 1, by omega, by go_num, by rw [HSN.out], HB2.out⟩ | ((repeat apply Exists.intro); exact ⟨⟨k + 1, by omega, by go_num, by rw [HSN.out], HB2.out⟩, rfl⟩) | (simp [intOf]; done) | (simp [intOf]; omega) | omega
    · obtain rfl : k = n := by omega
      have HE : Hid ((word ++ listT (zs.take k)) ++ ⟨#[10]⟩ = lineT word zs) := Lib.hid (by rw [List.take_of_length_le (by have := HN.out; omega)]; rfl)
      have HB := Lib.hid hB
      clear hB hsz hl
      generalize word ++ listT (zs.take k) = U at *
      have c1 : (9223372036854775807 < U.size + 1) = False := by simp; omega
      go_wp2_with fail
      go_ret
      exact ⟨by rw [← HE.out]; rfl, HB.out⟩
end Go.Proofs.YtcaeihdfljljbaaDoor
