/-
  Walk: impl.UnpackPart.
-/
import Derived.Test.YtcaeihdfljljbaaDoorCovK
import Derived.Test.YtcaeihdfljljbaaDoorBld
import Derived.Test.YtcaeihdfljljbaaDoorGWLen
import Derived.Test.YtcaeihdfljljbaaDoorIsP
namespace Go.Proofs.YtcaeihdfljljbaaDoor
open Go.RowKit
open Wd
set_option linter.unusedVariables false
namespace Wd
theorem catW_take {gs : List Rl} {cov : List Int} {k q : Nat} (hk : k < cov.length) (hq : cov[k] = (q : Int)) : catW gs (cov.take (k + 1)) = catW gs (cov.take k) ++ wordAt gs q := by
  rw [List.take_succ_eq_append_getElem hk, catW_app, hq]
  simp [catW]
theorem catW_count (gs : List Rl) (hpos : ∀ k (hk : k < gs.length), 1 ≤ (wordAt gs k).length) : ∀ cov : List Int, (∀ q ∈ cov, 0 ≤ q ∧ q < (gs.length : Int)) → cov.length ≤ (catW gs cov).length
  | [], _ => by simp
  | q :: cov, h => by
    have h1 := catW_count gs hpos cov fun x hx => h x (List.mem_cons_of_mem _ hx)
    have h2 := h q List.mem_cons_self
    have h3 := hpos q.toNat (by omega)
    have h4 : catW gs (q :: cov) = wordAt gs q.toNat ++ catW gs cov := by simp [catW]
    rw [h4, List.length_append, List.length_cons]
    omega
theorem catW_le (gs : List Rl) (cov : List Int) (k : Nat) : (catW gs (cov.take k)).length ≤ (catW gs cov).length := by
  conv => rhs; rw [← List.take_append_drop k cov, catW_app, List.length_append]
  omega
end Wd
theorem _root_.Go.RowKit.Below.cell' {B : Nat} {w w' : World} {x o : Nat} (hb : Below B w w') (hx : x < B) : w'.cell? ⟨x, o, none⟩ = w.cell? ⟨x, o, none⟩ := World.cell?_of_block (a := ⟨x, o, none⟩) (hb.block x hx)
theorem own_oth {w w' : World} {B e s n : Nat} {t : TypeId} {b : Nat} {v : Value} {xs : List Value} (h : w.ownsRow B e s v n xs) (ho : Lib.OthersKept t (some b) w w') (hne : e ≠ t) (hb : v.ownBlock ≠ some b) : w'.ownsRow B e s v n xs := by
  refine ⟨h.1, ?_⟩
  rcases h.2 with hn | ⟨g, cap, cur, rfl, hbg, hg, rest⟩
  · exact .inl hn
  · refine .inr ⟨g, cap, cur, rfl, hbg, ho g _ hg (by simpa [Value.ownBlock] using hb) (fun c fz e => ?_), rest⟩
    injection e with _ ht
    exact hne ht

/-- why nothing is unpacked -/
def UnNo (gs : List Rl) (i j c : Int) : Prop := (gOk gs = false ∧ c = 1) ∨ (gOk gs = true ∧ inPart i j (wordLen gs) = false ∧ c = 2) ∨ (gOk gs = true ∧ inPart i j (wordLen gs) = true ∧ 2000 < j - i ∧ c = 3) ∨ (gOk gs = true ∧ inPart i j (wordLen gs) = true ∧ i = j ∧ c = 0)
set_option maxRecDepth 100000 in
set_option maxHeartbeats 3200000 in
theorem implUnpack_no (v : Value) (gs : List Rl) (i j c : Int) (w : World) (hf : FewR gs) (hr : Rules w v gs) (hno : UnNo gs i j c) :
    Calls Tryd.prog 78 #[.agg #[v], .int .i64 i, .int .i64 j] w fun e w' => e = .returned (.tuple #[.string ⟨#[]⟩, .int .i64 c]) ∧ Below w.heap.size w w' := by
  have hb := (Below.refl _ w).alloc (Nat.le_refl _) (.cells #[v] 44)
  have h1 := len.vlen_any v gs _ hf (hr.kept hb)
  have H1 := Lib.hid h1
  have HB := Lib.hid hb
  have hn := hf.len
  obtain ⟨A, cc, rfl, _⟩ := hr
  have HIP := Lib.hid (fun n W => isPart_any i j n W)
  unfold LensPost at H1
  clear h1 hb
  rcases hno with ⟨hok, rfl⟩ | ⟨hok, hp, rfl⟩ | ⟨hok, hp, hl, rfl⟩ | ⟨hok, hp, rfl, rfl⟩
  · rw [hok] at H1
    clear hok
    go_enter Tryd.func78, Tryd.ntmps78
    go_wp2_with fail
    refine H1.out.mono ?_
    rintro e w1 ⟨x, rfl, ho, hB1⟩
    have HB1 := Lib.hid hB1
    clear hB1 ho
    go_wp2_with fail
    go_ret2
    exact ⟨rfl, HB.out.trans (HB1.out.mono (by simp))⟩
  · rw [hok] at H1
    have HP := Lib.hid hp
    clear hok hp
    go_enter Tryd.func78, Tryd.ntmps78
    go_wp2_with fail
    refine H1.out.mono ?_
    rintro e w1 ⟨x, rfl, ho, hB1⟩
    have HB1 := Lib.hid hB1
    have HO := Lib.hid (ho trivial)
    clear hB1 ho
    go_wp2_with fail
    refine (wordLength_any x gs _ w1 hn HO.out).mono ?_
    rintro e w2 ⟨rfl, rfl⟩
    go_wp2_with fail
    refine (HIP.out _ _).mono ?_
    rw [HP.out]
    rintro e w2 ⟨rfl, rfl⟩
    go_wp2_with fail
    go_ret2
    exact ⟨rfl, HB.out.trans (HB1.out.mono (by simp))⟩
  · rw [hok] at H1
    have HP := Lib.hid hp
    have hwl := wordLen_bd' hok
    obtain ⟨p1, p2, p3⟩ := inPart_iff.1 hp
    clear hok hp
    go_enter Tryd.func78, Tryd.ntmps78
    go_wp2_with fail
    refine H1.out.mono ?_
    rintro e w1 ⟨x, rfl, ho, hB1⟩
    have HB1 := Lib.hid hB1
    have HO := Lib.hid (ho trivial)
    clear hB1 ho
    go_wp2_with fail
    refine (wordLength_any x gs _ w1 hn HO.out).mono ?_
    rintro e w2 ⟨rfl, rfl⟩
    go_wp2_with fail
    refine (HIP.out _ _).mono ?_
    rw [HP.out]
    rintro e w2 ⟨rfl, rfl⟩
    go_wp2_with fail
    go_ret2
    exact ⟨rfl, HB.out.trans (HB1.out.mono (by simp))⟩
  · rw [hok] at H1
    have HP := Lib.hid hp
    have hwl := wordLen_bd' hok
    obtain ⟨p1, p2, p3⟩ := inPart_iff.1 hp
    have hii : (i == i) = true := by simp
    clear hok hp
    go_enter Tryd.func78, Tryd.ntmps78
    go_wp2_with fail
    refine H1.out.mono ?_
    rintro e w1 ⟨x, rfl, ho, hB1⟩
    have HB1 := Lib.hid hB1
    have HO := Lib.hid (ho trivial)
    clear hB1 ho
    go_wp2_with fail
    refine (wordLength_any x gs _ w1 hn HO.out).mono ?_
    rintro e w2 ⟨rfl, rfl⟩
    go_wp2_with fail
    refine (HIP.out _ _).mono ?_
    rw [HP.out]
    rintro e w2 ⟨rfl, rfl⟩
    go_wp2_with fail
    go_ret2
    exact ⟨rfl, HB.out.trans (HB1.out.mono (by simp))⟩
end Go.Proofs.YtcaeihdfljljbaaDoor
