/-
  Walk: impl.RootOf alone.
-/
import Derived.Test.YtiibadmijhbioaaRootM
namespace Go.Proofs.Ytiibadmijhbioaa
open Go.RowKit Go.Maps
open Wd
set_option linter.unusedVariables false

theorem wpList_next_ranges_ib {H : Type} {P : Program} (w : World) {ops : Array Oper} {rest : List Oper} {o : Oper} {a : Act} {Q : Exit → Act → World → Prop}
    (hg : o.guard = none) (it : Operand) (hop : o.op = Op.next it false) (k : TypeId) (qk : IntKind) (K : Keyed P k) (hk : P.underlying k = some (.int qk)) (R : Value → Option (DataW H × List MemPlace))
    (b r n : Nat) (D : DataW H) (left : Lit → Bool) (cnt : Nat) (hit : a.eval it = .pointer (some ⟨r, 0, none⟩)) (h : w.ranges P k R b r n D left cnt)
    (hDone : cnt = 0 → (∀ kl, left kl = false) → wpList P ops Q rest (a.put o.dst (.tuple #[.bool false])) w)
    (hMore : ∀ (x : Int) (c : Value) (w' : World) (cnt' : Nat), (Lit.int qk x).wf = true → left (.int qk x) = true → w'.ranges P k R b r n D (fun z => left z && !z.sameKey (.int qk x)) cnt' → cnt' < cnt →
      w.grownBy w' (some r) → w'.heap.size = w.heap.size → (Instr.entry (.pointer (some ⟨r, 0, none⟩))).run P w' = .ok (.tuple #[.int qk x, c]) w' → wpList P ops Q rest (a.put o.dst (.tuple #[.bool true, .int qk x, c])) w') :
    wpList P ops Q (o :: rest) a w :=
  wpList_next_ranges w hg it hop k K R (Value.int qk) (fun v => v) (fun key kl hkey => by obtain ⟨x, rfl, _⟩ := Maps.keyOf_int_inv hk hkey; exact ⟨x, rfl⟩) (fun v y hv => ⟨v, rfl⟩)
    b r n D left cnt hit h hDone (fun x c kl y w' cnt' hkey hlk hv hat hrg hlt hgr hsz hen => by
      obtain ⟨x', ex, rfl, hwx⟩ := Maps.keyOf_int_inv hk hkey
      cases ex
      exact hMore x c w' cnt' hwx hlk hrg hlt hgr hsz hen)

theorem sameKey_int (p q : Int) : (Lit.int .i64 p).sameKey (.int .i64 q) = decide (p = q) := by
  simp [Lit.sameKey]
theorem wrap_div {n p : Nat} (hn : n ≤ 2000) (hp : 0 < p) : wrap64 ((n : Int) / (p : Int)) = (n : Int) / (p : Int) := by
  have h1 : n / p ≤ n := Nat.div_le_self _ _
  have h2 : ((n / p : Nat) : Int) = (n : Int) / (p : Int) := by simp
  have h3 := Int.natCast_nonneg (n / p)
  have h4 : ((n / p : Nat) : Int) ≤ (n : Int) := Int.ofNat_le.2 h1
  rw [h2] at h3 h4
  exact IntWalk.wrap64_in _ ⟨by omega, by omega⟩
theorem ret_sii {a b : ByteArray} {k l : IntKind} {c d e : Int} (h : a = b) (h' : c = d) : Ending.returned (.tuple #[.string a, .int k c, .int l e]) = .returned (.tuple #[.string b, .int k d, .int l e]) := by rw [h, h']

set_option maxRecDepth 100000 in
set_option maxHeartbeats 3200000 in
theorem implRoot_ok (s : ByteArray) (p : Nat) (w : World) (hs : s.size ≤ 2000) (h : okL s.data.toList = true) (h0 : 0 < s.size) (hp : IsRt s p) :
    Calls Try.prog 25 #[.string s] w fun e w' => e = .returned (.tuple #[.string (s.extract 0 p), .int .i64 ((s.size : Int) / (p : Int)), .int .i64 0]) ∧ Below w.heap.size w w' := by
  have c1 := implOk s w (by unfold maxLen; omega)
  rw [h] at c1
  have C1 := Lib.hid c1
  have he : s.toList.isEmpty = false := by
    rw [ByteArray.toList_eq]
    cases hl : s.data.toList with
    | nil => have : s.data.size = 0 := by simpa using congrArg List.length hl
             exact absurd (show s.size = 0 from this) (by omega)
    | cons _ _ => rfl
  have HP := Lib.hid hp
  clear c1 h hp
  go_enter Try.func25, Try.ntmps25
  go_wp2_with fail
  refine C1.out.mono ?_; rintro e w' ⟨rfl, rfl⟩
  go_wp2_with fail
  refine (implPeriods s _ hs).mono ?_
  rintro e w1 ⟨b, n, D, rfl, hPM, hb1⟩
  have s1 := hb1.size
  have hkeys := hPM.has
  have HKEYS := Lib.hid hkeys
  have hmp := hPM.1
  clear hkeys hPM
  go_wp2_with (first | (at_range; refine wpList_range_own _ rfl _ 64 rfl 2 4 keyed64 Try.underlying64 _ b n _ rfl hmp ?_; intro w2 hrg2 hg2 hs2))
  have hB2 : Below w.heap.size w w2 := hb1.grown hg2 s1 (fun k hk => by cases hk)
  generalize hr : w1.heap.size = r at hrg2 s1 ⊢
  have hmin0 : ∀ y, Per s y → s.size % y = 0 → Maps.has D (.int .i64 (y : Int)) = false → s.size ≤ y := fun y h1 _ h3 => by
    rw [(HKEYS.out _).2 ⟨y, h1, rfl⟩] at h3; cases h3
  have HMIN0 := Lib.hid hmin0
  clear hb1 hg2 hs2 hmp hr hmin0
  go_frame
  go_loopw [6, 7] (fun x _ wr => ∃ (left : Lit → Bool) (cnt q : Nat), x = .int .i64 q ∧ wr.ranges Try.prog 2 (plainElem Try.prog 4) b r n D left cnt ∧ (q = s.size ∨ Per s q ∧ s.size % q = 0) ∧ 0 < q ∧ q ≤ s.size ∧
      (∀ y, Per s y → s.size % y = 0 → left (.int .i64 (y : Int)) = false → q ≤ y) ∧ Below w.heap.size w wr ∧ (∀ kl, left kl = true → Maps.has D kl = true)) (fun _ _ wr => wr.rangeLeft b r)
  case atStart => exact ⟨_, _, s.size, rfl, hrg2, .inl rfl, h0, Nat.le_refl _, HMIN0.out, hB2, fun _ h => h⟩
  case round =>
    obtain ⟨left, cnt, q, rfl, hrg, hq, hq0, hqs, hmin, hBr, hlD⟩ := hrel
    clear hrg2 hB2
    have HQ := Lib.hid hq
    have HMIN := Lib.hid hmin
    have HLD := Lib.hid hlD
    clear hq hmin hlD
    go_wp2_with (first | (at_next; refine wpList_next_ranges_ib _ rfl _ rfl 2 .i64 keyed64 Try.underlying2 _ b r n _ _ _ rfl hrg ?_ ?_))
    · intro _ hl0
      have hrt : IsRt s q := by
        refine ⟨?_, ?_, fun y h1 h2 => HMIN.out y h1 h2 (hl0 _)⟩
        · rcases HQ.out with rfl | h
          · exact per_self h0
          · exact h.1
        · rcases HQ.out with rfl | h
          · exact Nat.mod_self _
          · exact h.2
      obtain rfl : p = q := HP.out.unique hrt
      have q0 : (0 : Int) < (p : Int) := by omega
      have q1 : (p : Int) ≤ (s.size : Int) := by omega
      clear hl0 hrt
      go_wp2
      go_quiet (fail)
      go_wp2
      go_ret3
      exact ⟨ret_sii rfl (wrap_div hs (by omega)), below_drewN hBr _⟩
    · intro x c w4 cnt1 hwx hlx hrg1 hlt hg1 hs1 hen
      obtain ⟨y, hy, he⟩ := (HKEYS.out _).1 (HLD.out _ hlx)
      obtain rfl : x = (y : Int) := by injection he
      have hy1 := hy.1
      have hy2 := hy.2.1
      have hB4 : Below w.heap.size w w4 := hBr.grown hg1 hBr.size (fun q hq => by cases hq; exact s1)
      have hlD1 : ∀ kl, (left kl && !kl.sameKey (.int .i64 (y : Int))) = true → Maps.has D kl = true := fun kl hk => HLD.out kl (by simp at hk; exact hk.1)
      have HLD1 := Lib.hid hlD1
      have hle1 := hrg.left_eq
      have hle2 := hrg1.left_eq
      have HLE := Lib.hid (show w4.rangeLeft b r < wr.rangeLeft b r by rw [hle1, hle2]; exact hlt)
      have HY := Lib.hid hy
      have y0 : (0 : Int) < (y : Int) := by omega
      clear hlx he hlD1 hle1 hle2 hBr hg1 hs1 hwx hy
      have hnew : ∀ q', q' ≤ q → (s.size % y = 0 → q' ≤ y) → ∀ z, Per s z → s.size % z = 0 → (left (.int .i64 (z : Int)) && !(Lit.int .i64 (z : Int)).sameKey (.int .i64 (y : Int))) = false → q' ≤ z := by
        intro q' h1 h2 z hz hd hl
        by_cases hzy : z = y
        · subst hzy; exact h2 hd
        · have : ¬ (z : Int) = (y : Int) := by omega
          rw [sameKey_int] at hl
          simp [this] at hl
          exact Nat.le_trans h1 (HMIN.out z hz hd hl)
      have HNEW := Lib.hid hnew
      clear hnew
      by_cases hd : s.size % y = 0
      · have t := mod_yes hd
        by_cases hqy : q ≤ y
        · have hm := Lib.hid (HNEW.out q (Nat.le_refl _) (fun _ => hqy))
          have hqy' : (q : Int) ≤ (y : Int) := by omega
          clear hd
          go_wp2
          go_roundw
          case rel => exact ⟨_, cnt1, q, by go_num, hrg1, HQ.out, hq0, hqs, hm.out, hB4, HLD1.out⟩
          case measure => exact HLE.out
        · have hm := Lib.hid (HNEW.out y (by omega) (fun _ => Nat.le_refl _))
          have hqy' : ¬ (q : Int) ≤ (y : Int) := by omega
          have HDY := Lib.hid hd
          clear hd
          go_wp2
          go_roundw
          case rel => exact ⟨_, cnt1, y, by go_num, hrg1, .inr ⟨HY.out, HDY.out⟩, by omega, by omega, hm.out, hB4, HLD1.out⟩
          case measure => exact HLE.out
      · have t := mod_no hd
        have hm := Lib.hid (HNEW.out q (Nat.le_refl _) (fun h => absurd h hd))
        clear hd
        go_wp2
        go_roundw
        case rel => exact ⟨_, cnt1, q, rfl, hrg1, HQ.out, hq0, hqs, hm.out, hB4, HLD1.out⟩
        case measure => exact HLE.out

theorem implRoot_empty (s : ByteArray) (w : World) (hs : s.size ≤ maxLen) (h : okL s.data.toList = true) (h0 : s.size = 0) :
    Calls Try.prog 25 #[.string s] w fun e w' => e = .returned (.tuple #[.string ⟨#[]⟩, .int .i64 0, .int .i64 4]) ∧ Below w.heap.size w w' := by
  have c1 := implOk s w hs
  rw [h] at c1
  have C1 := Lib.hid c1
  have h3 : s = ⟨#[]⟩ := by
    have : s.data = #[] := Array.eq_empty_of_size_eq_zero h0
    cases s; simp at this; rw [this]
  subst h3
  clear c1 h h0
  go_enter Try.func25, Try.ntmps25
  go_wp2_with (go_at_call 39; refine C1.out.mono ?_; rintro e w' ⟨rfl, rfl⟩)
  go_ret3
  exact ⟨rfl, Below.refl _ _⟩

end Go.Proofs.Ytiibadmijhbioaa
