/-
  Walks: spec.LyndonFactors, impl.LyndonFactors.
-/
import Derived.Test.YtiibadmijhbioabStrs
import Derived.Test.YtiibadmijhbioabDuval
import Derived.Outline
namespace Go.Proofs.Ytiibadmijhbioab
open Go.RowKit
open Wd
set_option linter.unusedVariables false

theorem Try.info_str : (Try.prog.info? 9).map (fun i => (i.zero, i.size, i.bytes)) = some (some (.string ⟨#[]⟩), 1, 16) := by kernel_rfl


theorem duv_step {s : ByteArray} {f i j k : Nat} (hi : i < s.size) (hp : duvIn s i (s.size - (i + 1)) (i + 1) i = (j, k)) :
    duv s (f + 1) i = (duvOut s k (j - k) (s.size + 1) i).1 ++ duv s f (duvOut s k (j - k) (s.size + 1) i).2 := by
  rw [duv, if_pos hi]
  simp only [hp]

/-- what holds between two rounds of the outer loop -/
def LyRel (s : ByteArray) (w : World) (x i : Value) (wr : World) : Prop :=
  ∃ (a f n : Nat) (done : List ByteArray), i = .int .i64 a ∧ a ≤ s.size ∧ s.size < a + f ∧ n ≤ a ∧ done.length = n ∧ wr.ownsRow w.heap.size 9 1 x n (sv done) ∧ Below w.heap.size w wr ∧ done ++ duv s f a = duv s (s.size + 1) 0
/-- and of the last one -/
def LoRel (s : ByteArray) (w : World) (f k d : Nat) (x i : Value) (wr : World) : Prop :=
  ∃ (a g n : Nat) (done : List ByteArray), i = .int .i64 a ∧ a ≤ s.size ∧ s.size < a + g ∧ n ≤ a ∧ done.length = n ∧ wr.ownsRow w.heap.size 9 1 x n (sv done) ∧ Below w.heap.size w wr ∧
    done ++ ((duvOut s k d g a).1 ++ duv s f (duvOut s k d g a).2) = duv s (s.size + 1) 0 ∧ s.size < (duvOut s k d g a).2 + f

theorem lyRel_start (s : ByteArray) (w : World) : LyRel s w (.slice (some ⟨w.heap.size, 0, none⟩) 0 0) (.int .i64 0) (w.alloc (.cells #[] 9)) :=
  ⟨0, s.size + 1, 0, [], rfl, Nat.zero_le _, by omega, Nat.le_refl _, rfl, World.ownsRow_lit w #[] 0 (Nat.le_refl _) (by decide) rfl, (Below.refl _ _).alloc (Nat.le_refl _) _, rfl⟩

/-- one more piece -/
theorem loRel_step {s : ByteArray} {w wr w1 : World} {f k d a g n : Nat} {x x' : Value} {done : List ByteArray} {o : Obj} (hak : a ≤ k) (hd : 0 < d) (had : a + d ≤ s.size) (hg : s.size < a + (g + 1)) (hn : n ≤ a)
    (hl : done.length = n) (hown : wr.ownsRow w.heap.size 9 1 x n (sv done)) (hB : Below w.heap.size w wr)
    (hown' : w1.ownsRow w.heap.size 9 1 x' (n + 1) (sv done ++ [.string (s.extract a (a + d))])) (hgrow : (wr.alloc o).grownBy w1 x.ownBlock)
    (he : done ++ ((duvOut s k d (g + 1) a).1 ++ duv s f (duvOut s k d (g + 1) a).2) = duv s (s.size + 1) 0) (hf : s.size < (duvOut s k d (g + 1) a).2 + f) :
    LoRel s w f k d x' (.int .i64 ((a + d : Nat) : Int)) w1 := by
  rw [duvOut_go hak] at he hf
  have hsz := hB.size
  refine ⟨a + d, g, n + 1, done ++ [s.extract a (a + d)], rfl, had, by omega, by omega, by simp [hl], by rw [sv_app]; exact hown', (hB.alloc hsz o).grown hgrow (by simp; omega) (fun q hq => (hown.lt q hq).1), ?_, hf⟩
  rw [← he]
  simp [List.append_assoc]








set_option maxRecDepth 100000 in
set_option maxHeartbeats 6400000 in
theorem specLyndon_ok (s : ByteArray) (w : World) (hs : s.size ≤ 2000) (h : okL s.data.toList = true) :
    Calls Try.prog 41 #[.string s] w fun e w' => ∃ x, e = .returned (.tuple #[x, .int .i64 0]) ∧ OwnsS w' w.heap.size x (duv s (s.size + 1) 0) ∧ Below w.heap.size w w' := by
  obtain ⟨i0, hi, hz0, hz1, hz2⟩ := info_parts Try.info_str
  have c1 := specOk s w (by unfold maxLen; omega)
  rw [h] at c1
  have C1 := Lib.hid c1
  clear c1 h
  go_enter Try.func41, Try.ntmps41
  go_wp2_with (go_at_call 50; refine C1.out.mono ?_; rintro e w' ⟨rfl, rfl⟩)
  go_loopw [4, 5, 6, 7] (fun x i _ _ wr => LyRel s w x i wr) (fun _ i _ _ _ => s.size - (intOf i).toNat)
  case atStart => exact lyRel_start s w
  case round =>
    obtain ⟨a, f, n, done, rfl, ha, hf, hn, hl, hown, hB, he⟩ := hrel
    obtain ⟨wo, rfl⟩ : ∃ wo : World, wo = wr := ⟨_, rfl⟩
    have HL := Lib.hid hl
    have HE := Lib.hid he
    clear hl he
    by_cases hlt : a < s.size
    · go_wp2
      go_loopw [6, 7] (fun jv kv wi => ∃ j k g : Nat, jv = .int .i64 j ∧ kv = .int .i64 k ∧ a ≤ k ∧ k < j ∧ j ≤ s.size ∧ s.size ≤ j + g ∧ duvIn s a g j k = duvIn s a (s.size - (a + 1)) (a + 1) a ∧ Drawn wo wi) (fun jv _ _ => s.size - (intOf jv).toNat)
      case atStart => exact ⟨a + 1, a, s.size - (a + 1), by go_num, rfl, Nat.le_refl _, by omega, by omega, by omega, rfl, Drawn.refl _⟩
      case round =>
        obtain ⟨j, k, g, rfl, rfl, hak, hkj, hj, hg, hd, hD⟩ := hrel
        have HD := Lib.hid hd
        clear hd
        by_cases hjs : j < s.size
        · have hks : k < s.size := by omega
          obtain ⟨g', rfl⟩ : ∃ g', g = g' + 1 := ⟨g - 1, by omega⟩
          by_cases hgt : s[j] < s[k]
          · have hp := HD.out
            rw [duvIn_gt hjs hks hgt] at hp
            have hle : ¬ (s[k].toNat : Int) ≤ (s[j].toNat : Int) := by
              rw [UInt8.lt_iff_toNat_lt] at hgt
              omega
            have hle' : decide (s[k].toNat ≤ s[j].toNat) = false := by
              rw [UInt8.lt_iff_toNat_lt] at hgt
              simp
              omega
            clear hgt
            obtain ⟨wm, rfl⟩ : ∃ wm : World, wm = wr := ⟨_, rfl⟩
            obtain ⟨x4, rfl⟩ : ∃ x4 : Value, x4 = u4 := ⟨_, rfl⟩
            obtain ⟨f', rfl⟩ : ∃ f', f = f' + 1 := ⟨f - 1, by omega⟩
            obtain ⟨d, hdj⟩ : ∃ d, k + d = j := ⟨j - k, by omega⟩
            have hd0 : 0 < d := by omega
            have hst := duv_step (f := f') hlt hp.symm
            rw [show j - k = d from by omega] at hst
            have hr2 : s.size < (duvOut s k d (s.size + 1) a).2 + f' := by
              have := duvOut_ge (s := s) (k := k) (d := d) (f := s.size) (i := a) hak hd0
              omega
            have hstart : ∀ m, LoRel s w f' k d x4 (.int .i64 a) (wm.drewN m) := fun m => by
              have hD' := hD.drewN m
              exact ⟨a, s.size + 1, n, done, rfl, ha, by omega, hn, HL.out, by obtain ⟨q, hq⟩ := hD'; rw [hq]; exact hown, hB.trans (hD'.below _), by rw [← hst]; exact HE.out, hr2⟩
            have HST := Lib.hid hstart
            have HDJ := Lib.hid hdj
            clear hp hst hD HD hown hB HE HL hr2 hstart hdj
            go_wp2
            go_quiet (fail)
            go_wp2
            go_loopw [4, 5] (fun x i wi => LoRel s w f' k d x i wi) (fun _ i _ => k + 1 - (intOf i).toNat)
            case atStart => exact HST.out _
            case round =>
              obtain ⟨b, g2, n2, done2, rfl, hb, hg2, hn2, hl2, hown2, hB2, he2, hf2⟩ := hrel
              by_cases hbk : b ≤ k
              · obtain ⟨g3, rfl⟩ : ∃ g3, g2 = g3 + 1 := ⟨g2 - 1, by omega⟩
                have hbd : b + d ≤ s.size := by have := HDJ.out; omega
                have hS := Lib.hid (fun (w1 : World) (x' : Value) (o : Obj) h1 h2 => loRel_step (w := w) (wr := wr) (w1 := w1) (f := f') (k := k) (d := d) (a := b) (g := g3) (n := n2) (x := u4) (x' := x') (done := done2) (o := o) hbk hd0 hbd hg2 hn2 hl2 hown2 hB2 h1 h2 he2 hf2)
                have HE2 := Lib.hid he2
                have HF2 := Lib.hid hf2
                have HL2 := Lib.hid hl2
                have hsz2 := hB2.size
                clear he2 hf2 hl2
                have e1 : (b : Int) + (j : Int) - (k : Int) = (b : Int) + (d : Int) := by have := HDJ.out; omega
                have e2 : (b : Int) + ((j : Int) - (k : Int)) = (b : Int) + (d : Int) := by have := HDJ.out; omega
                have hbd' : (b : Int) + (d : Int) ≤ (s.size : Int) := by omega
                clear HST
                go_wp2_with (first | (at_builtin; refine wpList_append_own _ rfl _ _ 49 rfl w.heap.size 9 i0 (.string ⟨#[]⟩) 1 16 Try.underlying49 hi hz0 hz1 hz2 rfl (by decide) _ _ _ rfl (hown2.alloc _) ⟨wr.heap.size, 0, none⟩ 1 1 [.string (s.extract b (b + d))] rfl rfl (one_new _ _ _) (one_str _) (by unfold maxLen; omega) (by omega) (base_alloc hsz2 _) ?_))
                intro v' w1 hown' hgrow _
                have hnew := hS.out w1 v' _ hown' hgrow
                clear hown' hgrow hown2 hB2
                have HNW := Lib.hid hnew
                clear hnew
                go_wp2
                go_roundw
                case rel => first | exact HNW.out | ((repeat apply Exists.intro); exact ⟨HNW.out, rfl⟩)
                case measure => simp [intOf]; omega
              · have hend : duvOut s k d g2 b = ([], b) := duvOut_end hbk
                rw [hend] at he2 hf2
                have HE2 := Lib.hid he2
                have HF2 := Lib.hid hf2
                have HL2 := Lib.hid hl2
                clear he2 hf2 hl2 hend HST
                go_wp2
                go_roundw
                case rel => exact ⟨b, f', n2, done2, rfl, hb, HF2.out, hn2, HL2.out, hown2, hB2, by simpa using HE2.out⟩
                case measure => simp [intOf]; omega

          · have hle : (s[k].toNat : Int) ≤ (s[j].toNat : Int) := by
              have := UInt8.not_lt.1 hgt
              rw [UInt8.le_iff_toNat_le] at this
              omega
            by_cases heq : s[k] = s[j]
            · have hx := duvIn_eq (i := a) (f := g') hjs hks heq
              have hd2 : duvIn s a g' (j + 1) (k + 1) = duvIn s a (s.size - (a + 1)) (a + 1) a := by rw [← hx]; exact HD.out
              have HX := Lib.hid hd2
              have hb : ¬ (s[k].toNat : Int) < (s[j].toNat : Int) := by rw [heq]; omega
              clear hx hd2 heq hgt
              go_wp2
              go_quiet (fail)
              go_wp2
              go_quiet (fail)
              go_wp2
              go_roundw
              case rel => exact ⟨j + 1, k + 1, g', by go_num, by go_num, by omega, by omega, by omega, by omega, HX.out, hD.drewN _⟩
              case measure => simp [intOf]; omega
            · have hlt2 : s[k] < s[j] := by
                rw [UInt8.lt_iff_toNat_lt]
                have : s[k].toNat ≠ s[j].toNat := fun h => heq (UInt8.toNat_inj.1 h)
                omega
              have hx := duvIn_lt (i := a) (f := g') hjs hks hlt2
              have hd2 : duvIn s a g' (j + 1) a = duvIn s a (s.size - (a + 1)) (a + 1) a := by rw [← hx]; exact HD.out
              have HX := Lib.hid hd2
              have hb : (s[k].toNat : Int) < (s[j].toNat : Int) := by rw [UInt8.lt_iff_toNat_lt] at hlt2; omega
              clear hx hd2 heq hgt hlt2
              go_wp2
              go_quiet (fail)
              go_wp2
              go_quiet (fail)
              go_wp2
              go_roundw
              case rel => exact ⟨j + 1, a, g', by go_num, rfl, by omega, by omega, by omega, by omega, HX.out, hD.drewN _⟩
              case measure => simp [intOf]; omega
        · have hp := HD.out
          rw [duvIn_end hjs] at hp
          have hjd : decide ((j : Int) < (s.size : Int)) = false := by simp; omega
          obtain ⟨wm, rfl⟩ : ∃ wm : World, wm = wr := ⟨_, rfl⟩
          obtain ⟨x4, rfl⟩ : ∃ x4 : Value, x4 = u4 := ⟨_, rfl⟩
          obtain ⟨f', rfl⟩ : ∃ f', f = f' + 1 := ⟨f - 1, by omega⟩
          obtain ⟨d, hdj⟩ : ∃ d, k + d = j := ⟨j - k, by omega⟩
          have hd0 : 0 < d := by omega
          have hst := duv_step (f := f') hlt hp.symm
          rw [show j - k = d from by omega] at hst
          have hr2 : s.size < (duvOut s k d (s.size + 1) a).2 + f' := by
            have := duvOut_ge (s := s) (k := k) (d := d) (f := s.size) (i := a) hak hd0
            omega
          have hstart : ∀ m, LoRel s w f' k d x4 (.int .i64 a) (wm.drewN m) := fun m => by
            have hD' := hD.drewN m
            exact ⟨a, s.size + 1, n, done, rfl, ha, by omega, hn, HL.out, by obtain ⟨q, hq⟩ := hD'; rw [hq]; exact hown, hB.trans (hD'.below _), by rw [← hst]; exact HE.out, hr2⟩
          have HST := Lib.hid hstart
          have HDJ := Lib.hid hdj
          clear hp hst hD HD hown hB HE HL hr2 hstart hdj
          go_wp2
          go_quiet (fail)
          go_wp2
          go_loopw [4, 5] (fun x i wi => LoRel s w f' k d x i wi) (fun _ i _ => k + 1 - (intOf i).toNat)
          case atStart => exact HST.out _
          case round =>
            obtain ⟨b, g2, n2, done2, rfl, hb, hg2, hn2, hl2, hown2, hB2, he2, hf2⟩ := hrel
            by_cases hbk : b ≤ k
            · obtain ⟨g3, rfl⟩ : ∃ g3, g2 = g3 + 1 := ⟨g2 - 1, by omega⟩
              have hbd : b + d ≤ s.size := by have := HDJ.out; omega
              have hS := Lib.hid (fun (w1 : World) (x' : Value) (o : Obj) h1 h2 => loRel_step (w := w) (wr := wr) (w1 := w1) (f := f') (k := k) (d := d) (a := b) (g := g3) (n := n2) (x := u4) (x' := x') (done := done2) (o := o) hbk hd0 hbd hg2 hn2 hl2 hown2 hB2 h1 h2 he2 hf2)
              have HE2 := Lib.hid he2
              have HF2 := Lib.hid hf2
              have HL2 := Lib.hid hl2
              have hsz2 := hB2.size
              clear he2 hf2 hl2
              have e1 : (b : Int) + (j : Int) - (k : Int) = (b : Int) + (d : Int) := by have := HDJ.out; omega
              have e2 : (b : Int) + ((j : Int) - (k : Int)) = (b : Int) + (d : Int) := by have := HDJ.out; omega
              have hbd' : (b : Int) + (d : Int) ≤ (s.size : Int) := by omega
              clear HST
              go_wp2_with (first | (at_builtin; refine wpList_append_own _ rfl _ _ 49 rfl w.heap.size 9 i0 (.string ⟨#[]⟩) 1 16 Try.underlying49 hi hz0 hz1 hz2 rfl (by decide) _ _ _ rfl (hown2.alloc _) ⟨wr.heap.size, 0, none⟩ 1 1 [.string (s.extract b (b + d))] rfl rfl (one_new _ _ _) (one_str _) (by unfold maxLen; omega) (by omega) (base_alloc hsz2 _) ?_))
              intro v' w1 hown' hgrow _
              have hnew := hS.out w1 v' _ hown' hgrow
              clear hown' hgrow hown2 hB2
              have HNW := Lib.hid hnew
              clear hnew
              go_wp2
              go_roundw
              case rel => first | exact HNW.out | ((repeat apply Exists.intro); exact ⟨HNW.out, rfl⟩)
              case measure => simp [intOf]; omega
            · have hend : duvOut s k d g2 b = ([], b) := duvOut_end hbk
              rw [hend] at he2 hf2
              have HE2 := Lib.hid he2
              have HF2 := Lib.hid hf2
              have HL2 := Lib.hid hl2
              clear he2 hf2 hl2 hend HST
              go_wp2
              go_roundw
              case rel => exact ⟨b, f', n2, done2, rfl, hb, HF2.out, hn2, HL2.out, hown2, hB2, by simpa using HE2.out⟩
              case measure => simp [intOf]; omega

    · have hend := duv_end (f := f) hlt
      have he' : done = duv s (s.size + 1) 0 := by have := HE.out; rw [hend, List.append_nil] at this; exact this
      have hox : OwnsS wo w.heap.size u4 (duv s (s.size + 1) 0) := by rw [← he']; unfold OwnsS; rw [HL.out]; exact hown
      have HO := Lib.hid hox
      clear hend he' hox hown
      go_wp2
      go_ret2
      exact ⟨_, rfl, HO.out, hB⟩

set_option maxRecDepth 100000 in
set_option maxHeartbeats 6400000 in
theorem implLyndon_ok (s : ByteArray) (w : World) (hs : s.size ≤ 2000) (h : okL s.data.toList = true) :
    Calls Try.prog 42 #[.string s] w fun e w' => ∃ x, e = .returned (.tuple #[x, .int .i64 0]) ∧ OwnsS w' w.heap.size x (duv s (s.size + 1) 0) ∧ Below w.heap.size w w' := by
  obtain ⟨i0, hi, hz0, hz1, hz2⟩ := info_parts Try.info_str
  have c1 := implOk s w (by unfold maxLen; omega)
  rw [h] at c1
  have C1 := Lib.hid c1
  clear c1 h
  go_enter Try.func42, Try.ntmps42
  go_wp2_with (go_at_call 52; refine C1.out.mono ?_; rintro e w' ⟨rfl, rfl⟩)
  go_loopw [4, 5, 6, 7, 8] (fun x i _ _ _ wr => LyRel s w x i wr) (fun _ i _ _ _ _ => s.size - (intOf i).toNat)
  case atStart => exact lyRel_start s w
  case round =>
    obtain ⟨a, f, n, done, rfl, ha, hf, hn, hl, hown, hB, he⟩ := hrel
    obtain ⟨wo, rfl⟩ : ∃ wo : World, wo = wr := ⟨_, rfl⟩
    have HL := Lib.hid hl
    have HE := Lib.hid he
    clear hl he
    by_cases hlt : a < s.size
    · go_wp2
      go_loopw [6, 7] (fun jv kv wi => ∃ j k g : Nat, jv = .int .i64 j ∧ kv = .int .i64 k ∧ a ≤ k ∧ k < j ∧ j ≤ s.size ∧ s.size ≤ j + g ∧ duvIn s a g j k = duvIn s a (s.size - (a + 1)) (a + 1) a ∧ Drawn wo wi) (fun jv _ _ => s.size - (intOf jv).toNat)
      case atStart => exact ⟨a + 1, a, s.size - (a + 1), by go_num, rfl, Nat.le_refl _, by omega, by omega, by omega, rfl, Drawn.refl _⟩
      case round =>
        obtain ⟨j, k, g, rfl, rfl, hak, hkj, hj, hg, hd, hD⟩ := hrel
        have HD := Lib.hid hd
        clear hd
        by_cases hjs : j < s.size
        · have hks : k < s.size := by omega
          obtain ⟨g', rfl⟩ : ∃ g', g = g' + 1 := ⟨g - 1, by omega⟩
          by_cases hgt : s[j] < s[k]
          · have hp := HD.out
            rw [duvIn_gt hjs hks hgt] at hp
            have hle : ¬ (s[k].toNat : Int) ≤ (s[j].toNat : Int) := by
              rw [UInt8.lt_iff_toNat_lt] at hgt
              omega
            have hle' : decide (s[k].toNat ≤ s[j].toNat) = false := by
              rw [UInt8.lt_iff_toNat_lt] at hgt
              simp
              omega
            clear hgt
            obtain ⟨wm, rfl⟩ : ∃ wm : World, wm = wr := ⟨_, rfl⟩
            obtain ⟨x4, rfl⟩ : ∃ x4 : Value, x4 = u4 := ⟨_, rfl⟩
            obtain ⟨f', rfl⟩ : ∃ f', f = f' + 1 := ⟨f - 1, by omega⟩
            obtain ⟨d, hdj⟩ : ∃ d, k + d = j := ⟨j - k, by omega⟩
            have hd0 : 0 < d := by omega
            have hst := duv_step (f := f') hlt hp.symm
            rw [show j - k = d from by omega] at hst
            have hr2 : s.size < (duvOut s k d (s.size + 1) a).2 + f' := by
              have := duvOut_ge (s := s) (k := k) (d := d) (f := s.size) (i := a) hak hd0
              omega
            have hstart : ∀ m, LoRel s w f' k d x4 (.int .i64 a) (wm.drewN m) := fun m => by
              have hD' := hD.drewN m
              exact ⟨a, s.size + 1, n, done, rfl, ha, by omega, hn, HL.out, by obtain ⟨q, hq⟩ := hD'; rw [hq]; exact hown, hB.trans (hD'.below _), by rw [← hst]; exact HE.out, hr2⟩
            have HST := Lib.hid hstart
            have HDJ := Lib.hid hdj
            clear hp hst hD HD hown hB HE HL hr2 hstart hdj
            go_wp2
            go_quiet (fail)
            go_wp2
            go_loopw [4, 5] (fun x i wi => LoRel s w f' k d x i wi) (fun _ i _ => k + 1 - (intOf i).toNat)
            case atStart => exact HST.out _
            case round =>
              obtain ⟨b, g2, n2, done2, rfl, hb, hg2, hn2, hl2, hown2, hB2, he2, hf2⟩ := hrel
              by_cases hbk : b ≤ k
              · obtain ⟨g3, rfl⟩ : ∃ g3, g2 = g3 + 1 := ⟨g2 - 1, by omega⟩
                have hbd : b + d ≤ s.size := by have := HDJ.out; omega
                have hS := Lib.hid (fun (w1 : World) (x' : Value) (o : Obj) h1 h2 => loRel_step (w := w) (wr := wr) (w1 := w1) (f := f') (k := k) (d := d) (a := b) (g := g3) (n := n2) (x := u4) (x' := x') (done := done2) (o := o) hbk hd0 hbd hg2 hn2 hl2 hown2 hB2 h1 h2 he2 hf2)
                have HE2 := Lib.hid he2
                have HF2 := Lib.hid hf2
                have HL2 := Lib.hid hl2
                have hsz2 := hB2.size
                clear he2 hf2 hl2
                have e1 : (b : Int) + (j : Int) - (k : Int) = (b : Int) + (d : Int) := by have := HDJ.out; omega
                have e2 : (b : Int) + ((j : Int) - (k : Int)) = (b : Int) + (d : Int) := by have := HDJ.out; omega
                have hbd' : (b : Int) + (d : Int) ≤ (s.size : Int) := by omega
                clear HST
                go_wp2_with (first | (at_builtin; refine wpList_append_own _ rfl _ _ 49 rfl w.heap.size 9 i0 (.string ⟨#[]⟩) 1 16 Try.underlying49 hi hz0 hz1 hz2 rfl (by decide) _ _ _ rfl (hown2.alloc _) ⟨wr.heap.size, 0, none⟩ 1 1 [.string (s.extract b (b + d))] rfl rfl (one_new _ _ _) (one_str _) (by unfold maxLen; omega) (by omega) (base_alloc hsz2 _) ?_))
                intro v' w1 hown' hgrow _
                have hnew := hS.out w1 v' _ hown' hgrow
                clear hown' hgrow hown2 hB2
                have HNW := Lib.hid hnew
                clear hnew
                go_wp2
                go_roundw
                case rel => first | exact HNW.out | ((repeat apply Exists.intro); exact ⟨HNW.out, rfl⟩)
                case measure => simp [intOf]; omega
              · have hend : duvOut s k d g2 b = ([], b) := duvOut_end hbk
                rw [hend] at he2 hf2
                have HE2 := Lib.hid he2
                have HF2 := Lib.hid hf2
                have HL2 := Lib.hid hl2
                clear he2 hf2 hl2 hend HST
                go_wp2
                go_roundw
                case rel => exact ⟨b, f', n2, done2, rfl, hb, HF2.out, hn2, HL2.out, hown2, hB2, by simpa using HE2.out⟩
                case measure => simp [intOf]; omega

          · have hle : (s[k].toNat : Int) ≤ (s[j].toNat : Int) := by
              have := UInt8.not_lt.1 hgt
              rw [UInt8.le_iff_toNat_le] at this
              omega
            by_cases heq : s[k] = s[j]
            · have hx := duvIn_eq (i := a) (f := g') hjs hks heq
              have hd2 : duvIn s a g' (j + 1) (k + 1) = duvIn s a (s.size - (a + 1)) (a + 1) a := by rw [← hx]; exact HD.out
              have HX := Lib.hid hd2
              have hb : ((s[k].toNat : Int) == (s[j].toNat : Int)) = true := by rw [heq]; simp
              clear hx hd2 heq hgt
              go_wp2
              go_quiet (fail)
              go_wp2
              go_quiet (fail)
              go_wp2
              go_roundw
              case rel => exact ⟨j + 1, k + 1, g', by go_num, by go_num, by omega, by omega, by omega, by omega, HX.out, hD.drewN _⟩
              case measure => simp [intOf]; omega
            · have hlt2 : s[k] < s[j] := by
                rw [UInt8.lt_iff_toNat_lt]
                have : s[k].toNat ≠ s[j].toNat := fun h => heq (UInt8.toNat_inj.1 h)
                omega
              have hx := duvIn_lt (i := a) (f := g') hjs hks hlt2
              have hd2 : duvIn s a g' (j + 1) a = duvIn s a (s.size - (a + 1)) (a + 1) a := by rw [← hx]; exact HD.out
              have HX := Lib.hid hd2
              have hb : ((s[k].toNat : Int) == (s[j].toNat : Int)) = false := by rw [UInt8.lt_iff_toNat_lt] at hlt2; rw [beq_eq_false_iff_ne]; omega
              clear hx hd2 heq hgt hlt2
              go_wp2
              go_quiet (fail)
              go_wp2
              go_quiet (fail)
              go_wp2
              go_roundw
              case rel => exact ⟨j + 1, a, g', by go_num, rfl, by omega, by omega, by omega, by omega, HX.out, hD.drewN _⟩
              case measure => simp [intOf]; omega
        · have hp := HD.out
          rw [duvIn_end hjs] at hp
          have hjd : decide ((j : Int) < (s.size : Int)) = false := by simp; omega
          obtain ⟨wm, rfl⟩ : ∃ wm : World, wm = wr := ⟨_, rfl⟩
          obtain ⟨x4, rfl⟩ : ∃ x4 : Value, x4 = u4 := ⟨_, rfl⟩
          obtain ⟨f', rfl⟩ : ∃ f', f = f' + 1 := ⟨f - 1, by omega⟩
          obtain ⟨d, hdj⟩ : ∃ d, k + d = j := ⟨j - k, by omega⟩
          have hd0 : 0 < d := by omega
          have hst := duv_step (f := f') hlt hp.symm
          rw [show j - k = d from by omega] at hst
          have hr2 : s.size < (duvOut s k d (s.size + 1) a).2 + f' := by
            have := duvOut_ge (s := s) (k := k) (d := d) (f := s.size) (i := a) hak hd0
            omega
          have hstart : ∀ m, LoRel s w f' k d x4 (.int .i64 a) (wm.drewN m) := fun m => by
            have hD' := hD.drewN m
            exact ⟨a, s.size + 1, n, done, rfl, ha, by omega, hn, HL.out, by obtain ⟨q, hq⟩ := hD'; rw [hq]; exact hown, hB.trans (hD'.below _), by rw [← hst]; exact HE.out, hr2⟩
          have HST := Lib.hid hstart
          have HDJ := Lib.hid hdj
          clear hp hst hD HD hown hB HE HL hr2 hstart hdj
          go_wp2
          go_quiet (fail)
          go_wp2
          go_loopw [4, 5] (fun x i wi => LoRel s w f' k d x i wi) (fun _ i _ => k + 1 - (intOf i).toNat)
          case atStart => exact HST.out _
          case round =>
            obtain ⟨b, g2, n2, done2, rfl, hb, hg2, hn2, hl2, hown2, hB2, he2, hf2⟩ := hrel
            by_cases hbk : b ≤ k
            · obtain ⟨g3, rfl⟩ : ∃ g3, g2 = g3 + 1 := ⟨g2 - 1, by omega⟩
              have hbd : b + d ≤ s.size := by have := HDJ.out; omega
              have hS := Lib.hid (fun (w1 : World) (x' : Value) (o : Obj) h1 h2 => loRel_step (w := w) (wr := wr) (w1 := w1) (f := f') (k := k) (d := d) (a := b) (g := g3) (n := n2) (x := u4) (x' := x') (done := done2) (o := o) hbk hd0 hbd hg2 hn2 hl2 hown2 hB2 h1 h2 he2 hf2)
              have HE2 := Lib.hid he2
              have HF2 := Lib.hid hf2
              have HL2 := Lib.hid hl2
              have hsz2 := hB2.size
              clear he2 hf2 hl2
              have e1 : (b : Int) + (j : Int) - (k : Int) = (b : Int) + (d : Int) := by have := HDJ.out; omega
              have e2 : (b : Int) + ((j : Int) - (k : Int)) = (b : Int) + (d : Int) := by have := HDJ.out; omega
              have hbd' : (b : Int) + (d : Int) ≤ (s.size : Int) := by omega
              clear HST
              go_wp2_with (first | (at_builtin; refine wpList_append_own _ rfl _ _ 49 rfl w.heap.size 9 i0 (.string ⟨#[]⟩) 1 16 Try.underlying49 hi hz0 hz1 hz2 rfl (by decide) _ _ _ rfl (hown2.alloc _) ⟨wr.heap.size, 0, none⟩ 1 1 [.string (s.extract b (b + d))] rfl rfl (one_new _ _ _) (one_str _) (by unfold maxLen; omega) (by omega) (base_alloc hsz2 _) ?_))
              intro v' w1 hown' hgrow _
              have hnew := hS.out w1 v' _ hown' hgrow
              clear hown' hgrow hown2 hB2
              have HNW := Lib.hid hnew
              clear hnew
              go_wp2
              go_roundw
              case rel => first | exact HNW.out | ((repeat apply Exists.intro); exact ⟨HNW.out, rfl⟩)
              case measure => simp [intOf]; omega
            · have hend : duvOut s k d g2 b = ([], b) := duvOut_end hbk
              rw [hend] at he2 hf2
              have HE2 := Lib.hid he2
              have HF2 := Lib.hid hf2
              have HL2 := Lib.hid hl2
              clear he2 hf2 hl2 hend HST
              go_wp2
              go_roundw
              case rel => exact ⟨b, f', n2, done2, rfl, hb, HF2.out, hn2, HL2.out, hown2, hB2, by simpa using HE2.out⟩
              case measure => simp [intOf]; omega

    · have hend := duv_end (f := f) hlt
      have he' : done = duv s (s.size + 1) 0 := by have := HE.out; rw [hend, List.append_nil] at this; exact this
      have hox : OwnsS wo w.heap.size u4 (duv s (s.size + 1) 0) := by rw [← he']; unfold OwnsS; rw [HL.out]; exact hown
      have HO := Lib.hid hox
      clear hend he' hox hown
      go_wp2
      go_ret2
      exact ⟨_, rfl, HO.out, hB⟩
end Go.Proofs.Ytiibadmijhbioab
