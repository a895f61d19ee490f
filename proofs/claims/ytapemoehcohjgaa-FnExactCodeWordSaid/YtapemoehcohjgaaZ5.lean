/-
  Contracts and numbers of the functions that the laws of this place call, one text behind the other. No condition beyond those that each theorem names.
-/
import Derived.Test.YtapemoehcohjgaaZ1
import Derived.Test.YtapemoehcohjgaaZ3
import Derived.Test.YtapemoehcohjgaaZ4
import Derived.Lib.AppendStr
import Derived.BigQuiet
import Derived.Deep.RegionHeld3
import Derived.Shelf.Strings.Builder1
import Derived.Shelf.Strings.BuilderF
import Derived.Shelf.Strings.BuilderK
import Derived.Shelf.Strings.Search1
import Derived.Shelf.Strings.Search2
import Derived.Shelf.Strings.Search3
import Derived.Shelf.LaysM
import Derived.Shelf.Strings.Shaped
import Derived.Test.YtapemoehcohjgaaProg
import Derived.Lib.OthersKept
namespace Go.Proofs.Ytapemoehcohjgaa
open Go.RowKit
open Wd
set_option linter.unusedVariables false
namespace Wd
/-- what is written for the first letters -/
def cwL (ou : List (List ByteArray)) (nx : List (List Int)) (go : Int) (l : List UInt8) : Nat → List UInt8
  | 0 => []
  | k + 1 => cwL ou nx go l k ++ (oW ou (rdK nx go l k).toNat ((l.getD k 97).toNat - 97)).data.toList
/-- CodeWord's answer -/
def cwA (x : Co) (u : ByteArray) : ByteArray × Int := if (cOk x && okL u.data.toList) = true then (if 2000 < (cwL x.ou x.nx x.go u.data.toList u.size).length then (⟨#[]⟩, 3) else (⟨(cwL x.ou x.nx x.go u.data.toList u.size).toArray⟩, 0)) else (⟨#[]⟩, 1)
end Wd
theorem oW_few {ou : List (List ByteArray)} (h : ou.all orowOk = true) (s l : Nat) : (oW ou s l).size ≤ 6 := by
  have := (oL_bd (ou_few h) s l).2
  unfold oL at this
  unfold oW
  omega
theorem cwL_len {ou : List (List ByteArray)} {nx : List (List Int)} {go : Int} {l : List UInt8} (h : ou.all orowOk = true) : ∀ k, (cwL ou nx go l k).length ≤ 6 * k
  | 0 => by simp [cwL]
  | k + 1 => by
    have h1 := cwL_len (nx := nx) (go := go) (l := l) h k
    have h2 := oW_few h (rdK nx go l k).toNat ((l.getD k 97).toNat - 97)
    have h3 : (oW ou (rdK nx go l k).toNat ((l.getD k 97).toNat - 97)).data.toList.length = (oW ou (rdK nx go l k).toNat ((l.getD k 97).toNat - 97)).size := by rw [Array.length_toList]; rfl
    rw [cwL, List.length_append, h3]
    omega
theorem step_append_str {P : Program} {ops : Array Oper} {o : Oper} {a : Act} {w : World} {K : Act → World → Prop} {Q : Exit → Act → World → Prop} {E : Prop}
    (hg : o.guard = none) (s x : Operand) (t u : TypeId) (hop : o.op = Op.call { callee := Callee.builtin Builtin.append, args := #[s, x], argTypes := #[t, u] })
    (base : Nat) (e : TypeId) (i : TypeInfo) (ht : P.underlying t = some (.slice e)) (hu : P.underlying u = some .string) (hi : P.info? e = some i) (hz : i.zero = some (.int .u8 0)) (hsize : i.size = 1) (hby : i.bytes = 1)
    (v : Value) (n : Nat) (xs : List Value) (hs : a.eval s = v) (hown : w.ownsRow base e 1 v n xs) (str : ByteArray) (hx : a.eval x = .string str)
    (h63 : n + str.size ≤ maxLen) (hbytes : n + str.size ≤ 140737488355328) (hbase : base ≤ w.heap.size)
    (hK : ∀ v' w', w'.ownsRow base e 1 v' (n + str.size) (xs ++ Lib.strCells str) → w.grownBy w' v.ownBlock → K (a.put o.dst v') w') :
    if Region.wanted o (yielded ops a.tmps) = true then Oper.wp P o a w K Q else E := by
  have hw : Region.wanted o (yielded ops a.tmps) = true := by simp [Region.wanted, hg]
  rw [if_pos hw]
  obtain ⟨v', w', hrun, r1, r2, _⟩ := Lib.run_append_own_string (P := P) w base t u o.type e i ht hu hi hz hsize hby v n xs hown str h63 hbytes hbase
  unfold Oper.wp
  simp [execOp, hop, resolve, invoke, builtin, hs, hx, hrun, Result.andThen]
  exact hK v' w' r1 r2
set_option maxRecDepth 100000 in
set_option maxHeartbeats 3200000 in
theorem specCodeWord (v : Value) (x : Co) (u : ByteArray) (w : World) (hf : FewC x) (hum : u.size ≤ maxLen) (h : IsCo w v x) :
    Calls Try.prog 16 #[v, .string u] w fun e w' => e = .returned (.tuple #[.string (cwA x u).1, .int .i64 (cwA x u).2]) ∧ Below w.heap.size w w' := by
  obtain ⟨i0, hi, hz0, hz1, hz2⟩ := info_parts Try.info_u8
  obtain ⟨n, o, rfl, hN, hO⟩ := h
  have hb := (Below.refl _ w).alloc (Nat.le_refl _) (.cells #[.int .i64 x.st, .int .i64 x.go, n, o] 33)
  have hP := B4.new w (.int .i64 x.st) (.int .i64 x.go) n o 33
  have HC := Lib.hid (l04Coder_any w.heap.size n o x _ (heap_alloc_new w _) (hN.kept hb) (hO.kept hb) hf)
  have HW := Lib.hid (fun W => specOk u W hum)
  have HB := Lib.hid hb
  have HP := Lib.hid hP
  have HNO := Lib.hid (fun W (hW : Below w.heap.size w W) => And.intro (hN.kept hW) (hO.kept hW))
  have HWS : Hid (w.heap.size < (w.alloc (.cells #[.int .i64 x.st, .int .i64 x.go, n, o] 33)).heap.size) := Lib.hid (by simp)
  obtain ⟨An, cn, rfl, _⟩ := hN
  obtain ⟨Ao, co, rfl, _⟩ := hO
  clear hb hP
  cases hc : cOk x
  · rw [hc] at HC
    have HA : Hid (cwA x u = (⟨#[]⟩, 1)) := Lib.hid (by unfold cwA; rw [if_neg (by rw [hc]; simp)])
    clear hc
    go_enter Try.func16, Try.ntmps16
    go_wp2_with fail
    refine HC.out.mono ?_
    rintro e w3 ⟨rfl, hD⟩
    have HB3 := Lib.hid (HB.out.trans (hD.below _))
    clear hD
    go_wp2_with fail
    go_ret2
    exact ⟨by rw [HA.out]; rfl, HB3.out⟩
  · rw [hc] at HC
    cases hok : okL u.data.toList
    · rw [hok] at HW
      have HA : Hid (cwA x u = (⟨#[]⟩, 1)) := Lib.hid (by unfold cwA; rw [if_neg (by rw [hok]; simp)])
      clear hc hok
      go_enter Try.func16, Try.ntmps16
      go_wp2_with fail
      refine HC.out.mono ?_
      rintro e w3 ⟨rfl, hD⟩
      have HB3 := Lib.hid (HB.out.trans (hD.below _))
      clear hD
      go_wp2_with fail
      refine (HW.out _).mono ?_
      rintro e w4 ⟨rfl, rfl⟩
      go_wp2_with fail
      go_ret2
      exact ⟨by rw [HA.out]; rfl, HB3.out⟩
    · rw [hok] at HW
      have HA : Hid (cwA x u = if 2000 < (cwL x.ou x.nx x.go u.data.toList u.size).length then (⟨#[]⟩, 3) else (⟨(cwL x.ou x.nx x.go u.data.toList u.size).toArray⟩, 0)) := Lib.hid (by unfold cwA; rw [if_pos (by rw [hc, hok]; rfl)])
      obtain ⟨h1, h2, h3, h4, h5, h6⟩ := cOk_facts hc
      have HIN := Lib.hid (fun k (hk : k ≤ u.data.toList.length) => rdK_in (l := u.data.toList) h3 h4 h2 hok k hk)
      have HF := Lib.hid (And.intro h3 (And.intro h4 (And.intro h5 h6)))
      have HOK := Lib.hid hok
      have HLL := Lib.hid (fun k => cwL_len (nx := x.nx) (go := x.go) (l := u.data.toList) h6 k)
      have hus : u.size ≤ 2000 := by
        have := hok
        unfold okL at this
        rw [Bool.and_eq_true, decide_eq_true_eq] at this
        simpa using this.1
      clear hc hok h1 h2 h3 h4 h5 h6
      go_enter Try.func16, Try.ntmps16
      go_wp2_with fail
      refine HC.out.mono ?_
      rintro e w3 ⟨rfl, hD⟩
      have HB3 := Lib.hid (HB.out.trans (hD.below _))
      have HP3 := Lib.hid (HP.out.kept (hD.below _))
      have HL3 : Hid (w.heap.size < w3.heap.size) := Lib.hid (Nat.lt_of_lt_of_le HWS.out (hD.below 0).size)
      clear hD
      go_wp2_with fail
      refine (HW.out _).mono ?_
      rintro e w4 ⟨rfl, rfl⟩
      obtain ⟨⟨p0, p1, p2, p3⟩, _⟩ := blk4_cells HP3.out
      have HLIT := Lib.hid (World.ownsRow_lit (base := w3.heap.size) (e := 5) (size := 1) w3 #[] 0 (Nat.le_refl _) (by decide) rfl)
      have HBL := Lib.hid ((Below.refl _ w3).alloc (Nat.le_refl _) (.cells #[] 5))
      go_wp2_with fail
      clear p0 p1 p2 p3
      go_loopw [6, 7, 8] (fun s v i wr => ∃ k : Nat, k ≤ u.size ∧ i = .int .i64 k ∧ s = .int .i64 (rdK x.nx x.go u.data.toList k) ∧ wr.ownsRow w3.heap.size 5 1 v (cwL x.ou x.nx x.go u.data.toList k).length (bv (cwL x.ou x.nx x.go u.data.toList k)) ∧ Below w3.heap.size w3 wr) (fun _ _ i _ => u.size - (intOf i).toNat)
      case atStart => exact ⟨0, Nat.zero_le _, rfl, rfl, HLIT.out, HBL.out⟩
      case round =>
        obtain ⟨k, hk, rfl, rfl, hown, hB⟩ := hrel
        obtain ⟨wo, rfl⟩ : ∃ wo : World, wo = wr := ⟨_, rfl⟩
        have hsz := hB.size
        by_cases hlt : k < u.size
        · have hin := HIN.out k (by simpa using hk)
          have hin2 := HIN.out (k + 1) (by simp; omega)
          have hltr : lt u[k] = true := by
            have := okL_at HOK.out (i := k) (by simpa using hlt)
            have e : u[k] = u.data.toList[k]'(by simpa using hlt) := by simp; rfl
            rw [e]
            exact this
          have hb' := of_lt hltr
          obtain ⟨d, hd⟩ : ∃ d : Nat, u[k].toNat = 97 + d := ⟨u[k].toNat - 97, by omega⟩
          have hd4 : d < 4 := by omega
          obtain ⟨f3, f4, f5, f6⟩ := HF.out
          obtain ⟨s, hs⟩ : ∃ s : Nat, rdK x.nx x.go u.data.toList k = s := ⟨(rdK x.nx x.go u.data.toList k).toNat, by omega⟩
          obtain ⟨q, hq⟩ : ∃ q : Nat, rdK x.nx x.go u.data.toList (k + 1) = q := ⟨(rdK x.nx x.go u.data.toList (k + 1)).toNat, by omega⟩
          have hsN : s < x.nx.length := by omega
          have hgd : u.data.toList.getD k 97 = u[k] := by rw [List.getD_eq_getElem?_getD, List.getElem?_eq_getElem (by simpa using hlt)]; rfl
          have hst : (x.nx.getD s []).getD d 0 = (q : Int) := by
            rw [← hq, rdK, hs]
            unfold stepA
            rw [hgd, hd, show 97 + d - 97 = d from by omega, Int.toNat_natCast]
          have hcl : cwL x.ou x.nx x.go u.data.toList (k + 1) = cwL x.ou x.nx x.go u.data.toList k ++ (oW x.ou s d).data.toList := by
            rw [cwL, hs, hgd, hd, show 97 + d - 97 = d from by omega, Int.toNat_natCast]
          have HCL := Lib.hid hcl
          have hw6 := oW_few f6 s d
          have hLL := HLL.out k
          obtain ⟨hn', ho'⟩ := HNO.out w (Below.refl _ _)
          obtain ⟨an, yn, cn', cn2, hvn, n1, n2, _, _⟩ := ll_at hn' hsN f3 hd4
          obtain ⟨ao, yo, co', co2, hvo, o1, o2⟩ := sll_at ho' (j := s) (by omega) f6 hd4
          rw [hst] at n2
          injection hvn with hvn hx1 hx2
          injection hvo with hvo hx3 hx4
          clear hx1 hx2 hx3 hx4
          subst hvn hvo
          have HLT : Hid (∀ W, Calls Try.prog 47 #[.int .u8 ((u[k].toNat : Nat) : Int)] W fun e w' => e = .returned (.int .i64 (d : Int)) ∧ w' = W) := Lib.hid (fun W => by rw [hd]; exact letterN_any d hd4 W)
          have HSS : Hid (∀ W, Below w3.heap.size w3 W → W.cell? ⟨w.heap.size, 2, none⟩ = some (.slice (some an) x.nx.length cn) ∧ W.cell? ⟨w.heap.size, 3, none⟩ = some (.slice (some ao) x.ou.length co) ∧ (W.cell? (an.add s) = some (.slice (some yn) 4 cn2) ∧ W.cell? (yn.add d) = some (.int .i64 (q : Int))) ∧ W.cell? (ao.add s) = some (.slice (some yo) 4 co2) ∧ W.cell? (yo.add d) = some (.string (oW x.ou s d))) := Lib.hid (fun W hb => by
            have hbw := HB3.out.trans (hb.mono HB3.out.size)
            obtain ⟨⟨_, _, p2, p3⟩, _⟩ := blk4_cells ((hb.block w.heap.size HL3.out).trans HP3.out)
            exact ⟨p2, p3, ⟨(hbw.cell (lt_of_cell n1)).trans n1, (hbw.cell (lt_of_cell n2)).trans n2⟩, (hbw.cell (lt_of_cell o1)).trans o1, (hbw.cell (lt_of_cell o2)).trans o2⟩)
          have HS0 := Lib.hid (HSS.out wo hB)
          have HOWN := Lib.hid (own_drewN hown 1)
          have HGE := Lib.hid (fun q hq => (hown.lt q hq).1)
          have HBO := Lib.hid hB
          have HQ := Lib.hid hq
          have s0' : (0 : Int) ≤ (s : Int) := by omega
          have s1' : (s : Int) < (x.nx.length : Int) := by omega
          have s2' : (s : Int) < (x.ou.length : Int) := by omega
          have d0' : (0 : Int) ≤ (d : Int) := by omega
          have d1' : (d : Int) < 4 := by omega
          have k0' : (0 : Int) ≤ (k : Int) := by omega
          have k1' : (k : Int) < (u.size : Int) := by omega
          have HSZ := Lib.hid (show (cwL x.ou x.nx x.go u.data.toList k).length + (oW x.ou s d).size ≤ 140737488355328 by omega)
          rw [hs]
          clear hin hin2 hltr hb' hd f3 f4 f5 f6 hsN hgd hst hcl hw6 hLL hn' ho' n1 n2 o1 o2 hown hB hq hs
          generalize oW x.ou s d = ow at *
          go_upto_region 8 with fail
          go_region_held3 (fun W => W.cell? ⟨w.heap.size, 2, none⟩ = some (.slice (some an) x.nx.length cn) ∧ W.cell? ⟨w.heap.size, 3, none⟩ = some (.slice (some ao) x.ou.length co) ∧ (W.cell? (an.add s) = some (.slice (some yn) 4 cn2) ∧ W.cell? (yn.add d) = some (.int .i64 (q : Int))) ∧ W.cell? (ao.add s) = some (.slice (some yo) 4 co2) ∧ W.cell? (yo.add d) = some (.string ow))
            (first | exact HS0.out | exact HSS.out _ HB8.out | go_keep)
            (first
              | (go_at_call 47
                 refine (HLT.out _).mono ?_
                 rintro e w7 ⟨rfl, hw7⟩
                 obtain rfl := hw7.symm)
              | (refine step_append_str (by rfl) _ _ 87 9 (by rfl) w3.heap.size 5 i0 Try.underlying87 Try.underlying9 hi hz0 hz1 hz2 _ _ _ (by rfl) HOWN.out ow (by rfl) ?_ HSZ.out ?_ ?_
                 have := HSZ.out; (unfold maxLen; omega)
                 exact hsz
                 intro v8 w8 r1 r2
                 have HB8 := Lib.hid (HBO.out.grown (grown_undrew r2) hsz HGE.out)
                 have HR8 := Lib.hid r1
                 clear r1 r2))
          have HNX : Hid (∀ m, (w8.drewN m).ownsRow w3.heap.size 5 1 v8 (cwL x.ou x.nx x.go u.data.toList (k + 1)).length (bv (cwL x.ou x.nx x.go u.data.toList (k + 1)))) := Lib.hid (fun m => by
            rw [HCL.out, List.length_append, bv_app, show ow.data.toList.length = ow.size from by rw [Array.length_toList]; rfl]
            exact own_drewN HR8.out m)
          obtain ⟨c2, _, ⟨m1, m2⟩, _, _⟩ := HSS.out w8 HB8.out
          go_upto_region 9 with fail
          go_quiet ((go_at_call 47; exact Calls.quiet_of_same (HLT.out _)))
          go_wp2_with fail
          go_roundw
          all_goals first | exact ⟨k + 1, by omega, by go_num, by rw [HQ.out], HNX.out _, below_drewN HB8.out _⟩ | ((repeat apply Exists.intro); exact ⟨⟨k + 1, by omega, by go_num, by rw [HQ.out], HNX.out _, below_drewN HB8.out _⟩, rfl⟩) | (simp [intOf]; done) | (simp [intOf]; omega) | omega
        · obtain rfl : k = u.size := by omega
          have hconv := conv_owned (P := Try.prog) (src := 87) (dst := 9) hown Try.underlying87 Try.underlying5 Try.underlying9
          have HBF := Lib.hid (HB3.out.trans (hB.mono HB3.out.size))
          have hsh := own_slice hown
          obtain ⟨Av, cv, hv⟩ := hsh
          have hl6 := HLL.out u.size
          clear hown hB
          subst hv
          by_cases hz : 2000 < (cwL x.ou x.nx x.go u.data.toList u.size).length
          · have hz2 : decide ((2000 : Int) < ((cwL x.ou x.nx x.go u.data.toList u.size).length : Int)) = true := decide_eq_true (by omega)
            rw [if_pos hz] at HA
            go_wp2_with fail
            go_ret2
            exact ⟨by rw [HA.out]; rfl, HBF.out⟩
          · have hz2 : decide ((2000 : Int) < ((cwL x.ou x.nx x.go u.data.toList u.size).length : Int)) = false := decide_eq_false (by omega)
            rw [if_neg hz] at HA
            go_wp2_with fail
            go_ret2
            exact ⟨by rw [HA.out]; rfl, HBF.out⟩
end Go.Proofs.Ytapemoehcohjgaa
namespace Go.Proofs
open Go.Shelf
def Try.lays170_ren : Go.Shelf.Ren := ⟨fun | 170 => 51 | n => n, fun | 70 => 90 | 3 => 3 | 0 => 0 | 72 => 92 | 37 => 87 | 5 => 5 | n => n, fun | n => n⟩
theorem Try.lays170 : Go.Proofs.Lays.n170 Try.prog Try.lays170_ren := {
  mixed := by kernel_rfl
  f170 := Try.func51.trans (congrArg some (by kernel_rfl))
  t0 := Try.underlying0
  a0 := Try.isAgg0
  z0 := Try.sizeOf0
  v0 := Try.zeroValue0
  t3 := Try.underlying3
  a3 := Try.isAgg3
  z3 := Try.sizeOf3
  v3 := Try.zeroValue3
  t37 := Try.underlying87
  a37 := Try.isAgg87
  z37 := Try.sizeOf87
  v37 := Try.zeroValue87
  t70 := Try.underlying90
  a70 := Try.isAgg90
  z70 := Try.sizeOf90
  v70 := Try.zeroValue90
  t72 := Try.underlying92
  a72 := Try.isAgg92
  z72 := Try.sizeOf92
  v72 := Try.zeroValue92 }
def Try.lays169_ren : Go.Shelf.Ren := ⟨fun | 169 => 52 | n => n, fun | 70 => 90 | 9 => 9 | 0 => 0 | 72 => 92 | 37 => 87 | 127 => 143 | 3 => 3 | 5 => 5 | n => n, fun | n => n⟩
theorem Try.lays169 : Go.Proofs.Lays.n169 Try.prog Try.lays169_ren := {
  mixed := by kernel_rfl
  f169 := Try.func52.trans (congrArg some (by kernel_rfl))
  t0 := Try.underlying0
  a0 := Try.isAgg0
  z0 := Try.sizeOf0
  v0 := Try.zeroValue0
  t3 := Try.underlying3
  a3 := Try.isAgg3
  z3 := Try.sizeOf3
  v3 := Try.zeroValue3
  t9 := Try.underlying9
  a9 := Try.isAgg9
  z9 := Try.sizeOf9
  v9 := Try.zeroValue9
  t37 := Try.underlying87
  a37 := Try.isAgg87
  z37 := Try.sizeOf87
  v37 := Try.zeroValue87
  t70 := Try.underlying90
  a70 := Try.isAgg90
  z70 := Try.sizeOf90
  v70 := Try.zeroValue90
  t72 := Try.underlying92
  a72 := Try.isAgg92
  z72 := Try.sizeOf92
  v72 := Try.zeroValue92
  t127 := Try.underlying143
  a127 := Try.isAgg143
  z127 := Try.sizeOf143
  v127 := Try.zeroValue143 }
theorem Try.Builder_Extra_169 : Builder.Extra Try.prog Try.lays169_ren := {
  sizeBuilder := by kernel_rfl
  liesBuilder := by kernel_rfl
  t5 := Try.underlying5
  a5 := Try.isAgg5
  z5 := Try.sizeOf5
  v5 := Try.zeroValue5
  infoByte := by kernel_rfl
  cellsByte := by kernel_rfl
  sizeByte := by kernel_rfl
  neB5 := by decide }
open Go.RowKit in
theorem Try.Builder_Len_f (B b : Nat) (bs : List Value) (w : World) (h : Lib.IsBuilderF 92 5 B b bs w) :
    Calls Try.prog 51 #[.pointer (some ⟨b, 0, none⟩)] w fun e w' => e = .returned (.int .i64 bs.length) ∧ w' = w := Any.Builder_Len_f Try.lays170 B b bs w h
open Go.RowKit in
theorem Try.Builder_String_any_k (B b : Nat) (l : List UInt8) (w : World) (h : Lib.IsBuilderF 92 5 B b (Lib.byteCells l) w) (hBw : B ≤ w.heap.size) :
    Calls Try.prog 52 #[.pointer (some ⟨b, 0, none⟩)] w fun e w' => e = .returned (.string ⟨l.toArray⟩) ∧ (Lib.IsBuilderF 92 5 B b (Lib.byteCells l) w' ∧ Below B w w' ∧ Lib.OthersKept 5 (some b) w w') := Any.Builder_String_any_k Try.lays169 Try.Builder_Extra_169 B b l w h hBw

end Go.Proofs
namespace Go.Proofs
open Go.Shelf
def Try.lays166_ren : Go.Shelf.Ren := ⟨fun | 166 => 50 | 240 => 85 | 276 => 104 | n => n, fun | 5 => 5 | 80 => 102 | 0 => 0 | 3 => 3 | 4 => 4 | 9 => 9 | 20 => 20 | 37 => 87 | 70 => 90 | 72 => 92 | 75 => 98 | 164 => 163 | n => n, fun | n => n⟩
theorem Try.lays166 : Go.Proofs.Lays.n166 Try.prog Try.lays166_ren := {
  mixed := by kernel_rfl
  f166 := Try.func50.trans (congrArg some (by kernel_rfl))
  f240 := Try.func85.trans (congrArg some (by kernel_rfl))
  f276 := Try.func104.trans (congrArg some (by kernel_rfl))
  t0 := Try.underlying0
  a0 := Try.isAgg0
  z0 := Try.sizeOf0
  v0 := Try.zeroValue0
  t3 := Try.underlying3
  a3 := Try.isAgg3
  z3 := Try.sizeOf3
  v3 := Try.zeroValue3
  t4 := Try.underlying4
  a4 := Try.isAgg4
  z4 := Try.sizeOf4
  v4 := Try.zeroValue4
  t9 := Try.underlying9
  a9 := Try.isAgg9
  z9 := Try.sizeOf9
  v9 := Try.zeroValue9
  t20 := Try.underlying20
  a20 := Try.isAgg20
  z20 := Try.sizeOf20
  v20 := Try.zeroValue20
  t37 := Try.underlying87
  a37 := Try.isAgg87
  z37 := Try.sizeOf87
  v37 := Try.zeroValue87
  t70 := Try.underlying90
  a70 := Try.isAgg90
  z70 := Try.sizeOf90
  v70 := Try.zeroValue90
  t72 := Try.underlying92
  a72 := Try.isAgg92
  z72 := Try.sizeOf92
  v72 := Try.zeroValue92
  t75 := Try.underlying98
  a75 := Try.isAgg98
  z75 := Try.sizeOf98
  v75 := Try.zeroValue98
  t164 := Try.underlying163
  a164 := Try.isAgg163
  z164 := Try.sizeOf163
  v164 := Try.zeroValue163 }
theorem Try.Builder_Extra_166 : Builder.Extra Try.prog Try.lays166_ren := {
  sizeBuilder := by kernel_rfl
  liesBuilder := by kernel_rfl
  t5 := Try.underlying5
  a5 := Try.isAgg5
  z5 := Try.sizeOf5
  v5 := Try.zeroValue5
  infoByte := by kernel_rfl
  cellsByte := by kernel_rfl
  sizeByte := by kernel_rfl
  neB5 := by decide }
open Go.RowKit in
theorem Try.wstr (B b : Nat) (bs : List Value) (s : ByteArray) (w : World) (h : Lib.IsBuilderF 92 5 B b bs w) (hlen : bs.length + s.size ≤ 140737488355328) (hBw : B ≤ w.heap.size) :
    Calls Try.prog 50 #[.pointer (some ⟨b, 0, none⟩), .string s] w fun e w' => e = .returned (.tuple #[.int .i64 s.size, .nilIface]) ∧ (Lib.BuilderAtF 92 5 B b (.pointer (some ⟨b, 0, none⟩)) (bs ++ Lib.strCells s) w' ∧ Below B w w' ∧ Lib.OthersKept 5 (some b) w w') := Any.Builder_WriteString_k Try.lays166 Try.Builder_Extra_166 B b bs s w h hlen hBw
end Go.Proofs
namespace Go.Proofs.Ytapemoehcohjgaa
open Go.RowKit
open Wd
set_option linter.unusedVariables false
abbrev Bld (B b : Nat) (l : List UInt8) (w : World) : Prop := Lib.IsBuilderF 92 5 B b (Lib.byteCells l) w
abbrev Oth8 (b : Nat) (w w' : World) : Prop := Lib.OthersKept 5 (some b) w w'
theorem bldAt_kept {T e : TypeId} {B b : Nat} {p : Value} {bs : List Value} {w w' : World} (h : Lib.BuilderAtF T e B b p bs w) (hb : Below w.heap.size w w') : Lib.BuilderAtF T e B b p bs w' := by
  obtain ⟨hB, v, hv, hown, hne⟩ := h
  refine ⟨hB, v, (hb.block b (Array.getElem?_eq_some_iff.1 hv).1).trans hv, ⟨hown.1, ?_⟩, hne⟩
  rcases hown.2 with hn | ⟨g, cap, cur, fz, hv', hbg, hg, rest⟩
  · exact .inl hn
  · exact .inr ⟨g, cap, cur, fz, hv', hbg, (hb.block g (Array.getElem?_eq_some_iff.1 hg).1).trans hg, rest⟩
theorem bld_kept {T e : TypeId} {B b : Nat} {bs : List Value} {w w' : World} (h : Lib.IsBuilderF T e B b bs w) (hb : Below w.heap.size w w') : Lib.IsBuilderF T e B b bs w' :=
  h.elim (fun x => .inl (bldAt_kept x hb)) (fun x => .inr (bldAt_kept x hb))
theorem bld_lt {T e : TypeId} {B b : Nat} {bs : List Value} {w : World} (h : Lib.IsBuilderF T e B b bs w) : B ≤ b ∧ b < w.heap.size :=
  h.elim (fun x => ⟨x.1, x.lt⟩) (fun x => ⟨x.1, x.lt⟩)
theorem oth_below {e : TypeId} {o : Option Nat} {w w' : World} (hb : Below w.heap.size w w') : Lib.OthersKept e o w w' := fun k x hk _ _ => (hb.block k (Array.getElem?_eq_some_iff.1 hk).1).trans hk
theorem byteCells_app (l m : List UInt8) : Lib.byteCells (l ++ m) = Lib.byteCells l ++ Lib.byteCells m := by simp [Lib.byteCells]
/-- what a writing of some letters leaves -/
def WrPost (B b : Nat) (l : List UInt8) (W : World) (e : Ending) (w' : World) : Prop := e = .returned (.tuple #[]) ∧ Bld B b l w' ∧ Below B W w' ∧ Oth8 b W w'

end Go.Proofs.Ytapemoehcohjgaa
namespace Go.Proofs.Ytapemoehcohjgaa
open Go.RowKit
open Wd
set_option linter.unusedVariables false
abbrev wrV (C S : Nat) : Value := .func (.func 83) #[] #[.pointer (some ⟨C, 0, none⟩), .pointer (some ⟨S, 0, none⟩)]
/-- a writer's two boxes -/
structure WrAt (w : World) (C S : Nat) (x : Co) (s : Nat) (n o : Value) : Prop where
  c : B4 w C (.int .i64 x.st) (.int .i64 x.go) n o 33
  s : w.heap[S]? = some (.cells #[.int .i64 (s : Int)] 74 (0, 0))
theorem WrAt.kept {w w' : World} {C S : Nat} {x : Co} {s : Nat} {n o : Value} (h : WrAt w C S x s n o) (hb : Below w.heap.size w w') : WrAt w' C S x s n o :=
  ⟨h.c.kept hb, (hb.block S (Array.getElem?_eq_some_iff.1 h.s).1).trans h.s⟩
theorem WrAt.iterAt {w : World} {C S : Nat} {x : Co} {s : Nat} {n o : Value} (h : WrAt w C S x s n o) {I : Nat} {u : ByteArray} {p : Nat} (hI : w.heap[I]? = some (.stringIter u p)) (q : Nat) : WrAt (w.iterAt I u q) C S x s n o := by
  have hc := h.c
  have hs := h.s
  unfold B4 at hc
  refine ⟨?_, ?_⟩
  · unfold B4
    rw [Lib.iterAt_other w I C u q (fun e => by rw [e, hI] at hc; cases hc)]
    exact hc
  · rw [Lib.iterAt_other w I S u q (fun e => by rw [e, hI] at hs; cases hs)]
    exact hs
theorem WrAt.others {w w' : World} {C S b : Nat} {x : Co} {s : Nat} {n o : Value} (h : WrAt w C S x s n o) (ho : Oth8 b w w') (hC : b < C) (hS : b < S) : WrAt w' C S x s n o :=
  ⟨ho C _ h.c (fun e => by have := Option.some.inj e; omega) (fun c fz e => by injection e with _ ht; exact absurd ht (by decide)),
   ho S _ h.s (fun e => by have := Option.some.inj e; omega) (fun c fz e => by injection e with _ ht; exact absurd ht (by decide))⟩
theorem letter_textC (k : Nat) (hk : k < 4) (w : World) : (convert 21 9 (.int .i32 (97 + (k : Int)))).run Try.prog w = .ok (.string ⟨#[UInt8.ofNat (97 + k)]⟩) w := by
  have h0 : (convert 21 9 (.int .i32 97)).run Try.prog w = .ok (.string ⟨#[97]⟩) w := by kernel_rfl
  have h1 : (convert 21 9 (.int .i32 98)).run Try.prog w = .ok (.string ⟨#[98]⟩) w := by kernel_rfl
  have h2 : (convert 21 9 (.int .i32 99)).run Try.prog w = .ok (.string ⟨#[99]⟩) w := by kernel_rfl
  have h3 : (convert 21 9 (.int .i32 100)).run Try.prog w = .ok (.string ⟨#[100]⟩) w := by kernel_rfl
  match k, hk with
  | 0, _ => exact h0
  | 1, _ => exact h1
  | 2, _ => exact h2
  | 3, _ => exact h3
set_option maxRecDepth 100000 in
set_option maxHeartbeats 1600000 in
theorem writerInB_any (n o : Value) (x : Co) (s : Nat) (w : World) :
    Calls Try.prog 49 #[.agg #[.int .i64 x.st, .int .i64 x.go, n, o], .int .i64 (s : Int)] w fun e w' => ∃ C S, e = .returned (wrV C S) ∧ w.heap.size ≤ C ∧ w.heap.size ≤ S ∧ WrAt w' C S x s n o ∧ Below w.heap.size w w' := by
  have hmf : ∀ (fn : Fn) (first cap : Array Value) (w : World), (Instr.makeFunc fn first cap).run Try.prog w = .ok (.func fn first cap) w := fun _ _ _ _ => rfl
  have hb : Below w.heap.size w ((w.alloc (.cells #[.int .i64 x.st, .int .i64 x.go, n, o] 33)).alloc (.cells #[.int .i64 (s : Int)] 74)) := ((Below.refl _ w).alloc (Nat.le_refl _) _).alloc (by simp) _
  have hP : B4 ((w.alloc (.cells #[.int .i64 x.st, .int .i64 x.go, n, o] 33)).alloc (.cells #[.int .i64 (s : Int)] 74)) w.heap.size (.int .i64 x.st) (.int .i64 x.go) n o 33 := (B4.new w _ _ _ _ _).alloc _
  have hQ := heap_alloc_new (w.alloc (.cells #[.int .i64 x.st, .int .i64 x.go, n, o] 33)) (.cells #[.int .i64 (s : Int)] 74)
  rw [show (w.alloc (.cells #[.int .i64 x.st, .int .i64 x.go, n, o] 33)).heap.size = w.heap.size + 1 from by simp] at hQ
  have HR : Hid (WrAt ((w.alloc (.cells #[.int .i64 x.st, .int .i64 x.go, n, o] 33)).alloc (.cells #[.int .i64 (s : Int)] 74)) w.heap.size (w.heap.size + 1) x s n o) := Lib.hid ⟨hP, hQ⟩
  have HB := Lib.hid hb
  clear hb hP hQ
  go_enter Try.func49, Try.ntmps49
  go_wp2_with fail
  go_ret
  exact ⟨_, _, rfl, Nat.le_refl _, Nat.le_succ _, HR.out, HB.out⟩
set_option maxRecDepth 100000 in
set_option maxHeartbeats 6400000 in
theorem writeB_any (C S : Nat) (n o : Value) (x : Co) (s d q : Nat) (b : UInt8) (w : World) (hv : cOk x = true) (hs : s < x.nx.length) (hd : d < 4) (hb : (b.toNat : Int) = (d : Int) + 97) (hq : (x.nx.getD s []).getD d 0 = (q : Int)) (hCS : WrAt w C S x s n o) (hN : IsLL w n x.nx) (hO : IsSLL w o x.ou) :
    Calls Try.prog 83 #[.string ⟨#[b]⟩, .pointer (some ⟨C, 0, none⟩), .pointer (some ⟨S, 0, none⟩)] w fun e w' => ∃ C' S', e = .returned (.tuple #[.string (oW x.ou s d), wrV C' S']) ∧ w.heap.size ≤ C' ∧ w.heap.size ≤ S' ∧ WrAt w' C' S' x q n o ∧ Below w.heap.size w w' := by
  obtain ⟨hC, hS0⟩ := hCS
  have hS : w.cell? ⟨S, 0, none⟩ = some (.int .i64 (s : Int)) := by rw [cell_of_row _ _ _ _ _ _ hS0]; rfl
  obtain ⟨h1, h2, h3, h4, h5, h6⟩ := cOk_facts hv
  have HIX := Lib.hid (fun W => idx_letter b d hb hd W)
  obtain ⟨an, yn, cn, cn2, hn, n1, n2, n3, n4⟩ := ll_at hN hs h3 hd
  obtain ⟨ao, yo, co, co2, ho, o1, o2⟩ := sll_at hO (j := s) (by omega) h6 hd
  rw [hq] at n2 n3 n4
  have HWI := Lib.hid (fun W (hb : Below w.heap.size w W) => writerInB_any n o x q W)
  subst hn ho
  obtain ⟨⟨p0, p1, p2, p3⟩, _⟩ := blk4_cells hC
  have HS : Hid (∀ W, Below w.heap.size w W → (W.cell? ⟨C, 0, none⟩ = some (.int .i64 x.st) ∧ W.cell? ⟨C, 1, none⟩ = some (.int .i64 x.go) ∧ W.cell? ⟨C, 2, none⟩ = some (.slice (some an) x.nx.length cn) ∧ W.cell? ⟨C, 3, none⟩ = some (.slice (some ao) x.ou.length co)) ∧ W.cell? ⟨S, 0, none⟩ = some (.int .i64 (s : Int)) ∧ (W.cell? (an.add s) = some (.slice (some yn) 4 cn2) ∧ W.cell? (yn.add d) = some (.int .i64 (q : Int))) ∧ W.cell? (ao.add s) = some (.slice (some yo) 4 co2) ∧ W.cell? (yo.add d) = some (.string (oW x.ou s d))) := Lib.hid (fun W hb =>
    ⟨⟨(hb.cell (lt_of_cell p0)).trans p0, (hb.cell (lt_of_cell p1)).trans p1, (hb.cell (lt_of_cell p2)).trans p2, (hb.cell (lt_of_cell p3)).trans p3⟩, (hb.cell (lt_of_cell hS)).trans hS, ⟨(hb.cell (lt_of_cell n1)).trans n1, (hb.cell (lt_of_cell n2)).trans n2⟩, (hb.cell (lt_of_cell o1)).trans o1, (hb.cell (lt_of_cell o2)).trans o2⟩)
  have s0 : (0 : Int) ≤ (s : Int) := by omega
  have s1 : (s : Int) < (x.nx.length : Int) := by omega
  have s2 : (s : Int) < (x.ou.length : Int) := by omega
  have d0 : (0 : Int) ≤ (d : Int) := by omega
  have d1 : (d : Int) < 4 := by omega
  have HS0 := Lib.hid (HS.out w (Below.refl _ _))
  obtain ⟨st, go, nx, ou⟩ := x
  simp only at *
  generalize oW ou s d = ow at *
  generalize nx.length = N at *
  generalize ou.length = N2 at *
  clear hv hC hS0 hN hO hS hq n3 n4 h1 h2 h3 h4 h5 h6 hb n1 n2 o1 o2 hs
  go_enter Try.func83, Try.ntmps83
  go_wp2_with fail
  refine (HIX.out _).mono ?_
  rintro e w1 ⟨rfl, rfl⟩
  go_upto_region 2 with fail
  go_region_held3 (fun W => (W.cell? ⟨C, 0, none⟩ = some (.int .i64 st) ∧ W.cell? ⟨C, 1, none⟩ = some (.int .i64 go) ∧ W.cell? ⟨C, 2, none⟩ = some (.slice (some an) N cn) ∧ W.cell? ⟨C, 3, none⟩ = some (.slice (some ao) N2 co)) ∧ W.cell? ⟨S, 0, none⟩ = some (.int .i64 (s : Int)) ∧ (W.cell? (an.add s) = some (.slice (some yn) 4 cn2) ∧ W.cell? (yn.add d) = some (.int .i64 (q : Int))) ∧ W.cell? (ao.add s) = some (.slice (some yo) 4 co2) ∧ W.cell? (yo.add d) = some (.string ow))
    (first | exact HS0.out | exact HS.out _ HB7.out | go_keep)
    (first
      | (go_at_call 49
         refine (HWI.out _ (below_drewN (Below.refl _ _) 1)).mono ?_
         rintro e w7 ⟨C', S', rfl, hc7, hs7, hy, hB7⟩
         have hB7 := below_undrewC hB7
         have HB7 := Lib.hid hB7
         have HY := Lib.hid (And.intro hc7 (And.intro hs7 hy))
         clear hy hB7 hc7 hs7))
  go_wp2_with fail
  go_ret2
  exact ⟨_, _, rfl, HY.out.1, HY.out.2.1, HY.out.2.2, HB7.out⟩
set_option maxRecDepth 100000 in
set_option maxHeartbeats 3200000 in
theorem implCodeWord (v : Value) (x : Co) (u : ByteArray) (w : World) (hf : FewC x) (hum : u.size ≤ maxLen) (h : IsCo w v x) :
    Calls Try.prog 17 #[v, .string u] w fun e w' => e = .returned (.tuple #[.string (cwA x u).1, .int .i64 (cwA x u).2]) ∧ Below w.heap.size w w' := by
  have HVC := Lib.hid (fun W (hb : Below w.heap.size w W) => implValidCoder v x W hf (h.kept hb))
  obtain ⟨n, o, rfl, hN, hO⟩ := h
  have hb := (Below.refl _ w).alloc (Nat.le_refl _) (.cells #[.int .i64 x.st, .int .i64 x.go, n, o] 33)
  have HP := Lib.hid (B4.new w (.int .i64 x.st) (.int .i64 x.go) n o 33)
  have HW := Lib.hid (fun W => implOk u W hum)
  have HB := Lib.hid hb
  have HNO := Lib.hid (fun W (hW : Below w.heap.size w W) => And.intro (hN.kept hW) (hO.kept hW))
  have HWS : Hid (w.heap.size < (w.alloc (.cells #[.int .i64 x.st, .int .i64 x.go, n, o] 33)).heap.size) := Lib.hid (by simp)
  obtain ⟨An, cn, hnv, _⟩ := id hN
  obtain ⟨Ao, co, hov, _⟩ := id hO
  subst hnv hov
  obtain ⟨⟨p0, p1, p2, p3⟩, _⟩ := blk4_cells HP.out
  clear hb hN hO
  cases hc : cOk x
  · rw [hc] at HVC
    have HA : Hid (cwA x u = (⟨#[]⟩, 1)) := Lib.hid (by unfold cwA; rw [if_neg (by rw [hc]; simp)])
    clear hc
    go_enter Try.func17, Try.ntmps17
    go_wp2_with fail
    refine (HVC.out _ HB.out).mono ?_
    rintro e w3 ⟨rfl, hB3⟩
    have HB3 := Lib.hid (HB.out.trans (hB3.mono HB.out.size))
    clear hB3 p0 p1 p2 p3
    go_wp2_with fail
    go_ret2
    exact ⟨by rw [HA.out]; rfl, HB3.out⟩
  · rw [hc] at HVC
    cases hok : okL u.data.toList
    · rw [hok] at HW
      have HA : Hid (cwA x u = (⟨#[]⟩, 1)) := Lib.hid (by unfold cwA; rw [if_neg (by rw [hok]; simp)])
      clear hc hok
      go_enter Try.func17, Try.ntmps17
      go_wp2_with fail
      refine (HVC.out _ HB.out).mono ?_
      rintro e w3 ⟨rfl, hB3⟩
      have HB3 := Lib.hid (HB.out.trans (hB3.mono HB.out.size))
      clear hB3 p0 p1 p2 p3
      go_wp2_with fail
      refine (HW.out _).mono ?_
      rintro e w4 ⟨rfl, rfl⟩
      go_wp2_with fail
      go_ret2
      exact ⟨by rw [HA.out]; rfl, HB3.out⟩
    · rw [hok] at HW
      have HA : Hid (cwA x u = if 2000 < (cwL x.ou x.nx x.go u.data.toList u.size).length then (⟨#[]⟩, 3) else (⟨(cwL x.ou x.nx x.go u.data.toList u.size).toArray⟩, 0)) := Lib.hid (by unfold cwA; rw [if_pos (by rw [hc, hok]; rfl)])
      obtain ⟨h1, h2, h3, h4, h5, h6⟩ := cOk_facts hc
      have HIN := Lib.hid (fun k (hk : k ≤ u.data.toList.length) => rdK_in (l := u.data.toList) h3 h4 h2 hok k hk)
      have HF := Lib.hid (And.intro h3 (And.intro h4 (And.intro h5 h6)))
      have HOK := Lib.hid hok
      have HV := Lib.hid hc
      have HLL := Lib.hid (fun k => cwL_len (nx := x.nx) (go := x.go) (l := u.data.toList) h6 k)
      have hus : u.size ≤ 2000 := by
        have := hok
        unfold okL at this
        rw [Bool.and_eq_true, decide_eq_true_eq] at this
        simpa using this.1
      obtain ⟨gg, hgg⟩ : ∃ gg : Nat, x.go = gg := ⟨x.go.toNat, by omega⟩
      have HGG := Lib.hid hgg
      clear hgg hc hok h1 h2 h3 h4 h5 h6
      go_enter Try.func17, Try.ntmps17
      go_wp2_with fail
      refine (HVC.out _ HB.out).mono ?_
      rintro e w3 ⟨rfl, hB3⟩
      have HB3 := Lib.hid (HB.out.trans (hB3.mono HB.out.size))
      have HP3 := Lib.hid (HP.out.kept hB3)
      have HL3 : Hid (w.heap.size < w3.heap.size) := Lib.hid (Nat.lt_of_lt_of_le HWS.out hB3.size)
      clear hB3 p0 p1 p2 p3
      go_wp2_with fail
      refine (HW.out _).mono ?_
      rintro e w4 ⟨rfl, rfl⟩
      go_upto_region 4 with fail
      obtain ⟨b, hbe⟩ : ∃ b, b = w3.heap.size := ⟨_, rfl⟩
      have hb4 := (Below.refl _ w3).alloc (Nat.le_refl _) (.cells #[.pointer none, .slice none 0 0] 92)
      have hbd : Bld w3.heap.size w3.heap.size [] (w3.alloc (.cells #[.pointer none, .slice none 0 0] 92)) := Lib.IsBuilderF.of (Lib.fresh_isBuilder _ _ w3)
      rw [← hbe] at hb4 hbd ⊢
      have HWB : Hid (∀ W, Below b w3 W → Below w.heap.size w W) := Lib.hid (fun W h => HB3.out.trans (h.mono (by rw [hbe]; exact HB3.out.size)))
      have HPB : Hid (∀ W, Below b w3 W → B4 W w.heap.size (.int .i64 x.st) (.int .i64 x.go) (.slice An x.nx.length cn) (.slice Ao x.ou.length co) 33) := Lib.hid (fun W h => (h.block w.heap.size (by rw [hbe]; exact HL3.out)).trans HP3.out)
      have HBD := Lib.hid hbd
      have HB4 := Lib.hid hb4
      have HBS : Hid (b < (w3.alloc (.cells #[.pointer none, .slice none 0 0] 92)).heap.size) := Lib.hid (by rw [hbe]; simp)
      clear hb4 hbd hbe
      generalize w3.alloc (.cells #[.pointer none, .slice none 0 0] 92) = w4 at *
      have HWI := Lib.hid (writerInB_any (.slice An x.nx.length cn) (.slice Ao x.ou.length co) x gg w4)
      obtain ⟨⟨p0, p1, p2, p3⟩, _⟩ := blk4_cells (HPB.out w4 HB4.out)
      rw [← HGG.out] at HWI
      go_wp2_with fail
      refine HWI.out.mono ?_
      rintro e w5 ⟨C0, S0, rfl, hc5, hs5, hwr5, hB5⟩
      have HB5 := Lib.hid (HB4.out.trans (hB5.mono (Nat.le_of_lt HBS.out)))
      have HBD5 := Lib.hid (bld_kept HBD.out hB5)
      have HWR5 := Lib.hid hwr5
      have HC5 := Lib.hid (And.intro (Nat.lt_of_lt_of_le HBS.out hc5) (Nat.lt_of_lt_of_le HBS.out hs5))
      have HS5 := Lib.hid (Nat.lt_of_lt_of_le HBS.out hB5.size)
      clear hc5 hs5 hwr5 hB5 p0 p1 p2 p3
      go_wp2_with fail
      have hI0 := World.iter_heap w5 u 0
      have hit : Below w5.heap.size w5 (w5.iter u 0) := (Below.refl _ w5).alloc (Nat.le_refl _) (.stringIter u 0)
      have HBI := Lib.hid (HB5.out.trans (hit.mono (Nat.le_of_lt HS5.out)))
      have HBDI := Lib.hid (bld_kept HBD5.out hit)
      have HWRI := Lib.hid (HWR5.out.kept hit)
      have HII := Lib.hid hI0
      obtain ⟨I, hI⟩ : ∃ I, I = w5.heap.size := ⟨_, rfl⟩
      rw [← hI] at HII ⊢
      have HIB : Hid (b < I) := Lib.hid (by rw [hI]; exact HS5.out)
      clear hI0 hit hI
      generalize w5.iter u 0 = w6 at *
      go_loopw [7] (fun v wr => ∃ k : Nat, k ≤ u.size ∧ ∃ (C S s : Nat), v = wrV C S ∧ rdK x.nx x.go u.data.toList k = s ∧ WrAt wr C S x s (.slice An x.nx.length cn) (.slice Ao x.ou.length co) ∧ (b < C ∧ b < S) ∧ Bld b b (cwL x.ou x.nx x.go u.data.toList k) wr ∧ wr.heap[I]? = some (.stringIter u k) ∧ Below b w3 wr) (fun _ wr => u.size - wr.iterPos I)
      case atStart => exact ⟨0, Nat.zero_le _, C0, S0, gg, rfl, HGG.out, HWRI.out, HC5.out, HBDI.out, HII.out, HBI.out⟩
      case round =>
        obtain ⟨k, hk, C, S, s, rfl, hs, hwr, hCS, hbd, hit, hB⟩ := hrel
        obtain ⟨wo, rfl⟩ : ∃ wo : World, wo = wr := ⟨_, rfl⟩
        have hms := iterPos_of hit
        by_cases hlt : k < u.size
        · have hin2 := HIN.out (k + 1) (by simp; omega)
          have hin1 := HIN.out k (by simp; omega)
          have hltr : lt u[k] = true := by
            have := okL_at HOK.out (i := k) (by simpa using hlt)
            have e : u[k] = u.data.toList[k]'(by simpa using hlt) := by simp; rfl
            rw [e]
            exact this
          have hb' := of_lt hltr
          obtain ⟨d, hd⟩ : ∃ d : Nat, u[k].toNat = 97 + d := ⟨u[k].toNat - 97, by omega⟩
          have hd4 : d < 4 := by omega
          obtain ⟨f3, f4, f5, f6⟩ := HF.out
          obtain ⟨q, hq⟩ : ∃ q : Nat, rdK x.nx x.go u.data.toList (k + 1) = q := ⟨(rdK x.nx x.go u.data.toList (k + 1)).toNat, by omega⟩
          have hsN : s < x.nx.length := by omega
          have hgd : u.data.toList.getD k 97 = u[k] := by rw [List.getD_eq_getElem?_getD, List.getElem?_eq_getElem (by simpa using hlt)]; rfl
          have hst : (x.nx.getD s []).getD d 0 = (q : Int) := by
            rw [← hq, rdK, hs]
            unfold stepA
            rw [hgd, hd, show 97 + d - 97 = d from by omega, Int.toNat_natCast]
          have hcl : cwL x.ou x.nx x.go u.data.toList (k + 1) = cwL x.ou x.nx x.go u.data.toList k ++ (oW x.ou s d).data.toList := by
            rw [cwL, hs, hgd, hd, show 97 + d - 97 = d from by omega, Int.toNat_natCast]
          have HCL := Lib.hid hcl
          have hw6 := oW_few f6 s d
          have hLL := HLL.out k
          have hnx : ∀ ty, (Instr.next (.pointer (some ⟨I, 0, none⟩)) true ty).run Try.prog wo = .ok (.tuple #[.bool true, .int .i64 k, .int .i32 (97 + (d : Int))]) (wo.iterAt I u (k + 1)) := fun ty => by
            rw [Lib.run_next_ascii_at wo I u k ty hit hlt (by rw [hd]; omega), hd]
            simp
          have hB7 := Lib.below_iterAt hB (Nat.le_of_lt HIB.out) u (k + 1)
          have HB7 := Lib.hid hB7
          have HBD7 := Lib.hid (hbd.iterAt hit (k + 1))
          have HIT7 := Lib.hid (Lib.iterAt_heap wo I u k (k + 1) hit)
          have hwr7 := hwr.iterAt hit (k + 1)
          obtain ⟨hn', ho'⟩ := HNO.out _ (HWB.out _ hB7)
          obtain ⟨bb, hbb⟩ : ∃ bb, bb = UInt8.ofNat (97 + d) := ⟨_, rfl⟩
          have HWRT := Lib.hid (writeB_any C S _ _ x s d q bb _ HV.out hsN hd4 (by rw [hbb]; simp; omega) hst hwr7 hn' ho')
          have HCV : ∀ W, (convert 21 9 (.int .i32 (97 + (d : Int)))).run Try.prog W = .ok (.string ⟨#[bb]⟩) W := fun W => by rw [hbb]; exact letter_textC d hd4 W
          have HQ := Lib.hid hq
          have HSZ := Lib.hid (show (Lib.byteCells (cwL x.ou x.nx x.go u.data.toList k)).length + (oW x.ou s d).size ≤ 140737488355328 by rw [Lib.byteCells_length]; omega)
          have hbs : b < wo.heap.size := (bld_lt hbd).2
          have HBS7 : Hid (b < (wo.iterAt I u (k + 1)).heap.size) := Lib.hid (by rw [Lib.iterAt_size]; exact hbs)
          clear hbb hin1 hin2 hltr hb' hd f3 f4 f5 f6 hsN hgd hst hcl hw6 hLL hn' ho' hwr7 hB7 hbd hwr hB hit hq hs hbs
          generalize oW x.ou s d = ow at *
          generalize wo.iterAt I u (k + 1) = w7 at *
          go_wp2_with fail
          refine HWRT.out.mono ?_
          rintro e w8 ⟨C', S', rfl, hc8, hs8, hwr8, hB8⟩
          have HB8 := Lib.hid (HB7.out.trans (hB8.mono (Nat.le_of_lt HBS7.out)))
          have HBD8 := Lib.hid (bld_kept HBD7.out hB8)
          have HWR8 := Lib.hid hwr8
          have HC8 := Lib.hid (And.intro (Nat.lt_of_lt_of_le HBS7.out hc8) (Nat.lt_of_lt_of_le HBS7.out hs8))
          have HIT8 := Lib.hid ((hB8.block I (Array.getElem?_eq_some_iff.1 HIT7.out).1).trans HIT7.out)
          have HBS8 := Lib.hid (Nat.lt_of_lt_of_le HBS7.out hB8.size)
          clear hc8 hs8 hwr8 hB8
          go_wp2_with fail
          refine (Try.wstr b b _ ow w8 HBD8.out HSZ.out (Nat.le_of_lt HBS8.out)).mono ?_
          rintro e w9 ⟨rfl, hbd9, hB9, hO9⟩
          have HB9 := Lib.hid (HB8.out.trans hB9)
          have HBD9 : Hid (Bld b b (cwL x.ou x.nx x.go u.data.toList (k + 1)) w9) := Lib.hid (by rw [HCL.out]; exact .inr (by rw [byteCells_app]; exact hbd9))
          have HIT9 := Lib.hid (Lib.OthersKept.iter hO9 HIT8.out (by have := HIB.out; omega))
          have HWR9 := Lib.hid (HWR8.out.others hO9 HC8.out.1 HC8.out.2)
          clear hbd9 hB9 hO9
          go_wp2_with fail
          go_roundw
          all_goals first | exact ⟨k + 1, by omega, C', S', q, rfl, HQ.out, HWR9.out, HC8.out, HBD9.out, HIT9.out, HB9.out⟩ | ((repeat apply Exists.intro); exact ⟨⟨k + 1, by omega, C', S', q, rfl, HQ.out, HWR9.out, HC8.out, HBD9.out, HIT9.out, HB9.out⟩, rfl⟩) | (have := iterPos_of HIT9.out; omega)
        · obtain rfl : k = u.size := by omega
          have hnx : ∀ ty, (Instr.next (.pointer (some ⟨I, 0, none⟩)) true ty).run Try.prog wo = .ok (.tuple #[.bool false]) wo := fun ty => Lib.run_next_end_at wo I u u.size ty hit (by omega)
          have HLN := Lib.hid (Try.Builder_Len_f b b _ wo hbd)
          rw [Lib.byteCells_length] at HLN
          have HST := Lib.hid (fun h => Try.Builder_String_any_k b b (cwL x.ou x.nx x.go u.data.toList u.size) wo hbd h)
          have HBF := Lib.hid (HWB.out _ hB)
          have HBS := Lib.hid (Nat.le_of_lt (bld_lt hbd).2)
          have HBB := Lib.hid hB
          clear hbd hwr hit hB
          by_cases hz : 2000 < (cwL x.ou x.nx x.go u.data.toList u.size).length
          · have hz2 : decide ((2000 : Int) < ((cwL x.ou x.nx x.go u.data.toList u.size).length : Int)) = true := decide_eq_true (by omega)
            rw [if_pos hz] at HA
            go_wp2_with fail
            refine HLN.out.mono ?_
            rintro e w9 ⟨rfl, hw9⟩
            obtain rfl := hw9.symm
            go_wp2_with fail
            go_ret2
            exact ⟨by rw [HA.out]; rfl, HBF.out⟩
          · have hz2 : decide ((2000 : Int) < ((cwL x.ou x.nx x.go u.data.toList u.size).length : Int)) = false := decide_eq_false (by omega)
            rw [if_neg hz] at HA
            go_wp2_with fail
            refine HLN.out.mono ?_
            rintro e w9 ⟨rfl, hw9⟩
            obtain rfl := hw9.symm
            go_wp2_with fail
            refine (HST.out HBS.out).mono ?_
            rintro e w10 ⟨rfl, _, hB10, _⟩
            have HBG := Lib.hid (HWB.out _ (HBB.out.trans hB10))
            clear hB10
            go_wp2_with fail
            go_ret2
            exact ⟨by rw [HA.out]; rfl, HBG.out⟩
end Go.Proofs.Ytapemoehcohjgaa
