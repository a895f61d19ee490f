/-
  Walk: impl.AutoText.
-/
import Derived.Test.YtcaeihdfljljbaaDoorAtS
import Derived.Test.YtcaeihdfljljbaaDoorAuI3
namespace Go.Proofs.YtcaeihdfljljbaaDoor
open Go.RowKit
open Wd
set_option linter.unusedVariables false
/-- two numbers, in new memory -/
theorem twoL (W : World) (a b : Int) : IsL (W.alloc (.cells #[.int .i64 a, .int .i64 b] 2)) (.slice (some ⟨W.heap.size, 0, none⟩) 2 2) [a, b] := by
  refine ⟨some ⟨W.heap.size, 0, none⟩, 2, rfl, .inr ⟨_, rfl, fun j hj => ?_⟩⟩
  simp only [List.length_cons, List.length_nil] at hj
  have key : ∀ o, (W.alloc (.cells #[.int .i64 a, .int .i64 b] 2)).cell? ⟨W.heap.size, o, none⟩ = (#[Value.int .i64 a, Value.int .i64 b] : Array Value)[o]? := fun o => cell_of_row _ _ _ _ _ _ (heap_alloc_new W _)
  obtain rfl | rfl : j = 0 ∨ j = 1 := by omega
  · exact key 0
  · exact key 1
theorem twoLd (W : World) (a b : Int) : IsL ((W.alloc (.cells #[.int .i64 a, .int .i64 b] 2)).drew) (.slice (some ⟨W.heap.size, 0, none⟩) 2 2) [a, b] := (twoL W a b).kept (below_drewN (Below.refl _ _) 1)
set_option maxRecDepth 100000 in
set_option maxHeartbeats 6400000 in
theorem implAutoText (v : Value) (x : Au) (w : World) (hf : FewA x) (hx : IsAu w v x) (ht : Pow10 w) :
    Calls Tryd.prog 23 #[v] w fun e w' => e = .returned (.string (if aOk x = true then atT x else ⟨#[]⟩)) ∧ Below w.heap.size w w' := by
  have HX := Lib.hid (fun W (hb : Below w.heap.size w W) => hx.kept hb)
  have HV := Lib.hid (fun W u (h : IsAu W u x) => implValidAuto u x W hf h)
  obtain ⟨f, nv, rfl, hF, hN⟩ := hx
  obtain ⟨st, go, fin, nx⟩ := x
  obtain ⟨f1, f2, f3⟩ := hf
  simp only at hF hN f1 f2 f3
  obtain ⟨Af, cf, rfl⟩ := hF.shape
  obtain ⟨An, cn, rfl, hNI⟩ := hN
  have hb := (Below.refl _ w).alloc (Nat.le_refl _) (.cells #[.int .i64 st, .int .i64 go, .slice Af fin.length cf, .slice An nx.length cn] 56)
  have hP := heap_alloc_new w (.cells #[.int .i64 st, .int .i64 go, .slice Af fin.length cf, .slice An nx.length cn] 56)
  have HB := Lib.hid hb
  have HP := Lib.hid hP
  have HW := Lib.hid (show w.heap.size < (w.alloc (.cells #[.int .i64 st, .int .i64 go, .slice Af fin.length cf, .slice An nx.length cn] 56)).heap.size by simp)
  have HF := Lib.hid (fun W (hb : Below w.heap.size w W) => hF.kept hb)
  have HTB := Lib.hid (fun W (hb : Below w.heap.size w W) => ht.kept hb)
  have HNI := Lib.hid hNI
  cases hok : aOk ⟨st, go, fin, nx⟩
  · rw [hok] at HV
    rw [if_neg (by decide)]
    clear hb hP hok hF hNI ht
    go_enter Tryd.func23, Tryd.ntmps23
    go_wp2_with fail
    refine (HV.out _ _ (HX.out _ HB.out)).mono ?_
    rintro e w1 ⟨rfl, hB1⟩
    have HB1 := Lib.hid (HB.out.trans (hB1.mono (Nat.le_of_lt HW.out)))
    clear hB1
    go_wp2_with fail
    go_ret
    exact ⟨rfl, HB1.out⟩
  · have hoa := OkA.of hok
    rw [hok] at HV
    rw [if_pos rfl]
    obtain ⟨k1, k2, k3, k4⟩ := hoa
    simp only at k1 k2 k3 k4
    have hHS := hdT_size st go fin (by omega) k2 k3 f1
    have hAT : hdT st go fin ++ rowsT nx = atT ⟨st, go, fin, nx⟩ := rfl
    have HAT := Lib.hid hAT
    have HRS := Lib.hid (fun k => rowsT_size (nx.take k) (fun r hr => ⟨k4 r (List.mem_of_mem_take hr), f3 r (List.mem_of_mem_take hr)⟩))
    have HTA := Lib.hid (fun W u (hb : Below w.heap.size w W) (h : IsL W u [st, go]) => textLine_any ⟨#[97, 117, 116, 111]⟩ u [st, go] W (by decide) (by simp) (by intro z hz; simp at hz; rcases hz with rfl | rfl <;> omega) h (HTB.out W hb))
    have HTF := Lib.hid (fun W (hb : Below w.heap.size w W) => textLine_any ⟨#[102, 105, 110, 97, 108, 115]⟩ _ fin W (by decide) f1 k3 (HF.out W hb) (HTB.out W hb))
    have sA := lineT_size ⟨#[97, 117, 116, 111]⟩ [st, go] (by decide) (by intro z hz; simp at hz; rcases hz with rfl | rfl <;> omega) (by simp)
    have sF := lineT_size ⟨#[102, 105, 110, 97, 108, 115]⟩ fin (by decide) k3 f1
    have HR := Lib.hid (fun W (hb : Below w.heap.size w W) u r (hr : r ∈ nx) (h : IsL w u r) => textLine_any ⟨#[115, 116, 97, 116, 101]⟩ u r W (by decide) (f3 r hr) (k4 r hr) (h.kept hb) (HTB.out W hb))
    have HH : Hid (lineT ⟨#[97, 117, 116, 111]⟩ [st, go] ++ lineT ⟨#[102, 105, 110, 97, 108, 115]⟩ fin = hdT st go fin) := Lib.hid rfl
    have H3 := Lib.hid (And.intro k4 f3)
    clear hb hP hok hF hNI ht hAT k1 k2 k3 k4 f1 f3
    go_enter Tryd.func23, Tryd.ntmps23
    go_wp2_with fail
    refine (HV.out _ _ (HX.out _ HB.out)).mono ?_
    rintro e w1 ⟨rfl, hB1⟩
    have HP1 := Lib.hid ((hB1.block w.heap.size HW.out).trans HP.out)
    have HB1 := Lib.hid (HB.out.trans (hB1.mono (Nat.le_of_lt HW.out)))
    have HS1 : Hid (w.heap.size < w1.heap.size) := Lib.hid (by have := hB1.size; have := HW.out; omega)
    have HK := Lib.hid (fun W (hb : Below w1.heap.size w1 W) => (blk4_cells ((hb.block w.heap.size HS1.out).trans HP1.out)).1)
    obtain ⟨p0, p1, p2, p3⟩ := HK.out w1 (Below.refl _ _)
    clear hB1 HV HX HP HB HW
    go_upto_region 3 with fail
    go_cut [3] (fun s wx => s = .string (hdT st go fin) ∧ Below w1.heap.size w1 wx)
    case first =>
      have HC := Lib.hid (And.intro p0 (And.intro p1 p2))
      have HB := Lib.hid (Below.refl w1.heap.size w1)
      have HK3 := Lib.hid (fun W (hb : Below w1.heap.size w1 W) => And.intro (HK.out W hb).1 (And.intro (HK.out W hb).2.1 (HK.out W hb).2.2.1))
      have HTA : Hid (∀ W u, Below w1.heap.size w1 W → IsL W u [st, go] → _) := Lib.hid (fun W u hb h => HTA.out W u (HB1.out.trans (hb.mono HB1.out.size)) h)
      have HTF : Hid (∀ W, Below w1.heap.size w1 W → _) := Lib.hid (fun W hb => HTF.out W (HB1.out.trans (hb.mono HB1.out.size)))
      clear HRS HR HAT H3 HNI hHS HTB HF HP1 f2 p3 HK
      generalize lineT ⟨#[97, 117, 116, 111]⟩ [st, go] = LA at *
      generalize lineT ⟨#[102, 105, 110, 97, 108, 115]⟩ fin = LF at *
      have c1 : (9223372036854775807 < LA.size + LF.size) = False := by simp; omega
      clear sA sF
      go_region_held3 (fun w' => w'.cell? ⟨w.heap.size, 0, none⟩ = some (.int .i64 st) ∧ w'.cell? ⟨w.heap.size, 1, none⟩ = some (.int .i64 go) ∧ w'.cell? ⟨w.heap.size, 2, none⟩ = some (.slice Af fin.length cf))
        (first | (with_reducible exact HC.out) | (with_reducible exact HK3.out _ (HB.out.alloc HB.out.size _)) | (with_reducible go_keep) | go_keep)
        (first
          | (go_at_call_of 61 (Value.slice Af fin.length cf)
             refine (HTF.out _ ?_).mono ?_
             (first | (with_reducible exact HB.out) | (with_reducible exact HB.out.alloc HB.out.size _) | exact below_drewN (HB.out.alloc HB.out.size _) _ | exact below_drewN HB.out _)
             rintro e w6 ⟨rfl, hB6⟩
             (first | (have HTL := Lib.hid ((twoL w1 st go).kept hB6)) | (have HTL := Lib.hid ((twoL w1 st go).kept (undrewD hB6))) | skip)
             have HB := Lib.hid (show Below w1.heap.size w1 w6 from by first | (with_reducible exact HB.out.trans (hB6.mono HB.out.size)) | (with_reducible exact HB.out.trans ((undrewD hB6).mono HB.out.size)) | exact (HB.out.alloc HB.out.size _).trans (hB6.mono (HB.out.alloc HB.out.size _).size) | exact (HB.out.alloc HB.out.size _).trans ((undrewD hB6).mono (HB.out.alloc HB.out.size _).size))
             have HC := Lib.hid (HK3.out w6 HB.out)
             clear hB6)
          | (go_at_call 61
             refine (HTA.out _ _ ?_ ?_).mono ?_
             (first | (with_reducible exact HB.out) | (with_reducible exact HB.out.alloc HB.out.size _) | exact below_drewN (HB.out.alloc HB.out.size _) _)
             (first | (with_reducible exact HTL.out) | (with_reducible exact twoL _ _ _) | exact twoLd _ _ _)
             rintro e w5 ⟨rfl, hB5⟩
             have HB := Lib.hid (show Below w1.heap.size w1 w5 from by first | (with_reducible exact HB.out.trans (hB5.mono HB.out.size)) | exact (HB.out.alloc HB.out.size _).trans (hB5.mono (HB.out.alloc HB.out.size _).size) | exact (HB.out.alloc HB.out.size _).trans ((undrewD hB5).mono (HB.out.alloc HB.out.size _).size))
             have HC := Lib.hid (HK3.out w5 HB.out)
             clear hB5))
      all_goals (go_wp2_with fail; go_meet)
      all_goals exact ⟨by rw [← HH.out], HB.out⟩
    case rest =>
      obtain ⟨rfl, hBc⟩ := hcut
      generalize hdT st go fin = H at *
      have q3 := (HK.out wc hBc).2.2.2
      have HBC := Lib.hid (HB1.out.trans (hBc.mono HB1.out.size))
      obtain ⟨n, hne⟩ : ∃ n, n = nx.length := ⟨_, rfl⟩
      rw [← hne] at q3 f2
      have HN := Lib.hid hne
      clear hBc hne HTA HTF HF HTB HK HP1 p0 p1 p2 p3 HH sA sF HB1 HS1
      go_wp2_with fail
      go_loopw [3, 22] (fun s i wr => ∃ k : Nat, k ≤ n ∧ i = .int .i64 k ∧ s = .string (H ++ rowsT (nx.take k)) ∧ Below w.heap.size w wr) (fun _ i _ => n - (intOf i).toNat)
      case atStart => exact ⟨0, Nat.zero_le _, rfl, by rw [List.take_zero]; exact congrArg Value.string (ByteArray.append_empty (b := H)).symm, HBC.out⟩
      case round =>
        obtain ⟨k, hk, rfl, rfl, hB⟩ := hrel
        obtain ⟨wo, rfl⟩ : ∃ wo : World, wo = wr := ⟨_, rfl⟩
        have hsz := HRS.out k
        have hl : (nx.take k).length ≤ k := List.length_take_le _ _
        have hm : 20971621 * (nx.take k).length ≤ 20971621 * 1048576 := Nat.mul_le_mul_left _ (by omega)
        have husz : (H ++ rowsT (nx.take k)).size ≤ 30000000000000 := by rw [app_sz]; omega
        clear hsz hl hm q3
        by_cases hlt : k < n
        · have hkg : k < nx.length := by rw [← HN.out]; exact hlt
          rcases HNI.out with hn0 | ⟨x, rfl, hc⟩
          · rw [hn0] at hkg; simp at hkg
          obtain ⟨u, hu1, hu2⟩ := hc k hkg
          have d0 := (hB.cell (lt_of_cell hu1)).trans hu1
          have HQ := Lib.hid (HR.out wo hB u nx[k] (List.getElem_mem hkg) hu2)
          have hsn : H ++ rowsT (nx.take (k + 1)) = (H ++ rowsT (nx.take k)) ++ lineT ⟨#[115, 116, 97, 116, 101]⟩ nx[k] := by rw [rowsT_take nx k hkg, ByteArray.append_assoc]
          have hls := lineT_size ⟨#[115, 116, 97, 116, 101]⟩ nx[k] (by decide) (H3.out.1 _ (List.getElem_mem hkg)) (H3.out.2 _ (List.getElem_mem hkg))
          generalize H ++ rowsT (nx.take k) = U at *
          generalize nx[k] = r at *
          have HSN := Lib.hid hsn
          clear hsn hc hu1 hu2
          generalize lineT ⟨#[115, 116, 97, 116, 101]⟩ r = T at *
          have c1 : (9223372036854775807 < U.size + T.size) = False := by simp; omega
          have HB := Lib.hid hB
          clear hB
          go_wp2_with fail
          refine HQ.out.mono ?_
          rintro e w2 ⟨rfl, hB2⟩
          have HB2 := Lib.hid (HB.out.trans (hB2.mono HB.out.size))
          clear hB2
          go_wp2_with fail
          go_roundw
          all_goals first | exact ⟨k + 1, by omega, by go_num, by rw [HSN.out], HB2.out⟩ | ((repeat apply Exists.intro); exact ⟨⟨k + 1, by omega, by go_num, by rw [HSN.out], HB2.out⟩, rfl⟩) | (simp [intOf]; done) | (simp [intOf]; omega) | omega
        · obtain rfl : k = n := by omega
          have HE : Hid (H ++ rowsT (nx.take k) = H ++ rowsT nx) := Lib.hid (by rw [List.take_of_length_le (by have := HN.out; omega)])
          have HB := Lib.hid hB
          clear hB
          go_wp2_with fail
          go_ret
          exact ⟨by rw [← HAT.out, ← HE.out]; rfl, HB.out⟩
end Go.Proofs.YtcaeihdfljljbaaDoor
