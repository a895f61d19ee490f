/-
  The text of an automaton. Walks: spec.l04Text, spec.AutoText.
-/
import Derived.Test.YtcaeihdfljljbaaDoorAtM
import Derived.Test.YtcaeihdfljljbaaDoorAuOk2
import Derived.Deep.DeepCutAuto
import Derived.Test.YtcaeihdfljljbaaDoorDecS
namespace Go.Proofs.YtcaeihdfljljbaaDoor
open Go.RowKit
open Wd
set_option linter.unusedVariables false
namespace Wd
/-- the lines of the states -/
def rowsT : List (List Int) → ByteArray
  | [] => ⟨#[]⟩
  | r :: rs => lineT ⟨#[115, 116, 97, 116, 101]⟩ r ++ rowsT rs
theorem rowsT_app (a b : List (List Int)) : rowsT (a ++ b) = rowsT a ++ rowsT b := by
  induction a with
  | nil => exact (ByteArray.empty_append).symm
  | cons z zs ih =>
    show lineT _ z ++ rowsT (zs ++ b) = (lineT _ z ++ rowsT zs) ++ rowsT b
    rw [ih]
    exact (ByteArray.append_assoc).symm
theorem rowsT_one (z : List Int) : rowsT [z] = lineT ⟨#[115, 116, 97, 116, 101]⟩ z := ByteArray.append_empty
theorem rowsT_take (zs : List (List Int)) (k : Nat) (h : k < zs.length) : rowsT (zs.take (k + 1)) = rowsT (zs.take k) ++ lineT ⟨#[115, 116, 97, 116, 101]⟩ zs[k] := by
  rw [List.take_succ_eq_append_getElem h, rowsT_app, rowsT_one]
theorem lineT_size (word : ByteArray) (zs : List Int) (hw : word.size ≤ 100) (hz : SmallZ zs) (hn : zs.length ≤ 1048576) : (lineT word zs).size ≤ 20971621 := by
  unfold lineT
  rw [app_sz, app_sz]
  have h1 := listT_size zs hz
  have h2 : (⟨#[10]⟩ : ByteArray).size = 1 := rfl
  omega
theorem rowsT_size : ∀ (rs : List (List Int)), (∀ r ∈ rs, SmallZ r ∧ r.length ≤ 1048576) → (rowsT rs).size ≤ 20971621 * rs.length
  | [], _ => by decide
  | r :: rs, h => by
    have h1 := h r (by simp)
    have h2 := lineT_size ⟨#[115, 116, 97, 116, 101]⟩ r (by decide) h1.1 h1.2
    have h3 := rowsT_size rs (fun y hy => h y (by simp [hy]))
    show (lineT _ r ++ rowsT rs).size ≤ _
    rw [app_sz]
    simp only [List.length_cons]
    omega
/-- the text of an automaton -/
def hdT (st go : Int) (fin : List Int) : ByteArray := lineT ⟨#[97, 117, 116, 111]⟩ [st, go] ++ lineT ⟨#[102, 105, 110, 97, 108, 115]⟩ fin
def atT (x : Au) : ByteArray := hdT x.st x.go x.fin ++ rowsT x.nx
theorem hdT_eq (st go : Int) (fin : List Int) : (((((⟨#[97, 117, 116, 111, 32]⟩ ++ decT st.toNat) ++ ⟨#[32]⟩) ++ decT go.toNat) ++ ⟨#[10, 102, 105, 110, 97, 108, 115]⟩) ++ listT fin) ++ ⟨#[10]⟩ = hdT st go fin := by
  have e1 : (⟨#[97, 117, 116, 111, 32]⟩ : ByteArray) = ⟨#[97, 117, 116, 111]⟩ ++ ⟨#[32]⟩ := by decide
  have e2 : (⟨#[10, 102, 105, 110, 97, 108, 115]⟩ : ByteArray) = ⟨#[10]⟩ ++ ⟨#[102, 105, 110, 97, 108, 115]⟩ := by decide
  rw [e1, e2]
  unfold hdT lineT
  show _ = ((⟨#[97, 117, 116, 111]⟩ ++ ((⟨#[32]⟩ ++ decT st.toNat) ++ ((⟨#[32]⟩ ++ decT go.toNat) ++ ⟨#[]⟩))) ++ ⟨#[10]⟩) ++ ((⟨#[102, 105, 110, 97, 108, 115]⟩ ++ listT fin) ++ ⟨#[10]⟩)
  simp only [ByteArray.append_assoc, empty_app]
theorem hdT_size (st go : Int) (fin : List Int) (h1 : 0 ≤ st ∧ st ≤ 24) (h2 : 0 ≤ go ∧ go ≤ 24) (h3 : SmallZ fin) (h4 : fin.length ≤ 1048576) : (hdT st go fin).size ≤ 41943242 := by
  unfold hdT
  rw [app_sz]
  have a1 := lineT_size ⟨#[97, 117, 116, 111]⟩ [st, go] (by decide) (by intro z hz; simp at hz; rcases hz with rfl | rfl <;> omega) (by simp)
  have a2 := lineT_size ⟨#[102, 105, 110, 97, 108, 115]⟩ fin (by decide) h3 h4
  omega
/-- what a valid automaton's numbers are -/
structure OkA (x : Au) : Prop where
  st : 1 ≤ x.st ∧ x.st ≤ 24
  go : 0 ≤ x.go ∧ x.go ≤ 24
  fin : SmallZ x.fin
  nx : ∀ r ∈ x.nx, SmallZ r
theorem OkA.of {x : Au} (h : aOk x = true) : OkA x := by
  unfold aOk at h
  simp only [Bool.and_eq_true, decide_eq_true_iff] at h
  obtain ⟨⟨⟨h1, h2⟩, h3⟩, h4, h5⟩ := h
  refine ⟨h1, by omega, ?_, ?_⟩
  · intro z hz
    obtain ⟨k, hk, rfl⟩ := List.getElem_of_mem hz
    unfold risesL at h3
    have := (of_decide_eq_true h3 k hk).1
    rw [List.getD_eq_getElem?_getD, List.getElem?_eq_getElem hk, Option.getD_some] at this
    omega
  · intro r hr z hz
    have := List.all_eq_true.mp h4 r hr
    unfold rowOk at this
    simp only [Bool.and_eq_true, decide_eq_true_iff, List.all_eq_true] at this
    have := this.2 z hz
    omega
end Wd
set_option maxRecDepth 100000 in
set_option maxHeartbeats 6400000 in
theorem l04Text_any (pb : Nat) (f nv : Value) (x : Au) (w : World) (hP : w.heap[pb]? = some (.cells #[.int .i64 x.st, .int .i64 x.go, f, nv] 56 (0, 0))) (hF : IsL w f x.fin) (hN : IsLL w nv x.nx) (hf : FewA x) (hok : OkA x) :
    Calls Tryd.prog 57 #[.pointer (some ⟨pb, 0, none⟩)] w fun e w' => e = .returned (.string (atT x)) ∧ Below w.heap.size w w' := by
  obtain ⟨st, go, fin, nx⟩ := x
  obtain ⟨k1, k2, k3, k4⟩ := hok
  obtain ⟨f1, f2, f3⟩ := hf
  simp only at hP hF hN k1 k2 k3 k4 f1 f2 f3
  obtain ⟨⟨p0, p1, p2, p3⟩, _⟩ := blk4_cells hP
  have hEQ := hdT_eq st go fin
  have hHS := hdT_size st go fin (by omega) k2 k3 f1
  have hAT : hdT st go fin ++ rowsT nx = atT ⟨st, go, fin, nx⟩ := rfl
  obtain ⟨An, cn, rfl, hNI⟩ := hN
  have HK := Lib.hid (fun W (hb : Below w.heap.size w W) => And.intro ((hb.cell (lt_of_cell p0)).trans p0) (And.intro ((hb.cell (lt_of_cell p1)).trans p1) ((hb.cell (lt_of_cell p2)).trans p2)))
  have HL := Lib.hid (fun W (hb : Below w.heap.size w W) => l04List_any f fin W f1 k3 (hF.kept hb))
  have HR := Lib.hid (fun W (hb : Below w.heap.size w W) u r (hr : r ∈ nx) (h : IsL w u r) => l04List_any u r W (f3 r hr) (k4 r hr) (h.kept hb))
  have HRS := Lib.hid (fun k => rowsT_size (nx.take k) (fun r hr => ⟨k4 r (List.mem_of_mem_take hr), f3 r (List.mem_of_mem_take hr)⟩))
  have HD := Lib.hid (fun n (h : n ≤ 24) W => decN n W (by omega))
  have sL := listT_size fin k3
  obtain ⟨n, hne⟩ : ∃ n, n = nx.length := ⟨_, rfl⟩
  rw [← hne] at p3 f2
  have HN := Lib.hid hne
  have HNI := Lib.hid hNI
  have HAT := Lib.hid hAT
  have H3 := Lib.hid (And.intro p3 (And.intro k4 f3))
  clear hP hF hNI hne hAT k4 f3 p3
  obtain ⟨st, rfl⟩ : ∃ m : Nat, st = m := ⟨st.toNat, by omega⟩
  obtain ⟨go, rfl⟩ : ∃ m : Nat, go = m := ⟨go.toNat, by omega⟩
  simp only [Int.toNat_natCast] at hEQ
  have hst : st ≤ 24 := by omega
  have hgo : go ≤ 24 := by omega
  have s1 := decT_size (n := st) (by omega)
  have s2 := decT_size (n := go) (by omega)
  have HG := Lib.hid (And.intro hst hgo)
  go_enter Tryd.func57, Tryd.ntmps57
  go_upto_region 1 with fail
  go_cut [3] (fun s wx => s = .string (hdT st go fin) ∧ Below w.heap.size w wx)
  case first =>
    have HEQ := Lib.hid hEQ
    clear HR HRS HNI HN HAT H3 k1 k2 k3 hEQ hHS hst hgo
    have HC := Lib.hid (HK.out w (Below.refl _ w))
    have HB := Lib.hid (Below.refl w.heap.size w)
    generalize listT fin = L at *
    have HSZ : Hid ((decT st).size ≤ 19 ∧ (decT go).size ≤ 19 ∧ L.size ≤ 20971520) := Lib.hid ⟨s1, s2, by omega⟩
    clear s1 s2 sL f1 f2
    have c1 : (9223372036854775807 < 5 + (decT st).size) = False := by have := HSZ.out; simp; omega
    have c2 : (9223372036854775807 < 5 + (decT st).size + 1) = False := by have := HSZ.out; simp; omega
    have c3 : (9223372036854775807 < 5 + (decT st).size + 1 + (decT go).size) = False := by have := HSZ.out; simp; omega
    have c4 : (9223372036854775807 < 5 + (decT st).size + 1 + (decT go).size + 7) = False := by have := HSZ.out; simp; omega
    have c5 : (9223372036854775807 < 5 + (decT st).size + 1 + (decT go).size + 7 + L.size) = False := by have := HSZ.out; simp; omega
    have c6 : (9223372036854775807 < 5 + (decT st).size + 1 + (decT go).size + 7 + L.size + 1) = False := by have := HSZ.out; simp; omega
    go_region_held3 (fun w' => w'.cell? ⟨pb, 0, none⟩ = some (.int .i64 (st : Int)) ∧ w'.cell? ⟨pb, 1, none⟩ = some (.int .i64 (go : Int)) ∧ w'.cell? ⟨pb, 2, none⟩ = some f)
      (first | (with_reducible exact HC.out) | (with_reducible go_keep) | exact HC.out | go_keep)
      (first
        | (go_at_call 27
           refine (HD.out _ ?_ _).mono ?_
           (first | exact HG.out.1 | exact HG.out.2)
           rintro e w5 ⟨rfl, hB5⟩
           have HB := Lib.hid (show Below w.heap.size w w5 from by first | (with_reducible exact HB.out.trans (hB5.mono HB.out.size)) | (with_reducible exact HB.out.trans ((undrewD hB5).mono HB.out.size)) | exact HB.out.trans ((below_undrew hB5).mono HB.out.size))
           have HC := Lib.hid (HK.out w5 HB.out)
           clear hB5)
        | (go_at_call 87
           refine (HL.out _ ?_).mono ?_
           (first | (with_reducible exact HB.out) | (with_reducible exact below_drewD HB.out) | exact below_drewN HB.out _)
           rintro e w7 ⟨rfl, hB7⟩
           have HB := Lib.hid (show Below w.heap.size w w7 from by first | (with_reducible exact HB.out.trans (hB7.mono HB.out.size)) | (with_reducible exact HB.out.trans ((undrewD hB7).mono HB.out.size)) | exact HB.out.trans ((below_undrew hB7).mono HB.out.size))
           have HC := Lib.hid (HK.out w7 HB.out)
           clear hB7))
    all_goals (go_wp2_with fail; go_meet)
    all_goals exact ⟨by rw [← HEQ.out], HB.out⟩
  case rest =>
    obtain ⟨rfl, hBc⟩ := hcut
    generalize hdT st go fin = H at *
    have HBC := Lib.hid hBc
    clear hBc HD HG HK HL hEQ p0 p1 p2 sL s1 s2 k1 k2 k3 f1 hst hgo
    go_wp2_with fail
    go_loopw [3, 4] (fun s i wr => ∃ k : Nat, k ≤ n ∧ i = .int .i64 k ∧ s = .string (H ++ rowsT (nx.take k)) ∧ Below w.heap.size w wr) (fun _ i _ => n - (intOf i).toNat)
    case atStart => exact ⟨0, Nat.zero_le _, rfl, by rw [List.take_zero]; exact congrArg Value.string (ByteArray.append_empty (b := H)).symm, HBC.out⟩
    case round =>
      obtain ⟨k, hk, rfl, rfl, hB⟩ := hrel
      obtain ⟨wo, rfl⟩ : ∃ wo : World, wo = wr := ⟨_, rfl⟩
      have p3 := H3.out.1
      have q3 := (hB.cell (lt_of_cell p3)).trans p3
      have hsz := HRS.out k
      have hl : (nx.take k).length ≤ k := List.length_take_le _ _
      have hm : 20971621 * (nx.take k).length ≤ 20971621 * 1048576 := Nat.mul_le_mul_left _ (by omega)
      have husz : (H ++ rowsT (nx.take k)).size ≤ 30000000000000 := by rw [app_sz]; omega
      clear p3 hsz hl hm
      by_cases hlt : k < n
      · have hkg : k < nx.length := by rw [← HN.out]; exact hlt
        rcases HNI.out with hn0 | ⟨x, rfl, hc⟩
        · rw [hn0] at hkg; simp at hkg
        obtain ⟨u, hu1, hu2⟩ := hc k hkg
        have d0 := (hB.cell (lt_of_cell hu1)).trans hu1
        have HQ := Lib.hid (HR.out wo hB u nx[k] (List.getElem_mem hkg) hu2)
        have hsn : H ++ rowsT (nx.take (k + 1)) = (H ++ rowsT (nx.take k)) ++ lineT ⟨#[115, 116, 97, 116, 101]⟩ nx[k] := by rw [rowsT_take nx k hkg, ByteArray.append_assoc]
        have hrs := listT_size nx[k] (H3.out.2.1 _ (List.getElem_mem hkg))
        have hrl := H3.out.2.2 _ (List.getElem_mem hkg)
        unfold lineT at hsn
        generalize H ++ rowsT (nx.take k) = U at *
        generalize nx[k] = r at *
        have HSN := Lib.hid hsn
        have hts : (listT r).size ≤ 20971520 := by omega
        clear hsn hrs hrl hc hu1 hu2
        generalize listT r = T at *
        have c1 : (9223372036854775807 < 5 + T.size) = False := by simp; omega
        have c2 : (9223372036854775807 < 5 + T.size + 1) = False := by simp; omega
        have c3 : (9223372036854775807 < U.size + (5 + T.size + 1)) = False := by simp; omega
        have HB := Lib.hid hB
        clear hB
        go_wp2_with fail
        refine HQ.out.mono ?_
        rintro e w2 ⟨rfl, hB2⟩
        have HB2 := Lib.hid (HB.out.trans (hB2.mono HB.out.size))
        clear hB2
        go_wp2_with fail
        go_roundw
        all_goals first | exact ⟨k + 1, by omega, by go_num, by rw [HSN.out], HB2.out⟩ | ((repeat apply Exists.intro); exact ⟨⟨k + 1, by omega, by go_num, by rw [HSN.out], HB2.out⟩, rfl⟩) | (simp [intOf]; done) | (simp [intOf]; omega) | omega
      · obtain rfl : k = n := by omega
        have HE : Hid (H ++ rowsT (nx.take k) = H ++ rowsT nx) := Lib.hid (by rw [List.take_of_length_le (by have := HN.out; omega)])
        have HB := Lib.hid hB
        clear hB
        go_wp2_with fail
        go_ret
        exact ⟨by rw [← HAT.out, ← HE.out]; rfl, HB.out⟩
set_option maxRecDepth 100000 in
set_option maxHeartbeats 6400000 in
theorem specAutoText (v : Value) (x : Au) (w : World) (hf : FewA x) (hx : IsAu w v x) :
    Calls Tryd.prog 21 #[v] w fun e w' => e = .returned (.string (if aOk x = true then atT x else ⟨#[]⟩)) ∧ Below w.heap.size w w' := by
  have HX := Lib.hid (fun W (hb : Below w.heap.size w W) => hx.kept hb)
  obtain ⟨f, n, rfl, hF, hN⟩ := hx
  have hb := (Below.refl _ w).alloc (Nat.le_refl _) (.cells #[.int .i64 x.st, .int .i64 x.go, f, n] 56)
  have hP := heap_alloc_new w (.cells #[.int .i64 x.st, .int .i64 x.go, f, n] 56)
  have HV := Lib.hid (fun W (hb : Below w.heap.size w W) (hP : W.heap[w.heap.size]? = some (.cells #[.int .i64 x.st, .int .i64 x.go, f, n] 56 (0, 0))) => l04Ok_any w.heap.size f n x W hP (hF.kept hb) (hN.kept hb) hf)
  have HB := Lib.hid hb
  have HP := Lib.hid hP
  have HW := Lib.hid (show w.heap.size < (w.alloc (.cells #[.int .i64 x.st, .int .i64 x.go, f, n] 56)).heap.size by simp)
  cases hok : aOk x
  · rw [hok] at HV
    rw [if_neg (by decide)]
    clear hb hP hok hF hN
    go_enter Tryd.func21, Tryd.ntmps21
    go_wp2_with fail
    refine (HV.out _ HB.out HP.out).mono ?_
    rintro e w1 ⟨rfl, hB1⟩
    have HB1 := Lib.hid (HB.out.trans (hB1.below _))
    clear hB1
    go_wp2_with fail
    go_ret
    exact ⟨rfl, HB1.out⟩
  · rw [hok] at HV
    rw [if_pos rfl]
    have HT := Lib.hid (fun W (hb : Below w.heap.size w W) (hP : W.heap[w.heap.size]? = some (.cells #[.int .i64 x.st, .int .i64 x.go, f, n] 56 (0, 0))) => l04Text_any w.heap.size f n x W hP (hF.kept hb) (hN.kept hb) hf (OkA.of hok))
    clear hb hP hok hF hN
    go_enter Tryd.func21, Tryd.ntmps21
    go_wp2_with fail
    refine (HV.out _ HB.out HP.out).mono ?_
    rintro e w1 ⟨rfl, hB1⟩
    have hB1 := hB1.below (w.alloc (.cells #[.int .i64 x.st, .int .i64 x.go, f, n] 56)).heap.size
    have HP1 := Lib.hid ((hB1.block w.heap.size HW.out).trans HP.out)
    have HB1 := Lib.hid (HB.out.trans (hB1.mono (Nat.le_of_lt HW.out)))
    clear hB1
    go_wp2_with fail
    refine (HT.out _ HB1.out HP1.out).mono ?_
    rintro e w2 ⟨rfl, hB2⟩
    have HB2 := Lib.hid (HB1.out.trans (hB2.mono HB1.out.size))
    clear hB2
    go_wp2_with fail
    go_ret
    exact ⟨rfl, HB2.out⟩
end Go.Proofs.YtcaeihdfljljbaaDoor
