/-
  The walk of a search's visit: a closure that calls itself.
-/
import Derived.Test.YtaffachjopjbgaaFvW
import Derived.Test.YtaffachjopjbgaaGramLen
import Derived.Deep.RegionHeld3
namespace Go.Proofs.Ytaffachjopjbgaa
open Go.RowKit
open Wd
set_option linter.unusedVariables false
theorem tm_lp (v : Value) (w : World) : (Instr.typeAssert (.iface 211 v) 194 198 true).run Try.prog w = .ok (.tuple #[.agg #[.string ⟨#[]⟩, .int .i64 0, .int .i64 0], .bool false]) w := by kernel_rfl
abbrev findV (Wb Qb : Nat) : Value := .func (.func 157) #[] #[.pointer (some ⟨Wb, 0, none⟩), .pointer (some ⟨Qb, 0, none⟩)]
structure SInv (Wb Qb : Nat) (gv lv mv vv : Value) (st0 : Int) (lo : Nat) (nx vs : List (List Int)) (gs : List Rl) (w : World) : Prop where
  b : B5 w Wb gv lv mv (.int .i64 st0) vv 116
  q : w.cell? ⟨Qb, 0, none⟩ = some (findV Wb Qb)
  r : Rules w gv gs
  l : IsL w lv (lens gs)
  m : IsMs w lo mv (mapsK nx gs gs.length)
  v : IsMs w lo vv vs
theorem SInv.kept {Wb Qb : Nat} {gv lv mv vv : Value} {st0 : Int} {lo : Nat} {nx vs : List (List Int)} {gs : List Rl} {w w' : World} (h : SInv Wb Qb gv lv mv vv st0 lo nx vs gs w) (hb : Below w.heap.size w w') : SInv Wb Qb gv lv mv vv st0 lo nx vs gs w' :=
  ⟨h.b.kept hb, (hb.cell (lt_of_cell h.q)).trans h.q, h.r.kept hb, h.l.kept hb, h.m.kept hb, h.v.kept hb⟩
theorem rule3_cellsV {w : World} {R : Nat} {t : TypeId} {a b c : Value} (h : w.heap[R]? = some (.cells #[a, b, c] t (0, 0))) :
    w.cell? ⟨R, 0, none⟩ = some a ∧ w.cell? ⟨R, 1, none⟩ = some b ∧ w.cell? ⟨R, 2, none⟩ = some c := by
  have key : ∀ o, w.cell? ⟨R, o, none⟩ = (#[a, b, c] : Array Value)[o]? := fun o => by simp [World.cell?, h]
  exact ⟨by rw [key]; rfl, by rw [key]; rfl, by rw [key]; rfl⟩
/-- the contract of the closure -/
def FindC (Wb Qb : Nat) (gv lv mv vv : Value) (st0 : Int) (lo : Nat) (nx vs : List (List Int)) (gs : List Rl) (k : Nat) (s c z : Int) : Prop :=
  ∀ W, SInv Wb Qb gv lv mv vv st0 lo nx vs gs W → Calls Try.prog 157 #[.int .i64 k, .int .i64 s, .int .i64 c, .pointer (some ⟨Wb, 0, none⟩), .pointer (some ⟨Qb, 0, none⟩)] W fun e w' => e = .returned (.int .i64 z) ∧ Below W.heap.size W w'
set_option maxRecDepth 100000 in
set_option maxHeartbeats 3200000 in
theorem find_letter (Wb Qb : Nat) (gv lv mv vv : Value) (st0 : Int) (lo : Nat) (nx vs : List (List Int)) (gs : List Rl) (k : Nat) (s c : Int) (hk : k < gs.length) (h0 : gs[k].L.size ≠ 0) : FindC Wb Qb gv lv mv vv st0 lo nx vs gs k s c 1 := by
  intro w hI
  obtain ⟨hB5, hq, hr, hl, hm, hv⟩ := hI
  obtain ⟨p0, p1, p2, p3, p4⟩ := b5_cells hB5
  obtain ⟨A1, c1, rfl, hr⟩ := hr
  rcases hr with hr | ⟨g, rfl, hg, hcc⟩
  · rw [hr] at hk; simp at hk
  obtain ⟨a0, a1, a2⟩ := rules_cells hcc hk
  have HK := Lib.hid (fun W => kind_letter gs[k] h0 W)
  have HT := tm_lp
  have k0 : (0 : Int) ≤ (k : Int) := by omega
  have k1 : (k : Int) < (gs.length : Int) := by omega
  generalize gs[k] = R at *
  clear hB5 hq hl hm hv hcc p1 p2 p3 p4 h0
  go_enter Try.func157, Try.ntmps157
  go_wp2_with fail
  refine (HK.out _).mono ?_
  rintro e w7 ⟨rfl, hB7⟩
  have HB7 := Lib.hid hB7
  clear hB7 a0 a1 a2 p0
  go_wp2_with fail
  go_ret
  exact ⟨rfl, HB7.out.alloc HB7.out.size _⟩
set_option maxRecDepth 100000 in
set_option maxHeartbeats 6400000 in
theorem find_pair (Wb Qb : Nat) (gv lv mv vv : Value) (st0 : Int) (lo : Nat) (nx vs : List (List Int)) (gs : List Rl) (k a b t q : Nat) (c z1 z2 : Int) (hk : k < gs.length) (h0 : gs[k].L.size = 0) (ha : gs[k].l = a) (hb : gs[k].r = b) (hak : a < k) (hbk : b < k) (ht : t < 24) (hvl : vs.length = gs.length) (hq24 : at2 (mapsK nx gs gs.length) a t = (q : Int))
    (hc0 : 0 ≤ c) (hcb : c ≤ 1000000000000000) (hv0 : 0 ≤ at2 vs a t) (hv1 : at2 vs a t ≤ 1000000000000000) (la1 : (lens gs).getD a 0 ≤ 1000000000000000) (la0 : 0 ≤ (lens gs).getD a 0) (hz2 : at2 vs a t ≤ c → 0 ≤ z2 ∧ z2 ≤ 1000000000000000)
    (hA : c < at2 vs a t → FindC Wb Qb gv lv mv vv st0 lo nx vs gs a t c z1) (hB : at2 vs a t ≤ c → FindC Wb Qb gv lv mv vv st0 lo nx vs gs b q (c - at2 vs a t) z2) :
    FindC Wb Qb gv lv mv vv st0 lo nx vs gs k t c (if c < at2 vs a t then z1 else (lens gs).getD a 0 + z2) := by
  intro w hI
  have HI := Lib.hid hI
  obtain ⟨hB5, hqq, hr, hl, hm, hv⟩ := hI
  have HB5 := Lib.hid hB5
  obtain ⟨p0, p1, p2, p3, p4⟩ := b5_cells hB5
  obtain ⟨A1, c1, rfl, hr⟩ := hr
  rcases hr with hr | ⟨g, rfl, hg, hcc⟩
  · rw [hr] at hk; simp at hk
  obtain ⟨a0, a1, a2⟩ := rules_cells hcc hk
  have hlen := lens_len gs
  have hml := mapsK_len nx gs gs.length
  obtain ⟨A2, c2, rfl, h2⟩ := hl
  rcases h2 with h2 | ⟨g2, rfl, h2⟩
  · rw [h2] at hlen; simp at hlen; omega
  obtain ⟨A3, c3, rfl, h3⟩ := hm
  rcases h3 with h3 | ⟨g3, rfl, _, h3⟩
  · rw [h3] at hml; simp at hml; omega
  obtain ⟨A4, c4, rfl, h4⟩ := hv
  rcases h4 with h4 | ⟨g4, rfl, _, h4⟩
  · rw [h4] at hvl; simp at hvl; omega
  have ca := h2 a (by omega)
  rw [show (lens gs)[a]'(by omega) = (lens gs).getD a 0 from by rw [List.getD_eq_getElem?_getD, List.getElem?_eq_getElem (by omega)]; rfl] at ca
  have cm := h3 a t (by omega) ht
  have cv := h4 a t (by omega) ht
  rw [show ((mapsK nx gs gs.length).getD a []).getD t 0 = at2 (mapsK nx gs gs.length) a t from rfl, hq24] at cm
  rw [show (vs.getD a []).getD t 0 = at2 vs a t from rfl] at cv
  have HK := Lib.hid (fun W => kind_pair gs[k] h0 W)
  have HT := tm_pp
  rw [empty_arr h0] at a0
  rw [ha] at a1
  rw [hb] at a2
  have hag : agg3 gs[k] = .agg #[.string ⟨#[]⟩, .int .i64 (a : Int), .int .i64 (b : Int)] := by
    unfold agg3
    rw [empty_arr h0, ha, hb]
  rw [hag] at HK
  obtain ⟨Z, hZ⟩ : ∃ Z, Z = (if c < at2 vs a t then z1 else (lens gs).getD a 0 + z2) := ⟨_, rfl⟩
  rw [← hZ]
  have HZ := Lib.hid hZ
  clear hZ
  have HA := Lib.hid hA
  have HBc := Lib.hid hB
  have k0 : (0 : Int) ≤ (k : Int) := by omega
  have k1 : (k : Int) < (gs.length : Int) := by omega
  have a0' : (0 : Int) ≤ (a : Int) := by omega
  have a1' : (a : Int) < (gs.length : Int) := by omega
  have t0 : (0 : Int) ≤ (t : Int) := by omega
  have t1 : (t : Int) < 24 := by omega
  have hsub : IntKind.i64.wrap (c - at2 vs a t) = c - at2 vs a t := IntWalk.i64_in _ (by omega)
  have hsum : at2 vs a t ≤ c → IntKind.i64.wrap ((lens gs).getD a 0 + z2) = (lens gs).getD a 0 + z2 := fun h => IntWalk.i64_in _ (by have := hz2 h; omega)
  have HSUM := Lib.hid hsum
  have a2' : (a : Int) < ((lens gs).length : Int) := by omega
  have a3' : (a : Int) < ((mapsK nx gs gs.length).length : Int) := by omega
  have a4' : (a : Int) < (vs.length : Int) := by omega
  have lqq := lt_of_cell hqq
  have lb := hB5.lt
  have lca := lt_of_cell ca
  have lcm := lt_of_cell cm
  have HCA := Lib.hid ca
  clear h0 ha hb hag hcc h2 h3 h4 hA hB hz2 la1 la0 hv1 hv0 hc0 hcb hsum hB5 hvl hlen hml
  go_enter Try.func157, Try.ntmps157
  go_wp2_with fail
  refine (HK.out _).mono ?_
  rintro e w7 ⟨rfl, hB7⟩
  have hbk := hB7.alloc hB7.size (.cells #[.string ⟨#[]⟩, .int .i64 (a : Int), .int .i64 (b : Int)] 198)
  have kcs := heap_alloc_new w7 (.cells #[.string ⟨#[]⟩, .int .i64 (a : Int), .int .i64 (b : Int)] 198)
  have hKl : w7.heap.size < (w7.alloc (.cells #[.string ⟨#[]⟩, .int .i64 (a : Int), .int .i64 (b : Int)] 198)).heap.size := by simp
  clear hB7 a0 a1 a2 p0 p1 p2 p3 p4
  go_upto_region 4 with fail
  obtain ⟨Kp, hKp⟩ : ∃ Kp, Kp = w7.heap.size := ⟨_, rfl⟩
  rw [← hKp] at kcs hKl ⊢
  generalize w7.alloc (.cells #[.string ⟨#[]⟩, .int .i64 (a : Int), .int .i64 (b : Int)] 198) = wk at *
  have HBK := Lib.hid hbk
  have HIK := Lib.hid (HI.out.kept hbk)
  have HH := Lib.hid (fun W (h : Below wk.heap.size wk W) => And.intro (b5_cells ((HB5.out.kept hbk).kept h)) (And.intro (rule3_cellsV ((h.block Kp hKl).trans kcs)) (And.intro ((h.cell (lt_of_cell ((hbk.cell lqq).trans hqq))).trans ((hbk.cell lqq).trans hqq)) (And.intro ((h.cell (lt_of_cell ((hbk.cell lca).trans ca))).trans ((hbk.cell lca).trans ca)) (And.intro ((h.cell (lt_of_cell ((hbk.cell lcm).trans cm))).trans ((hbk.cell lcm).trans cm)) ((h.cell (lt_of_cell ((hbk.cell (lt_of_cell cv)).trans cv))).trans ((hbk.cell (lt_of_cell cv)).trans cv)))))))
  clear hKp kcs hbk hqq ca cm cv lqq lb lca lcm hg
  obtain ⟨⟨p0, p1, p2, p3, p4⟩, ⟨r0, r1, r2⟩, qv, cl, cm, cv⟩ := HH.out wk (Below.refl _ _)
  generalize at2 vs a t = V at *
  generalize (lens gs).getD a 0 = la at *
  by_cases hcV : c < V
  · have HE : Hid (Z = z1) := Lib.hid (by rw [HZ.out, if_pos hcV])
    have hd : decide (c < V) = true := decide_eq_true hcV
    have HA2 := Lib.hid (HA.out hcV)
    clear hcV HA HBc
    have qv := qv
    go_wp2_with fail
    refine (HA2.out _ HIK.out).mono ?_
    rintro e w9 ⟨rfl, hB9⟩
    have HB9 := Lib.hid (HBK.out.trans (hB9.mono HBK.out.size))
    clear hB9
    go_wp2_with fail
    go_ret
    exact ⟨by rw [HE.out]; rfl, HB9.out⟩
  · have HE : Hid (Z = la + z2) := Lib.hid (by rw [HZ.out, if_neg hcV])
    have hd : decide (c < V) = false := decide_eq_false hcV
    have HB2 := Lib.hid (HBc.out (by omega))
    have hsum := HSUM.out (by omega)
    have HB3 := Lib.hid (fun m => HB2.out (wk.drewN m) (HIK.out.kept (below_drewN (Below.refl _ wk) m)))
    clear hcV HA HBc HB2
    have qv := qv
    go_upto_region 7 with fail
    have HC := Lib.hid (And.intro p1 (And.intro p2 (And.intro r1 (And.intro r2 (And.intro qv (And.intro cl cm))))))
    have HH2 := Lib.hid (fun W (h : Below wk.heap.size wk W) => And.intro (HH.out W h).1.2.1 (And.intro (HH.out W h).1.2.2.1 (And.intro (HH.out W h).2.1.2.1 (And.intro (HH.out W h).2.1.2.2 (And.intro (HH.out W h).2.2.1 (And.intro (HH.out W h).2.2.2.1 (HH.out W h).2.2.2.2.1))))))
    go_region_held3 (fun w' => w'.cell? ⟨Wb, 1, none⟩ = some (.slice (some g2) (lens gs).length c2) ∧ w'.cell? ⟨Wb, 2, none⟩ = some (.slice (some ⟨g3, 0, none⟩) (mapsK nx gs gs.length).length c3) ∧ w'.cell? ⟨Kp, 1, none⟩ = some (.int .i64 (a : Int)) ∧ w'.cell? ⟨Kp, 2, none⟩ = some (.int .i64 (b : Int)) ∧ w'.cell? ⟨Qb, 0, none⟩ = some (findV Wb Qb) ∧ w'.cell? (g2.add a) = some (.int .i64 la) ∧ w'.cell? ⟨g3, a * 24 + t, none⟩ = some (.int .i64 (q : Int)))
      (first | (with_reducible exact HC.out) | (with_reducible exact HC9.out) | exact HC.out | exact HC9.out | go_keep)
      (first
        | (go_at_call_of 157 (Value.int .i64 (b : Int))
           refine (HB3.out _).mono ?_
           rintro e w9 ⟨rfl, hB9⟩
           have hB9 : Below wk.heap.size wk w9 := below_undrew hB9
           have HC9 := Lib.hid (HH2.out w9 hB9)
           have HB9 := Lib.hid (HBK.out.trans (hB9.mono HBK.out.size))
           clear hB9))
    all_goals
      go_wp2_with fail
      go_ret
      exact ⟨by rw [HE.out]; rfl, HB9.out⟩
theorem find_any (Wb Qb : Nat) (gv lv mv vv : Value) (st0 : Int) (lo : Nat) (wa : Int → Bool) (nx : List (List Int)) (gs : List Rl) (st : Int) (h1 : 1 ≤ st) (h24 : st ≤ 24) (hrow : nx.all (rowOk st) = true) (hlen : (nx.length : Int) = st) (hok : gOk gs = true) : ∀ m k s (c : Int), k < m → k < gs.length → s < 24 → 0 ≤ c → c < at2 (visK wa nx gs gs.length) k s →
    FindC Wb Qb gv lv mv vv st0 lo nx (visK wa nx gs gs.length) gs k (s : Nat) c (fndF wa nx gs (k + 1) k s c)
  | 0, k, s, c, hm, _, _, _, _ => by omega
  | m + 1, k, s, c, hm, hk, hs, hc0, hc => by
    have hfit := (gOk_iff.1 hok).2.1
    rcases rule_cases hfit hk with hz | ⟨hz, a, b, ha, hb, hak, hbk⟩
    · rw [fnd_letter wa nx hk hz]
      exact find_letter Wb Qb gv lv mv vv st0 lo nx _ gs k s c hk hz
    · have hmb := map_lt hrow hlen h1 h24 hfit (show a < gs.length by omega) hs
      have va := vis_fir wa hrow hlen h1 h24 hfit (a + 1) a s (by omega) (by omega) hs
      have ba := fnd_bd wa hrow hlen h1 h24 hfit (a + 1) a s c (by omega) (by omega) hs
      have bb := fnd_bd wa hrow hlen h1 h24 hfit (b + 1) b (at2 (mapsK nx gs gs.length) a s).toNat (c - at2 (visK wa nx gs gs.length) a s) (by omega) (by omega) hmb
      have bk := fnd_bd wa hrow hlen h1 h24 hfit (k + 1) k s c (by omega) hk hs
      have sa := small_at (gOk_iff.1 hok).2.2 a (by omega)
      have sb := small_at (gOk_iff.1 hok).2.2 b (by omega)
      have sk := small_at (gOk_iff.1 hok).2.2 k hk
      have la := lens_pos (gs := gs) (k := a) (by omega) (fun j hj _ => fits_at hfit j hj)
      have hma := (mapsK_ok hrow hlen h1 h24 hfit gs.length (Nat.le_refl _) a (by omega))
      have hq0 : 0 ≤ at2 (mapsK nx gs gs.length) a s := by
        unfold at2
        rw [List.getD_eq_getElem?_getD (i := s), List.getElem?_eq_getElem (by rw [hma.1]; omega), Option.getD_some]
        exact (hma.2 _ (List.getElem_mem _)).1
      have hvp := vis_pair wa nx hk hz ha hb hak hbk hs
      have hcb : c ≤ 1000000000000000 := by have := bk.1; omega
      rw [hvp] at hc
      rw [fnd_pair wa nx hk hz ha hb, fnd_stable wa nx hfit k (a + 1) a s c (by omega) (by omega) (by omega), fnd_stable wa nx hfit k (b + 1) b _ _ (by omega) (by omega) (by omega)]
      obtain ⟨q, hq⟩ : ∃ q : Nat, at2 (mapsK nx gs gs.length) a s = q := ⟨(at2 (mapsK nx gs gs.length) a s).toNat, by omega⟩
      rw [hq, Int.toNat_natCast] at hc hmb bb ⊢
      exact find_pair Wb Qb gv lv mv vv st0 lo nx _ gs k a b s q c _ _ hk hz ha hb hak hbk hs (visK_len wa nx gs _) hq hc0 hcb va.1 (by omega) sa (by omega)
        (fun h => by have := bb.2 (by omega) (by omega); omega)
        (fun h => find_any Wb Qb gv lv mv vv st0 lo wa nx gs st h1 h24 hrow hlen hok m a s c (by omega) (by omega) hs hc0 h)
        (fun h => find_any Wb Qb gv lv mv vv st0 lo wa nx gs st h1 h24 hrow hlen hok m b q (c - at2 (visK wa nx gs gs.length) a s) (by omega) (by omega) hmb (by omega) (by omega))
set_option maxRecDepth 100000 in
set_option maxHeartbeats 3200000 in
theorem visit_any (sv gv : Value) (gs : List Rl) (wa : Int → Bool) (nx : List (List Int)) (st s c : Int) (lo : Nat) (w : World) (h1 : 1 ≤ st) (h24 : st ≤ 24) (hrow : nx.all (rowOk st) = true) (hlen : (nx.length : Int) = st) (hok : gOk gs = true) (hr : Rules w gv gs) (hW : IsS w lo sv gv gs nx (visK wa nx gs gs.length) s) (hs : 0 ≤ s ∧ s < 24) (hg0 : 0 < gs.length) (hc0 : 0 ≤ c) (hc : c < allV (visK wa nx gs gs.length) gs s) :
    Calls Try.prog 91 #[sv, .int .i64 c] w fun e w' => e = .returned (.int .i64 (fndF wa nx gs gs.length (gs.length - 1) s.toNat c)) ∧ Below w.heap.size w w' := by
  have hmf : ∀ (fn : Fn) (first cap : Array Value) (w : World), (Instr.makeFunc fn first cap).run Try.prog w = .ok (.func fn first cap) w := fun _ _ _ _ => rfl
  obtain ⟨lv, mv, vv, rfl, h2, h3, h4⟩ := hW
  have hn400 := gOk_len hok
  have hfit := (gOk_iff.1 hok).2.1
  have hb : Below w.heap.size w ((w.alloc (.cells #[gv, lv, mv, .int .i64 s, vv] 116)).alloc (.cells #[findV w.heap.size (w.heap.size + 1)] 202)) := ((Below.refl _ w).alloc (Nat.le_refl _) _).alloc (by simp) _
  have hP : B5 ((w.alloc (.cells #[gv, lv, mv, .int .i64 s, vv] 116)).alloc (.cells #[findV w.heap.size (w.heap.size + 1)] 202)) w.heap.size gv lv mv (.int .i64 s) vv 116 := B5.kept (heap_alloc_new w _) ((Below.refl _ _).alloc (Nat.le_refl _) _)
  have hQ := heap_alloc_new (w.alloc (.cells #[gv, lv, mv, .int .i64 s, vv] 116)) (.cells #[findV w.heap.size (w.heap.size + 1)] 202)
  rw [show (w.alloc (.cells #[gv, lv, mv, .int .i64 s, vv] 116)).heap.size = w.heap.size + 1 from by simp] at hQ
  have hq := cell_of_row _ _ 0 _ _ _ hQ
  have hk : ((gs.length : Int) - 1) = ((gs.length - 1 : Nat) : Int) := by omega
  have hst : ((s.toNat : Nat) : Int) = s := by omega
  have HLD : Hid (∀ W, Below ((w.alloc (.cells #[gv, lv, mv, .int .i64 s, vv] 116)).alloc (.cells #[findV w.heap.size (w.heap.size + 1)] 202)).heap.size ((w.alloc (.cells #[gv, lv, mv, .int .i64 s, vv] 116)).alloc (.cells #[findV w.heap.size (w.heap.size + 1)] 202)) W → Calls Try.prog 157 #[.int .i64 ((gs.length : Int) - 1), .int .i64 s, .int .i64 c, .pointer (some ⟨w.heap.size, 0, none⟩), .pointer (some ⟨w.heap.size + 1, 0, none⟩)] W fun e w' => e = .returned (.int .i64 (fndF wa nx gs gs.length (gs.length - 1) s.toNat c)) ∧ Below W.heap.size W w') := Lib.hid (fun W hW => by
    unfold allV at hc
    rw [if_neg (by omega)] at hc
    have := find_any w.heap.size (w.heap.size + 1) gv lv mv vv s lo wa nx gs st h1 h24 hrow hlen hok gs.length (gs.length - 1) s.toNat c (by omega) (by omega) (by omega) hc0 hc W ⟨hP.kept hW, (hW.cell (lt_of_cell hq)).trans hq, (hr.kept hb).kept hW, ((IsL.of_own h2).kept hb).kept hW, (h3.kept hb).kept hW, (h4.kept hb).kept hW⟩
    rw [hk]
    rw [hst, show gs.length - 1 + 1 = gs.length by omega] at this
    exact this)
  have HB := Lib.hid hb
  obtain ⟨p0, p1, p2, p3, p4⟩ := b5_cells hP
  obtain ⟨Ag, cg, rfl, hRx⟩ := hr
  obtain ⟨A2, c2, rfl⟩ := own_slice h2
  obtain ⟨A3, c3, rfl, h3x⟩ := h3
  obtain ⟨A4, c4, rfl, h4x⟩ := h4
  have HLO := Lib.hid (fun W => lastOf_any Ag gs.length cg hn400 W)
  generalize fndF wa nx gs gs.length (gs.length - 1) s.toNat c = z at *
  clear hok hs hrow hlen hn400 hfit hRx h3x h4x h2 hP hQ hc hc0 hg0 hk hst
  go_enter Try.func91, Try.ntmps91
  go_upto_region 3 with fail
  have hq : ((w.alloc (.cells #[.slice Ag gs.length cg, .slice A2 (lens gs).length c2, .slice A3 (mapsK nx gs gs.length).length c3, .int .i64 s, .slice A4 (visK wa nx gs gs.length).length c4] 116)).alloc (.cells #[findV w.heap.size (w.heap.size + 1)] 202)).cell? ⟨w.heap.size + 1, 0, none⟩ = some (findV w.heap.size (w.heap.size + 1)) := hq
  generalize (w.alloc (.cells #[.slice Ag gs.length cg, .slice A2 (lens gs).length c2, .slice A3 (mapsK nx gs gs.length).length c3, .int .i64 s, .slice A4 (visK wa nx gs gs.length).length c4] 116)).alloc (.cells #[findV w.heap.size (w.heap.size + 1)] 202) = w2 at *
  have HLE := Lib.hid (fun m => HLD.out (w2.drewN m) (below_drewN (Below.refl _ w2) m))
  clear hb HLD
  have HQ := Lib.hid hq
  have HS := Lib.hid (And.intro hq (And.intro p0 p3))
  have HP0 := Lib.hid p0
  have HP3 := Lib.hid p3
  go_region_held3 (fun w' => w'.cell? ⟨w.heap.size + 1, 0, none⟩ = some (findV w.heap.size (w.heap.size + 1)) ∧ w'.cell? ⟨w.heap.size, 0, none⟩ = some (.slice Ag gs.length cg) ∧ w'.cell? ⟨w.heap.size, 3, none⟩ = some (.int .i64 s))
    (first | (with_reducible exact HS.out) | (with_reducible exact HS9.out) | exact HS.out | exact HS9.out)
    (first
      | (go_at_call 135
         refine (HLO.out _).mono ?_
         rintro e w8 ⟨rfl, rfl⟩)
      | (go_at_call 157
         refine (HLE.out _).mono ?_
         rintro e w9 ⟨rfl, hB9⟩
         have hB9 : Below w2.heap.size w2 w9 := below_undrew hB9
         have HS9 := Lib.hid (And.intro ((hB9.cell (lt_of_cell HQ.out)).trans HQ.out) (And.intro ((hB9.cell (lt_of_cell HP0.out)).trans HP0.out) ((hB9.cell (lt_of_cell HP3.out)).trans HP3.out)))
         have HB9 := Lib.hid (HB.out.trans (hB9.mono HB.out.size))
         clear hB9))
  all_goals
    go_wp2_with fail
    go_ret
    exact ⟨rfl, HB9.out⟩
end Go.Proofs.Ytaffachjopjbgaa
