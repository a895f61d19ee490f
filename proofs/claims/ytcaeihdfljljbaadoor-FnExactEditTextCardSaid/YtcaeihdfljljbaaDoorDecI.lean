/-
  Walk: impl.decimal, where the library's table of powers is laid.
-/
import Derived.Test.YtcaeihdfljljbaaDoorDecS
import Derived.Test.YtcaeihdfljljbaaDoorShelf
import Derived.WalkSmall
import Derived.Sort.Grow
import Derived.Lib.LaidTab
namespace Go.Proofs.YtcaeihdfljljbaaDoor
open Go.RowKit
open Wd
set_option linter.unusedVariables false
/-- the table of powers is there -/
def Pow10 (w : World) : Prop := Lib.TabIs Tryd.prog w "internal/strconv.uint64pow10" .u64 Lib.pow10Tab ∧ 0 < w.heap.size
theorem pow_global : Tryd.prog.globalNamed "internal/strconv.uint64pow10" = some 0 := by kernel_rfl
theorem Pow10.kept {w w' : World} (h : Pow10 w) (hb : Below w.heap.size w w') : Pow10 w' :=
  ⟨var?_below hb pow_global h.2 h.1, Nat.lt_of_lt_of_le h.2 hb.size⟩
theorem below_growD (w : World) (os : Array Obj) : Below w.heap.size w (Sort.grow w os) :=
  ⟨rfl, rfl, rfl, by simp [Sort.grow], fun k hk => by simp [Sort.grow, Array.getElem?_append, hk]⟩
theorem formatN (n : Nat) (w : World) (hn : n ≤ 9223372036854775807) (ht : Pow10 w) :
    Calls Tryd.prog 38 #[.int .i64 (n : Int), .int .i64 10] w fun e w' => e = .returned (.string (decT n)) ∧ Below w.heap.size w w' := by
  refine (Tryd.strconv_FormatInt_10 (n : Int) (by omega) (by omega) w ht.1).mono ?_
  rintro e w1 ⟨rfl, k, os, rfl⟩
  refine ⟨?_, (below_drewN (Below.refl _ w) k).trans (below_growD (w.drewN k) os)⟩
  unfold decT Lib.itoa
  rw [if_neg (by omega), Int.toNat_natCast]
theorem decI_any (n : Nat) (w : World) (hn : n ≤ 9223372036854775807) (ht : Pow10 w) :
    Calls Tryd.prog 31 #[.int .i64 (n : Int)] w fun e w' => e = .returned (.string (decT n)) ∧ Below w.heap.size w w' := by
  have HC := Lib.hid (Tryd.strconv_FormatInt_10 (n : Int) (by omega) (by omega) w ht.1)
  have HE : Hid ((⟨(Lib.itoa (n : Int)).toArray⟩ : ByteArray) = decT n) := Lib.hid (by
    unfold decT Lib.itoa
    rw [if_neg (by omega), Int.toNat_natCast])
  clear ht
  go_enter Tryd.func31, Tryd.ntmps31
  go_wp2_with fail
  refine HC.out.mono ?_
  rintro e w1 ⟨rfl, k, os, rfl⟩
  rw [HE.out]
  have HB : Hid (Below w.heap.size w (Sort.grow (w.drewN k) os)) := Lib.hid ((below_drewN (Below.refl _ w) k).trans (below_growD (w.drewN k) os))
  generalize Sort.grow (w.drewN k) os = w2 at *
  go_wp2_with fail
  go_ret
  exact ⟨rfl, HB.out⟩
end Go.Proofs.YtcaeihdfljljbaaDoor
