/-
  Contracts of Go's library at this program, each one application of a theorem of the guide's library.
-/
import Derived.Shelf.Small.Utf8
import Derived.Shelf.Small.Strs
import Derived.Shelf.Strings.Search1
import Derived.Shelf.Strings.Search2
import Derived.Shelf.Strings.Search3
import Derived.Shelf.LaysM
import Derived.Shelf.Strings.Shaped
import Derived.Shelf.Strings.Runes
import Derived.Test.YtcaeihdfljljbaaProg
namespace Go.Proofs
open Go.Shelf
def Try.lays143_ren : Go.Shelf.Ren := ⟨fun | 143 => 126 | 219 => 172 | 217 => 193 | 225 => 194 | 224 => 195 | 267 => 196 | 266 => 203 | 314 => 204 | n => n, fun | 9 => 9 | 3 => 3 | 4 => 4 | 5 => 5 | 46 => 262 | 146 => 269 | 51 => 268 | n => n, fun | 1 => 0 | n => n⟩
theorem Try.lays143 : Go.Proofs.Lays.n143 Try.prog Try.lays143_ren := {
  mixed := by kernel_rfl
  f143 := Try.func126.trans (congrArg some (by kernel_rfl))
  f217 := Try.func193.trans (congrArg some (by kernel_rfl))
  f219 := Try.func172.trans (congrArg some (by kernel_rfl))
  f224 := Try.func195.trans (congrArg some (by kernel_rfl))
  f225 := Try.func194.trans (congrArg some (by kernel_rfl))
  f266 := Try.func203.trans (congrArg some (by kernel_rfl))
  f267 := Try.func196.trans (congrArg some (by kernel_rfl))
  f314 := Try.func204.trans (congrArg some (by kernel_rfl))
  t3 := Try.underlying3
  a3 := Try.isAgg3
  z3 := Try.sizeOf3
  v3 := Try.zeroValue3
  t4 := Try.underlying4
  a4 := Try.isAgg4
  z4 := Try.sizeOf4
  v4 := Try.zeroValue4
  t5 := Try.underlying5
  a5 := Try.isAgg5
  z5 := Try.sizeOf5
  v5 := Try.zeroValue5
  t9 := Try.underlying9
  a9 := Try.isAgg9
  z9 := Try.sizeOf9
  v9 := Try.zeroValue9
  t46 := Try.underlying262
  a46 := Try.isAgg262
  z46 := Try.sizeOf262
  v46 := Try.zeroValue262
  t51 := Try.underlying268
  a51 := Try.isAgg268
  z51 := Try.sizeOf268
  v51 := Try.zeroValue268
  t146 := Try.underlying269
  a146 := Try.isAgg269
  z146 := Try.sizeOf269
  v146 := Try.zeroValue269
  g1 := by kernel_rfl }
open Go.RowKit Go.Lib in
theorem Try.strings_Index_one (s : ByteArray) (c : UInt8) (w : World) :
    Calls Try.prog 126 #[.string s, .string ⟨#[c]⟩] w fun e w' => e = .returned (.int .i64 (Lib.indexByte s.data.toList c)) ∧ w' = w := Any.strings_Index_one Try.lays143 s c w

end Go.Proofs
