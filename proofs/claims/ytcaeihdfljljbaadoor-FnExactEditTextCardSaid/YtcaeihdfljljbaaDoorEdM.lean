/-
  Edits, as numbers: which are valid. Nothing of the program.
-/
import Derived.Test.YtcaeihdfljljbaaDoorGramOk
namespace Go.Proofs.YtcaeihdfljljbaaDoor
open Go.RowKit
set_option linter.unusedVariables false
namespace Wd
/-- an edit as it is read -/
structure Ed where
  k : Int
  i : Int
  j : Int
  t : Int
  gs : List Rl
  m : ByteArray
/-- its cells, the rules being v -/
def edC (x : Ed) (v : Value) : List Value := [.int .i64 x.k, .int .i64 x.i, .int .i64 x.j, .int .i64 x.t, v, .string x.m]
/-- what kinds mention -/
def hasJ (k : Int) : Bool := decide (2 ≤ k)
def hasK (k : Int) : Bool := decide (k = 3) || (decide (k = 4) || decide (k = 6))
def hasP (k : Int) : Bool := decide (k = 1)
def hasM (k : Int) : Bool := decide (k = 7)
/-- a number that is mentioned, or 0 -/
def numOk (n : Int) (told : Bool) : Bool := if told = true then decide (0 ≤ n ∧ n ≤ 1000000000000000) else decide (n = 0)
/-- a map, or nothing -/
def mapOk (k : Int) (m : ByteArray) : Bool := if hasM k = true then decide (m.size = 4) && okL m.data.toList else decide (m.size = 0)
/-- is the edit valid? -/
def edOk (x : Ed) : Bool :=
  decide (1 ≤ x.k ∧ x.k ≤ 7) && ((numOk x.i true && (numOk x.j (hasJ x.k) && numOk x.t (hasK x.k))) && (!(hasJ x.k && decide (x.j < x.i)) &&
    ((decide (0 < x.gs.length) == hasP x.k) && (gOk x.gs && mapOk x.k x.m))))
end Wd
end Go.Proofs.YtcaeihdfljljbaaDoor
