/-
  A slice of numbers that a law is given.
-/
import Derived.Test.YtdfdeppfhadopaaRow
namespace Go.Proofs.Ytdfdeppfhadopaa
open Go.RowKit
set_option linter.unusedVariables false
namespace Wd
/-- a slice of numbers that came in: nil, or a row of 'cap' cells -/
def IsRow (k : IntKind) (w : World) (a : Option Addr) (len cap : Nat) (zs : List Int) : Prop :=
  (a = none ∧ len = 0 ∧ cap = 0 ∧ zs = []) ∨
  ∃ x, a = some x ∧ len ≤ cap ∧ cap ≤ maxLen ∧ zs.length = cap ∧ (∀ i, i < zs.length → w.cell? (x.add i) = some (.int k (zs.getD i 0))) ∧ ∀ n ∈ zs, (Lit.int k n).wf = true
end Wd

end Go.Proofs.Ytdfdeppfhadopaa
