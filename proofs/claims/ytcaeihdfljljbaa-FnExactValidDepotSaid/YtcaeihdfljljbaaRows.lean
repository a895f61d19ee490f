/-
  No cell of these rows narrows 'for every input' (looked for: loops, veiled, ifaces, maps, wideKeys, modest, calm, conditions, laid).
  DERIVED. THE GIVEN ROWS OF THIS SEAT. 8 by the template 'for every input the law returns true; each argument reads behind the call as it read before'; 0 by the template 'total and deterministic' (their statements: YtcaeihdfljljbaaTotals.lean).
  GIVEN WITH THE SEED: the statements are not yours to turn. If you find one false, say at which input.
  Laid BY PROGRAM, IN A SANDBOX (cutbox-rows.mjs): the forced cells as the released guide's own fill.sh prints them over the translation 1f71b069209a13ce… (all of the seat's roots in one cut). By AI agents, Wed Nov 11 2026. No macro, syntax, notation, axiom, sorry.
-/
import Derived.Test.YtcaeihdfljljbaaChecked
import GoSem.Claim
import GoSem.ClaimJoined
import GoSem.ClaimMapViews
import Derived.JoinedTies
import Derived.KernelRfl
namespace Go.Proofs.Ytcaeihdfljljbaa
/- THE CELL 'sum', in the pinned program and in every row, IS THE sha256 OF THE DUMP (.gsa) THAT YtcaeihdfljljbaaProg.lean LOADS. Nothing in Lean hashes anything: it is a label: what it is worth is what the hold of that sum in a sandbox is worth. -/
noncomputable def Try.pinned : Pinned := { name := "ytcaeihdfljljbaa", sum := "1f71b069209a13ceca84a711b1027f3dfc79520434c479a7edeb304830395633", checked := Try.checked }
namespace Rows
def none {H : Type} : Left H := { results := [], args := [] }

/-- 'laws.FnExactValidDeed': WHATEVER THE INPUT: true; the input reads as it did. -/
def fnExactValidDeedSpec : ChangeSpec := { name := "fnExactValidDeed", fn := fun _ => fun
  | [d] => { results := [.lit (.bool true)], args := [d] }
  | _ => none }
def fnExactValidDeedRow : OpenClaim := { program := "ytcaeihdfljljbaa", sum := "1f71b069209a13ceca84a711b1027f3dfc79520434c479a7edeb304830395633", func := "loop.example/g01133/laws.FnExactValidDeed", spec := "fnExactValidDeed", plainKeys := false, apart := false }
def FnExactValidDeedSaid : Prop := fnExactValidDeedRow.holds Try.pinned (OpenSpec.ofChange fnExactValidDeedSpec)

/-- ITS FALSE NEIGHBOUR: 'it returns false'. Refute it at one input. -/
def fnExactValidDeedWrong : ChangeSpec := { name := "fnExactValidDeed", fn := fun _ => fun
  | [d] => { results := [.lit (.bool false)], args := [d] }
  | _ => none }
def FnExactValidDeedWrongFalsely : Prop := fnExactValidDeedRow.holds Try.pinned (OpenSpec.ofChange fnExactValidDeedWrong)

/-- 'laws.FnExactValidDepot': WHATEVER THE INPUT: true; the input reads as it did. -/
def fnExactValidDepotSpec : ChangeSpec := { name := "fnExactValidDepot", fn := fun _ => fun
  | [d] => { results := [.lit (.bool true)], args := [d] }
  | _ => none }
def fnExactValidDepotRow : OpenClaim := { program := "ytcaeihdfljljbaa", sum := "1f71b069209a13ceca84a711b1027f3dfc79520434c479a7edeb304830395633", func := "loop.example/g01133/laws.FnExactValidDepot", spec := "fnExactValidDepot", unfollowed := true, recurses := true, plainKeys := false, apart := false }
def FnExactValidDepotSaid : Prop := fnExactValidDepotRow.holds Try.pinned (OpenSpec.ofChange fnExactValidDepotSpec)

/-- ITS FALSE NEIGHBOUR: 'it returns false'. Refute it at one input. -/
def fnExactValidDepotWrong : ChangeSpec := { name := "fnExactValidDepot", fn := fun _ => fun
  | [d] => { results := [.lit (.bool false)], args := [d] }
  | _ => none }
def FnExactValidDepotWrongFalsely : Prop := fnExactValidDepotRow.holds Try.pinned (OpenSpec.ofChange fnExactValidDepotWrong)

/-- 'laws.FnExactLongestRuns': WHATEVER THE INPUT: true; the input reads as it did. -/
def fnExactLongestRunsSpec : ChangeSpec := { name := "fnExactLongestRuns", fn := fun _ => fun
  | [d] => { results := [.lit (.bool true)], args := [d] }
  | _ => none }
def fnExactLongestRunsRow : OpenClaim := { program := "ytcaeihdfljljbaa", sum := "1f71b069209a13ceca84a711b1027f3dfc79520434c479a7edeb304830395633", func := "loop.example/g01133/laws.FnExactLongestRuns", spec := "fnExactLongestRuns", inPlace := ["internal/bytealg.IndexByteString", "internal/bytealg.IndexString"], unfollowed := true, recurses := true, named := ["internal/bytealg.MaxLen"], plainKeys := false, apart := false }
def FnExactLongestRunsSaid : Prop := fnExactLongestRunsRow.holds Try.pinned (OpenSpec.ofChange fnExactLongestRunsSpec)

/-- ITS FALSE NEIGHBOUR: 'it returns false'. Refute it at one input. -/
def fnExactLongestRunsWrong : ChangeSpec := { name := "fnExactLongestRuns", fn := fun _ => fun
  | [d] => { results := [.lit (.bool false)], args := [d] }
  | _ => none }
def FnExactLongestRunsWrongFalsely : Prop := fnExactLongestRunsRow.holds Try.pinned (OpenSpec.ofChange fnExactLongestRunsWrong)

/-- 'laws.FnExactMapLetters': WHATEVER THE INPUT: true; the input reads as it did. -/
def fnExactMapLettersSpec : ChangeSpec := { name := "fnExactMapLetters", fn := fun _ => fun
  | [d1, d2] => { results := [.lit (.bool true)], args := [d1, d2] }
  | _ => none }
def fnExactMapLettersRow : OpenClaim := { program := "ytcaeihdfljljbaa", sum := "1f71b069209a13ceca84a711b1027f3dfc79520434c479a7edeb304830395633", func := "loop.example/g01133/laws.FnExactMapLetters", spec := "fnExactMapLetters", inPlace := ["internal/bytealg.IndexByteString", "internal/bytealg.IndexString"], unfollowed := true, recurses := true, named := ["internal/bytealg.MaxLen"], plainKeys := false, apart := false }
def FnExactMapLettersSaid : Prop := fnExactMapLettersRow.holds Try.pinned (OpenSpec.ofChange fnExactMapLettersSpec)

/-- ITS FALSE NEIGHBOUR: 'it returns false'. Refute it at one input. -/
def fnExactMapLettersWrong : ChangeSpec := { name := "fnExactMapLetters", fn := fun _ => fun
  | [d1, d2] => { results := [.lit (.bool false)], args := [d1, d2] }
  | _ => none }
def FnExactMapLettersWrongFalsely : Prop := fnExactMapLettersRow.holds Try.pinned (OpenSpec.ofChange fnExactMapLettersWrong)

/-- 'laws.FnExactSparePower': WHATEVER THE INPUT: true; the input reads as it did. -/
def fnExactSparePowerSpec : ChangeSpec := { name := "fnExactSparePower", fn := fun _ => fun
  | [d1, d2] => { results := [.lit (.bool true)], args := [d1, d2] }
  | _ => none }
def fnExactSparePowerRow : OpenClaim := { program := "ytcaeihdfljljbaa", sum := "1f71b069209a13ceca84a711b1027f3dfc79520434c479a7edeb304830395633", func := "loop.example/g01133/laws.FnExactSparePower", spec := "fnExactSparePower", inPlace := ["internal/bytealg.IndexByteString", "internal/bytealg.IndexString"], unfollowed := true, recurses := true, named := ["internal/bytealg.MaxLen"], plainKeys := false, apart := false }
def FnExactSparePowerSaid : Prop := fnExactSparePowerRow.holds Try.pinned (OpenSpec.ofChange fnExactSparePowerSpec)

/-- ITS FALSE NEIGHBOUR: 'it returns false'. Refute it at one input. -/
def fnExactSparePowerWrong : ChangeSpec := { name := "fnExactSparePower", fn := fun _ => fun
  | [d1, d2] => { results := [.lit (.bool false)], args := [d1, d2] }
  | _ => none }
def FnExactSparePowerWrongFalsely : Prop := fnExactSparePowerRow.holds Try.pinned (OpenSpec.ofChange fnExactSparePowerWrong)

/-- 'laws.FnExactFirstVisit': WHATEVER THE INPUT: true; the input reads as it did. -/
def fnExactFirstVisitSpec : ChangeSpec := { name := "fnExactFirstVisit", fn := fun _ => fun
  | [d1, d2, d3] => { results := [.lit (.bool true)], args := [d1, d2, d3] }
  | _ => none }
def fnExactFirstVisitRow : OpenClaim := { program := "ytcaeihdfljljbaa", sum := "1f71b069209a13ceca84a711b1027f3dfc79520434c479a7edeb304830395633", func := "loop.example/g01133/laws.FnExactFirstVisit", spec := "fnExactFirstVisit", inPlace := ["internal/bytealg.IndexByteString", "internal/bytealg.IndexString"], unfollowed := true, recurses := true, named := ["internal/bytealg.MaxLen"], plainKeys := false, apart := false }
def FnExactFirstVisitSaid : Prop := fnExactFirstVisitRow.holds Try.pinned (OpenSpec.ofChange fnExactFirstVisitSpec)

/-- ITS FALSE NEIGHBOUR: 'it returns false'. Refute it at one input. -/
def fnExactFirstVisitWrong : ChangeSpec := { name := "fnExactFirstVisit", fn := fun _ => fun
  | [d1, d2, d3] => { results := [.lit (.bool false)], args := [d1, d2, d3] }
  | _ => none }
def FnExactFirstVisitWrongFalsely : Prop := fnExactFirstVisitRow.holds Try.pinned (OpenSpec.ofChange fnExactFirstVisitWrong)

/-- 'laws.FnExactPatternAt': WHATEVER THE INPUT: true; the input reads as it did. -/
def fnExactPatternAtSpec : ChangeSpec := { name := "fnExactPatternAt", fn := fun _ => fun
  | [d1, d2, d3] => { results := [.lit (.bool true)], args := [d1, d2, d3] }
  | _ => none }
def fnExactPatternAtRow : OpenClaim := { program := "ytcaeihdfljljbaa", sum := "1f71b069209a13ceca84a711b1027f3dfc79520434c479a7edeb304830395633", func := "loop.example/g01133/laws.FnExactPatternAt", spec := "fnExactPatternAt", inPlace := ["internal/bytealg.IndexByteString", "internal/bytealg.IndexString"], unfollowed := true, recurses := true, named := ["internal/bytealg.MaxLen"], plainKeys := false, apart := false }
def FnExactPatternAtSaid : Prop := fnExactPatternAtRow.holds Try.pinned (OpenSpec.ofChange fnExactPatternAtSpec)

/-- ITS FALSE NEIGHBOUR: 'it returns false'. Refute it at one input. -/
def fnExactPatternAtWrong : ChangeSpec := { name := "fnExactPatternAt", fn := fun _ => fun
  | [d1, d2, d3] => { results := [.lit (.bool false)], args := [d1, d2, d3] }
  | _ => none }
def FnExactPatternAtWrongFalsely : Prop := fnExactPatternAtRow.holds Try.pinned (OpenSpec.ofChange fnExactPatternAtWrong)

/-- 'laws.FnExactPassEdit': WHATEVER THE INPUT: true; the input reads as it did. -/
def fnExactPassEditSpec : ChangeSpec := { name := "fnExactPassEdit", fn := fun _ => fun
  | [d1, d2, d3] => { results := [.lit (.bool true)], args := [d1, d2, d3] }
  | _ => none }
def fnExactPassEditRow : OpenClaim := { program := "ytcaeihdfljljbaa", sum := "1f71b069209a13ceca84a711b1027f3dfc79520434c479a7edeb304830395633", func := "loop.example/g01133/laws.FnExactPassEdit", spec := "fnExactPassEdit", unfollowed := true, recurses := true, plainKeys := false, apart := false }
def FnExactPassEditSaid : Prop := fnExactPassEditRow.holds Try.pinned (OpenSpec.ofChange fnExactPassEditSpec)

/-- ITS FALSE NEIGHBOUR: 'it returns false'. Refute it at one input. -/
def fnExactPassEditWrong : ChangeSpec := { name := "fnExactPassEdit", fn := fun _ => fun
  | [d1, d2, d3] => { results := [.lit (.bool false)], args := [d1, d2, d3] }
  | _ => none }
def FnExactPassEditWrongFalsely : Prop := fnExactPassEditRow.holds Try.pinned (OpenSpec.ofChange fnExactPassEditWrong)

/- THE SECOND FORM. 'bulk': how many values and letters a reading holds, each counted each time it is reached (what is shared counts as often as it is met; a slice's spare places count too). A statement '..UptoSaid' is the law's where the arguments, and the package variables that the reading takes, are together of bulk at most 1048576: NARROWER than '..Said'. Prove '..Said' where nothing that the law and all that it calls make is longer than what came in: it says more and counts as full. Else prove '..UptoSaid'. A law counts once. -/
mutual
def uptoBulk {H : Type} : DataW H → Nat
  | .lit (.string bytes) => bytes.length + 1
  | .lit _ => 1
  | .nil => 1
  | .ptr d => uptoBulk d + 1
  | .slice elems spare => uptoBulkAll elems + uptoBulkAll spare + 1
  | .agg parts => uptoBulkAll parts + 1
  | .iface _ d => uptoBulk d + 1
  | .map entries => uptoBulkEntries entries + 1
  | .held _ => 1
def uptoBulkAll {H : Type} : List (DataW H) → Nat
  | [] => 0
  | d :: r => uptoBulk d + uptoBulkAll r
def uptoBulkEntries {H : Type} : List (Lit × DataW H) → Nat
  | [] => 0
  | x :: r => uptoBulkEntry x + uptoBulkEntries r
def uptoBulkEntry {H : Type} : Lit × DataW H → Nat
  | (.string bytes, d) => bytes.length + uptoBulk d + 1
  | (_, d) => uptoBulk d + 1
 end
def uptoSmall : (H : Type) → List (DataW H) → Bool := fun _ ds => decide (uptoBulkAll ds ≤ 1048576)
def OpenSpec.upto (s : _root_.Go.ChangeSpec) : _root_.Go.OpenSpec := { _root_.Go.OpenSpec.ofChange s with cond := some uptoSmall }

/-- 'laws.FnExactValidDeed', WHERE WHAT IT READS IS OF BULK AT MOST 1048576: true; the input reads as it did. -/
def fnExactValidDeedUptoRow : OpenClaim := { program := "ytcaeihdfljljbaa", sum := "1f71b069209a13ceca84a711b1027f3dfc79520434c479a7edeb304830395633", func := "loop.example/g01133/laws.FnExactValidDeed", spec := "fnExactValidDeed", plainKeys := false, apart := false, narrowed := true }
def FnExactValidDeedUptoSaid : Prop := fnExactValidDeedUptoRow.holds Try.pinned (OpenSpec.upto fnExactValidDeedSpec)

/-- 'laws.FnExactValidDepot', WHERE WHAT IT READS IS OF BULK AT MOST 1048576: true; the input reads as it did. -/
def fnExactValidDepotUptoRow : OpenClaim := { program := "ytcaeihdfljljbaa", sum := "1f71b069209a13ceca84a711b1027f3dfc79520434c479a7edeb304830395633", func := "loop.example/g01133/laws.FnExactValidDepot", spec := "fnExactValidDepot", unfollowed := true, recurses := true, plainKeys := false, apart := false, narrowed := true }
def FnExactValidDepotUptoSaid : Prop := fnExactValidDepotUptoRow.holds Try.pinned (OpenSpec.upto fnExactValidDepotSpec)

/-- 'laws.FnExactLongestRuns', WHERE WHAT IT READS IS OF BULK AT MOST 1048576: true; the input reads as it did. -/
def fnExactLongestRunsUptoRow : OpenClaim := { program := "ytcaeihdfljljbaa", sum := "1f71b069209a13ceca84a711b1027f3dfc79520434c479a7edeb304830395633", func := "loop.example/g01133/laws.FnExactLongestRuns", spec := "fnExactLongestRuns", inPlace := ["internal/bytealg.IndexByteString", "internal/bytealg.IndexString"], unfollowed := true, recurses := true, named := ["internal/bytealg.MaxLen"], plainKeys := false, apart := false, narrowed := true }
def FnExactLongestRunsUptoSaid : Prop := fnExactLongestRunsUptoRow.holds Try.pinned (OpenSpec.upto fnExactLongestRunsSpec)

/-- 'laws.FnExactMapLetters', WHERE WHAT IT READS IS OF BULK AT MOST 1048576: true; the input reads as it did. -/
def fnExactMapLettersUptoRow : OpenClaim := { program := "ytcaeihdfljljbaa", sum := "1f71b069209a13ceca84a711b1027f3dfc79520434c479a7edeb304830395633", func := "loop.example/g01133/laws.FnExactMapLetters", spec := "fnExactMapLetters", inPlace := ["internal/bytealg.IndexByteString", "internal/bytealg.IndexString"], unfollowed := true, recurses := true, named := ["internal/bytealg.MaxLen"], plainKeys := false, apart := false, narrowed := true }
def FnExactMapLettersUptoSaid : Prop := fnExactMapLettersUptoRow.holds Try.pinned (OpenSpec.upto fnExactMapLettersSpec)

/-- 'laws.FnExactSparePower', WHERE WHAT IT READS IS OF BULK AT MOST 1048576: true; the input reads as it did. -/
def fnExactSparePowerUptoRow : OpenClaim := { program := "ytcaeihdfljljbaa", sum := "1f71b069209a13ceca84a711b1027f3dfc79520434c479a7edeb304830395633", func := "loop.example/g01133/laws.FnExactSparePower", spec := "fnExactSparePower", inPlace := ["internal/bytealg.IndexByteString", "internal/bytealg.IndexString"], unfollowed := true, recurses := true, named := ["internal/bytealg.MaxLen"], plainKeys := false, apart := false, narrowed := true }
def FnExactSparePowerUptoSaid : Prop := fnExactSparePowerUptoRow.holds Try.pinned (OpenSpec.upto fnExactSparePowerSpec)

/-- 'laws.FnExactFirstVisit', WHERE WHAT IT READS IS OF BULK AT MOST 1048576: true; the input reads as it did. -/
def fnExactFirstVisitUptoRow : OpenClaim := { program := "ytcaeihdfljljbaa", sum := "1f71b069209a13ceca84a711b1027f3dfc79520434c479a7edeb304830395633", func := "loop.example/g01133/laws.FnExactFirstVisit", spec := "fnExactFirstVisit", inPlace := ["internal/bytealg.IndexByteString", "internal/bytealg.IndexString"], unfollowed := true, recurses := true, named := ["internal/bytealg.MaxLen"], plainKeys := false, apart := false, narrowed := true }
def FnExactFirstVisitUptoSaid : Prop := fnExactFirstVisitUptoRow.holds Try.pinned (OpenSpec.upto fnExactFirstVisitSpec)

/-- 'laws.FnExactPatternAt', WHERE WHAT IT READS IS OF BULK AT MOST 1048576: true; the input reads as it did. -/
def fnExactPatternAtUptoRow : OpenClaim := { program := "ytcaeihdfljljbaa", sum := "1f71b069209a13ceca84a711b1027f3dfc79520434c479a7edeb304830395633", func := "loop.example/g01133/laws.FnExactPatternAt", spec := "fnExactPatternAt", inPlace := ["internal/bytealg.IndexByteString", "internal/bytealg.IndexString"], unfollowed := true, recurses := true, named := ["internal/bytealg.MaxLen"], plainKeys := false, apart := false, narrowed := true }
def FnExactPatternAtUptoSaid : Prop := fnExactPatternAtUptoRow.holds Try.pinned (OpenSpec.upto fnExactPatternAtSpec)

/-- 'laws.FnExactPassEdit', WHERE WHAT IT READS IS OF BULK AT MOST 1048576: true; the input reads as it did. -/
def fnExactPassEditUptoRow : OpenClaim := { program := "ytcaeihdfljljbaa", sum := "1f71b069209a13ceca84a711b1027f3dfc79520434c479a7edeb304830395633", func := "loop.example/g01133/laws.FnExactPassEdit", spec := "fnExactPassEdit", unfollowed := true, recurses := true, plainKeys := false, apart := false, narrowed := true }
def FnExactPassEditUptoSaid : Prop := fnExactPassEditUptoRow.holds Try.pinned (OpenSpec.upto fnExactPassEditSpec)

end Rows
end Go.Proofs.Ytcaeihdfljljbaa
