/-
  No cell of these rows narrows 'for every input' (looked for: loops, veiled, ifaces, maps, wideKeys, modest, calm, conditions, laid).
  DERIVED. THE GIVEN ROWS OF THIS SEAT. 14 by the template 'for every input the law returns true; each argument reads behind the call as it read before'; 0 by the template 'total and deterministic' (their statements: YtaffachjopjbgaaTotals.lean).
  GIVEN WITH THE SEED: the statements are not yours to turn. If you find one false, say at which input.
  Laid BY PROGRAM, IN A SANDBOX (cutbox-rows.mjs): the forced cells as the released guide's own fill.sh prints them over the translation fc65a5a7ad1c376a… (all of the seat's roots in one cut). By AI agents, Wed Nov 11 2026. No macro, syntax, notation, axiom, sorry.
-/
import Derived.Test.YtaffachjopjbgaaChecked
import GoSem.Claim
import GoSem.ClaimJoined
import GoSem.ClaimMapViews
import Derived.JoinedTies
import Derived.KernelRfl
namespace Go.Proofs.Ytaffachjopjbgaa
/- THE CELL 'sum', in the pinned program and in every row, IS THE sha256 OF THE DUMP (.gsa) THAT YtaffachjopjbgaaProg.lean LOADS. Nothing in Lean hashes anything: it is a label: what it is worth is what the hold of that sum in a sandbox is worth. -/
noncomputable def Try.pinned : Pinned := { name := "ytaffachjopjbgaa", sum := "fc65a5a7ad1c376a35498985f21b1deedc5a9f70b1d76f42d154955c1dc01ec0", checked := Try.checked }
namespace Rows
def none {H : Type} : Left H := { results := [], args := [] }

/-- 'laws.FnExactFirstVisit': WHATEVER THE INPUT: true; the input reads as it did. -/
def fnExactFirstVisitSpec : ChangeSpec := { name := "fnExactFirstVisit", fn := fun _ => fun
  | [d1, d2, d3] => { results := [.lit (.bool true)], args := [d1, d2, d3] }
  | _ => none }
def fnExactFirstVisitRow : OpenClaim := { program := "ytaffachjopjbgaa", sum := "fc65a5a7ad1c376a35498985f21b1deedc5a9f70b1d76f42d154955c1dc01ec0", func := "loop.example/g01133/laws.FnExactFirstVisit", spec := "fnExactFirstVisit", inPlace := ["internal/bytealg.IndexByteString", "internal/bytealg.IndexString"], unfollowed := true, recurses := true, named := ["internal/bytealg.MaxLen"], plainKeys := false, apart := false }
def FnExactFirstVisitSaid : Prop := fnExactFirstVisitRow.holds Try.pinned (OpenSpec.ofChange fnExactFirstVisitSpec)

/-- ITS FALSE NEIGHBOUR: 'it returns false'. Refute it at one input. -/
def fnExactFirstVisitWrong : ChangeSpec := { name := "fnExactFirstVisit", fn := fun _ => fun
  | [d1, d2, d3] => { results := [.lit (.bool false)], args := [d1, d2, d3] }
  | _ => none }
def FnExactFirstVisitWrongFalsely : Prop := fnExactFirstVisitRow.holds Try.pinned (OpenSpec.ofChange fnExactFirstVisitWrong)

/-- 'laws.FnExactPatternAt': WHATEVER THE INPUT: true; the input reads as it did. -/
def fnExactPatternAtSpec : ChangeSpec := { name := "fnExactPatternAt", fn := fun _ => fun
  | [d1, d2, d3] => { results := [.lit (.bool true)], args := [d1, d2, d3] }
  | _ => none }
def fnExactPatternAtRow : OpenClaim := { program := "ytaffachjopjbgaa", sum := "fc65a5a7ad1c376a35498985f21b1deedc5a9f70b1d76f42d154955c1dc01ec0", func := "loop.example/g01133/laws.FnExactPatternAt", spec := "fnExactPatternAt", inPlace := ["internal/bytealg.IndexByteString", "internal/bytealg.IndexString"], unfollowed := true, recurses := true, named := ["internal/bytealg.MaxLen"], plainKeys := false, apart := false }
def FnExactPatternAtSaid : Prop := fnExactPatternAtRow.holds Try.pinned (OpenSpec.ofChange fnExactPatternAtSpec)

/-- ITS FALSE NEIGHBOUR: 'it returns false'. Refute it at one input. -/
def fnExactPatternAtWrong : ChangeSpec := { name := "fnExactPatternAt", fn := fun _ => fun
  | [d1, d2, d3] => { results := [.lit (.bool false)], args := [d1, d2, d3] }
  | _ => none }
def FnExactPatternAtWrongFalsely : Prop := fnExactPatternAtRow.holds Try.pinned (OpenSpec.ofChange fnExactPatternAtWrong)

/-- 'laws.FnExactCountAccepted': WHATEVER THE INPUT: true; the input reads as it did. -/
def fnExactCountAcceptedSpec : ChangeSpec := { name := "fnExactCountAccepted", fn := fun _ => fun
  | [d1, d2] => { results := [.lit (.bool true)], args := [d1, d2] }
  | _ => none }
def fnExactCountAcceptedRow : OpenClaim := { program := "ytaffachjopjbgaa", sum := "fc65a5a7ad1c376a35498985f21b1deedc5a9f70b1d76f42d154955c1dc01ec0", func := "loop.example/g01133/laws.FnExactCountAccepted", spec := "fnExactCountAccepted", inPlace := ["internal/bytealg.IndexByteString", "internal/bytealg.IndexString"], unfollowed := true, recurses := true, named := ["internal/bytealg.MaxLen"], plainKeys := false, apart := false }
def FnExactCountAcceptedSaid : Prop := fnExactCountAcceptedRow.holds Try.pinned (OpenSpec.ofChange fnExactCountAcceptedSpec)

/-- ITS FALSE NEIGHBOUR: 'it returns false'. Refute it at one input. -/
def fnExactCountAcceptedWrong : ChangeSpec := { name := "fnExactCountAccepted", fn := fun _ => fun
  | [d1, d2] => { results := [.lit (.bool false)], args := [d1, d2] }
  | _ => none }
def FnExactCountAcceptedWrongFalsely : Prop := fnExactCountAcceptedRow.holds Try.pinned (OpenSpec.ofChange fnExactCountAcceptedWrong)

/-- 'laws.FnExactCountPattern': WHATEVER THE INPUT: true; the input reads as it did. -/
def fnExactCountPatternSpec : ChangeSpec := { name := "fnExactCountPattern", fn := fun _ => fun
  | [d1, d2] => { results := [.lit (.bool true)], args := [d1, d2] }
  | _ => none }
def fnExactCountPatternRow : OpenClaim := { program := "ytaffachjopjbgaa", sum := "fc65a5a7ad1c376a35498985f21b1deedc5a9f70b1d76f42d154955c1dc01ec0", func := "loop.example/g01133/laws.FnExactCountPattern", spec := "fnExactCountPattern", inPlace := ["internal/bytealg.IndexByteString", "internal/bytealg.IndexString"], unfollowed := true, recurses := true, named := ["internal/bytealg.MaxLen"], plainKeys := false, apart := false }
def FnExactCountPatternSaid : Prop := fnExactCountPatternRow.holds Try.pinned (OpenSpec.ofChange fnExactCountPatternSpec)

/-- ITS FALSE NEIGHBOUR: 'it returns false'. Refute it at one input. -/
def fnExactCountPatternWrong : ChangeSpec := { name := "fnExactCountPattern", fn := fun _ => fun
  | [d1, d2] => { results := [.lit (.bool false)], args := [d1, d2] }
  | _ => none }
def FnExactCountPatternWrongFalsely : Prop := fnExactCountPatternRow.holds Try.pinned (OpenSpec.ofChange fnExactCountPatternWrong)

/-- 'laws.FnExactNextPattern': WHATEVER THE INPUT: true; the input reads as it did. -/
def fnExactNextPatternSpec : ChangeSpec := { name := "fnExactNextPattern", fn := fun _ => fun
  | [d1, d2, d3] => { results := [.lit (.bool true)], args := [d1, d2, d3] }
  | _ => none }
def fnExactNextPatternRow : OpenClaim := { program := "ytaffachjopjbgaa", sum := "fc65a5a7ad1c376a35498985f21b1deedc5a9f70b1d76f42d154955c1dc01ec0", func := "loop.example/g01133/laws.FnExactNextPattern", spec := "fnExactNextPattern", inPlace := ["internal/bytealg.IndexByteString", "internal/bytealg.IndexString"], unfollowed := true, recurses := true, named := ["internal/bytealg.MaxLen"], plainKeys := false, apart := false }
def FnExactNextPatternSaid : Prop := fnExactNextPatternRow.holds Try.pinned (OpenSpec.ofChange fnExactNextPatternSpec)

/-- ITS FALSE NEIGHBOUR: 'it returns false'. Refute it at one input. -/
def fnExactNextPatternWrong : ChangeSpec := { name := "fnExactNextPattern", fn := fun _ => fun
  | [d1, d2, d3] => { results := [.lit (.bool false)], args := [d1, d2, d3] }
  | _ => none }
def FnExactNextPatternWrongFalsely : Prop := fnExactNextPatternRow.holds Try.pinned (OpenSpec.ofChange fnExactNextPatternWrong)

/-- 'laws.FnExactVisitCounts': WHATEVER THE INPUT: true; the input reads as it did. -/
def fnExactVisitCountsSpec : ChangeSpec := { name := "fnExactVisitCounts", fn := fun _ => fun
  | [d1, d2] => { results := [.lit (.bool true)], args := [d1, d2] }
  | _ => none }
def fnExactVisitCountsRow : OpenClaim := { program := "ytaffachjopjbgaa", sum := "fc65a5a7ad1c376a35498985f21b1deedc5a9f70b1d76f42d154955c1dc01ec0", func := "loop.example/g01133/laws.FnExactVisitCounts", spec := "fnExactVisitCounts", inPlace := ["internal/bytealg.IndexByteString", "internal/bytealg.IndexString"], unfollowed := true, recurses := true, named := ["internal/bytealg.MaxLen"], plainKeys := false, apart := false }
def FnExactVisitCountsSaid : Prop := fnExactVisitCountsRow.holds Try.pinned (OpenSpec.ofChange fnExactVisitCountsSpec)

/-- ITS FALSE NEIGHBOUR: 'it returns false'. Refute it at one input. -/
def fnExactVisitCountsWrong : ChangeSpec := { name := "fnExactVisitCounts", fn := fun _ => fun
  | [d1, d2] => { results := [.lit (.bool false)], args := [d1, d2] }
  | _ => none }
def FnExactVisitCountsWrongFalsely : Prop := fnExactVisitCountsRow.holds Try.pinned (OpenSpec.ofChange fnExactVisitCountsWrong)

/-- 'laws.FnExactBothAuto': WHATEVER THE INPUT: true; the input reads as it did. -/
def fnExactBothAutoSpec : ChangeSpec := { name := "fnExactBothAuto", fn := fun _ => fun
  | [d1, d2] => { results := [.lit (.bool true)], args := [d1, d2] }
  | _ => none }
def fnExactBothAutoRow : OpenClaim := { program := "ytaffachjopjbgaa", sum := "fc65a5a7ad1c376a35498985f21b1deedc5a9f70b1d76f42d154955c1dc01ec0", func := "loop.example/g01133/laws.FnExactBothAuto", spec := "fnExactBothAuto", unfollowed := true, recurses := true, plainKeys := false, apart := false }
def FnExactBothAutoSaid : Prop := fnExactBothAutoRow.holds Try.pinned (OpenSpec.ofChange fnExactBothAutoSpec)

/-- ITS FALSE NEIGHBOUR: 'it returns false'. Refute it at one input. -/
def fnExactBothAutoWrong : ChangeSpec := { name := "fnExactBothAuto", fn := fun _ => fun
  | [d1, d2] => { results := [.lit (.bool false)], args := [d1, d2] }
  | _ => none }
def FnExactBothAutoWrongFalsely : Prop := fnExactBothAutoRow.holds Try.pinned (OpenSpec.ofChange fnExactBothAutoWrong)

/-- 'laws.FnExactPatternAuto': WHATEVER THE INPUT: true; the input reads as it did. -/
def fnExactPatternAutoSpec : ChangeSpec := { name := "fnExactPatternAuto", fn := fun _ => fun
  | [d] => { results := [.lit (.bool true)], args := [d] }
  | _ => none }
def fnExactPatternAutoRow : OpenClaim := { program := "ytaffachjopjbgaa", sum := "fc65a5a7ad1c376a35498985f21b1deedc5a9f70b1d76f42d154955c1dc01ec0", func := "loop.example/g01133/laws.FnExactPatternAuto", spec := "fnExactPatternAuto", plainKeys := false, apart := false }
def FnExactPatternAutoSaid : Prop := fnExactPatternAutoRow.holds Try.pinned (OpenSpec.ofChange fnExactPatternAutoSpec)

/-- ITS FALSE NEIGHBOUR: 'it returns false'. Refute it at one input. -/
def fnExactPatternAutoWrong : ChangeSpec := { name := "fnExactPatternAuto", fn := fun _ => fun
  | [d] => { results := [.lit (.bool false)], args := [d] }
  | _ => none }
def FnExactPatternAutoWrongFalsely : Prop := fnExactPatternAutoRow.holds Try.pinned (OpenSpec.ofChange fnExactPatternAutoWrong)

/-- 'laws.FnExactCodedLength': WHATEVER THE INPUT: true; the input reads as it did. -/
def fnExactCodedLengthSpec : ChangeSpec := { name := "fnExactCodedLength", fn := fun _ => fun
  | [d1, d2] => { results := [.lit (.bool true)], args := [d1, d2] }
  | _ => none }
def fnExactCodedLengthRow : OpenClaim := { program := "ytaffachjopjbgaa", sum := "fc65a5a7ad1c376a35498985f21b1deedc5a9f70b1d76f42d154955c1dc01ec0", func := "loop.example/g01133/laws.FnExactCodedLength", spec := "fnExactCodedLength", inPlace := ["internal/bytealg.IndexByteString", "internal/bytealg.IndexString"], unfollowed := true, recurses := true, named := ["internal/bytealg.MaxLen"], plainKeys := false, apart := false }
def FnExactCodedLengthSaid : Prop := fnExactCodedLengthRow.holds Try.pinned (OpenSpec.ofChange fnExactCodedLengthSpec)

/-- ITS FALSE NEIGHBOUR: 'it returns false'. Refute it at one input. -/
def fnExactCodedLengthWrong : ChangeSpec := { name := "fnExactCodedLength", fn := fun _ => fun
  | [d1, d2] => { results := [.lit (.bool false)], args := [d1, d2] }
  | _ => none }
def FnExactCodedLengthWrongFalsely : Prop := fnExactCodedLengthRow.holds Try.pinned (OpenSpec.ofChange fnExactCodedLengthWrong)

/-- 'laws.FnExactPairCounts': WHATEVER THE INPUT: true; the input reads as it did. -/
def fnExactPairCountsSpec : ChangeSpec := { name := "fnExactPairCounts", fn := fun _ => fun
  | [d] => { results := [.lit (.bool true)], args := [d] }
  | _ => none }
def fnExactPairCountsRow : OpenClaim := { program := "ytaffachjopjbgaa", sum := "fc65a5a7ad1c376a35498985f21b1deedc5a9f70b1d76f42d154955c1dc01ec0", func := "loop.example/g01133/laws.FnExactPairCounts", spec := "fnExactPairCounts", inPlace := ["internal/bytealg.IndexByteString", "internal/bytealg.IndexString"], unfollowed := true, recurses := true, named := ["internal/bytealg.MaxLen"], plainKeys := false, apart := false }
def FnExactPairCountsSaid : Prop := fnExactPairCountsRow.holds Try.pinned (OpenSpec.ofChange fnExactPairCountsSpec)

/-- ITS FALSE NEIGHBOUR: 'it returns false'. Refute it at one input. -/
def fnExactPairCountsWrong : ChangeSpec := { name := "fnExactPairCounts", fn := fun _ => fun
  | [d] => { results := [.lit (.bool false)], args := [d] }
  | _ => none }
def FnExactPairCountsWrongFalsely : Prop := fnExactPairCountsRow.holds Try.pinned (OpenSpec.ofChange fnExactPairCountsWrong)

/-- 'laws.FnExactRunCount': WHATEVER THE INPUT: true; the input reads as it did. -/
def fnExactRunCountSpec : ChangeSpec := { name := "fnExactRunCount", fn := fun _ => fun
  | [d] => { results := [.lit (.bool true)], args := [d] }
  | _ => none }
def fnExactRunCountRow : OpenClaim := { program := "ytaffachjopjbgaa", sum := "fc65a5a7ad1c376a35498985f21b1deedc5a9f70b1d76f42d154955c1dc01ec0", func := "loop.example/g01133/laws.FnExactRunCount", spec := "fnExactRunCount", inPlace := ["internal/bytealg.IndexByteString", "internal/bytealg.IndexString"], unfollowed := true, recurses := true, named := ["internal/bytealg.MaxLen"], plainKeys := false, apart := false }
def FnExactRunCountSaid : Prop := fnExactRunCountRow.holds Try.pinned (OpenSpec.ofChange fnExactRunCountSpec)

/-- ITS FALSE NEIGHBOUR: 'it returns false'. Refute it at one input. -/
def fnExactRunCountWrong : ChangeSpec := { name := "fnExactRunCount", fn := fun _ => fun
  | [d] => { results := [.lit (.bool false)], args := [d] }
  | _ => none }
def FnExactRunCountWrongFalsely : Prop := fnExactRunCountRow.holds Try.pinned (OpenSpec.ofChange fnExactRunCountWrong)

/-- 'laws.FnExactMapLetters': WHATEVER THE INPUT: true; the input reads as it did. -/
def fnExactMapLettersSpec : ChangeSpec := { name := "fnExactMapLetters", fn := fun _ => fun
  | [d1, d2] => { results := [.lit (.bool true)], args := [d1, d2] }
  | _ => none }
def fnExactMapLettersRow : OpenClaim := { program := "ytaffachjopjbgaa", sum := "fc65a5a7ad1c376a35498985f21b1deedc5a9f70b1d76f42d154955c1dc01ec0", func := "loop.example/g01133/laws.FnExactMapLetters", spec := "fnExactMapLetters", inPlace := ["internal/bytealg.IndexByteString", "internal/bytealg.IndexString"], unfollowed := true, recurses := true, named := ["internal/bytealg.MaxLen"], plainKeys := false, apart := false }
def FnExactMapLettersSaid : Prop := fnExactMapLettersRow.holds Try.pinned (OpenSpec.ofChange fnExactMapLettersSpec)

/-- ITS FALSE NEIGHBOUR: 'it returns false'. Refute it at one input. -/
def fnExactMapLettersWrong : ChangeSpec := { name := "fnExactMapLetters", fn := fun _ => fun
  | [d1, d2] => { results := [.lit (.bool false)], args := [d1, d2] }
  | _ => none }
def FnExactMapLettersWrongFalsely : Prop := fnExactMapLettersRow.holds Try.pinned (OpenSpec.ofChange fnExactMapLettersWrong)

/-- 'laws.FnExactSparePower': WHATEVER THE INPUT: true; the input reads as it did. -/
def fnExactSparePowerSpec : ChangeSpec := { name := "fnExactSparePower", fn := fun _ => fun
  | [d1, d2] => { results := [.lit (.bool true)], args := [d1, d2] }
  | _ => none }
def fnExactSparePowerRow : OpenClaim := { program := "ytaffachjopjbgaa", sum := "fc65a5a7ad1c376a35498985f21b1deedc5a9f70b1d76f42d154955c1dc01ec0", func := "loop.example/g01133/laws.FnExactSparePower", spec := "fnExactSparePower", inPlace := ["internal/bytealg.IndexByteString", "internal/bytealg.IndexString"], unfollowed := true, recurses := true, named := ["internal/bytealg.MaxLen"], plainKeys := false, apart := false }
def FnExactSparePowerSaid : Prop := fnExactSparePowerRow.holds Try.pinned (OpenSpec.ofChange fnExactSparePowerSpec)

/-- ITS FALSE NEIGHBOUR: 'it returns false'. Refute it at one input. -/
def fnExactSparePowerWrong : ChangeSpec := { name := "fnExactSparePower", fn := fun _ => fun
  | [d1, d2] => { results := [.lit (.bool false)], args := [d1, d2] }
  | _ => none }
def FnExactSparePowerWrongFalsely : Prop := fnExactSparePowerRow.holds Try.pinned (OpenSpec.ofChange fnExactSparePowerWrong)

/-- 'laws.FnExactPassEdit': WHATEVER THE INPUT: true; the input reads as it did. -/
def fnExactPassEditSpec : ChangeSpec := { name := "fnExactPassEdit", fn := fun _ => fun
  | [d1, d2, d3] => { results := [.lit (.bool true)], args := [d1, d2, d3] }
  | _ => none }
def fnExactPassEditRow : OpenClaim := { program := "ytaffachjopjbgaa", sum := "fc65a5a7ad1c376a35498985f21b1deedc5a9f70b1d76f42d154955c1dc01ec0", func := "loop.example/g01133/laws.FnExactPassEdit", spec := "fnExactPassEdit", unfollowed := true, recurses := true, plainKeys := false, apart := false }
def FnExactPassEditSaid : Prop := fnExactPassEditRow.holds Try.pinned (OpenSpec.ofChange fnExactPassEditSpec)

/-- ITS FALSE NEIGHBOUR: 'it returns false'. Refute it at one input. -/
def fnExactPassEditWrong : ChangeSpec := { name := "fnExactPassEdit", fn := fun _ => fun
  | [d1, d2, d3] => { results := [.lit (.bool false)], args := [d1, d2, d3] }
  | _ => none }
def FnExactPassEditWrongFalsely : Prop := fnExactPassEditRow.holds Try.pinned (OpenSpec.ofChange fnExactPassEditWrong)

/- THE SECOND FORM. 'bulk': how many values and letters a reading holds, each counted each time it is reached (what is shared counts as often as it is met; a slice's spare places count too). A statement '..UptoSaid' is the law's where the arguments, and the package variables that the reading takes, are together of bulk at most 1048576: NARROWER than '..Said'. Prove '..Said' where nothing that the law and all that it calls make is longer than what came in: it says more and counts as full. Else prove '..UptoSaid'. A law counts once. -/
mutual
def uptoBulk {H : Type} : DataW H → Nat
  | .lit (.string bytes) => bytes.length + 1
  | .lit _ => 1
  | .nil => 1
  | .ptr d => uptoBulk d + 1
  | .slice elems spare => uptoBulkAll elems + uptoBulkAll spare + 1
  | .agg parts => uptoBulkAll parts + 1
  | .iface _ d => uptoBulk d + 1
  | .map entries => uptoBulkEntries entries + 1
  | .held _ => 1
def uptoBulkAll {H : Type} : List (DataW H) → Nat
  | [] => 0
  | d :: r => uptoBulk d + uptoBulkAll r
def uptoBulkEntries {H : Type} : List (Lit × DataW H) → Nat
  | [] => 0
  | x :: r => uptoBulkEntry x + uptoBulkEntries r
def uptoBulkEntry {H : Type} : Lit × DataW H → Nat
  | (.string bytes, d) => bytes.length + uptoBulk d + 1
  | (_, d) => uptoBulk d + 1
 end
def uptoSmall : (H : Type) → List (DataW H) → Bool := fun _ ds => decide (uptoBulkAll ds ≤ 1048576)
def OpenSpec.upto (s : _root_.Go.ChangeSpec) : _root_.Go.OpenSpec := { _root_.Go.OpenSpec.ofChange s with cond := some uptoSmall }

/-- 'laws.FnExactFirstVisit', WHERE WHAT IT READS IS OF BULK AT MOST 1048576: true; the input reads as it did. -/
def fnExactFirstVisitUptoRow : OpenClaim := { program := "ytaffachjopjbgaa", sum := "fc65a5a7ad1c376a35498985f21b1deedc5a9f70b1d76f42d154955c1dc01ec0", func := "loop.example/g01133/laws.FnExactFirstVisit", spec := "fnExactFirstVisit", inPlace := ["internal/bytealg.IndexByteString", "internal/bytealg.IndexString"], unfollowed := true, recurses := true, named := ["internal/bytealg.MaxLen"], plainKeys := false, apart := false, narrowed := true }
def FnExactFirstVisitUptoSaid : Prop := fnExactFirstVisitUptoRow.holds Try.pinned (OpenSpec.upto fnExactFirstVisitSpec)

/-- 'laws.FnExactPatternAt', WHERE WHAT IT READS IS OF BULK AT MOST 1048576: true; the input reads as it did. -/
def fnExactPatternAtUptoRow : OpenClaim := { program := "ytaffachjopjbgaa", sum := "fc65a5a7ad1c376a35498985f21b1deedc5a9f70b1d76f42d154955c1dc01ec0", func := "loop.example/g01133/laws.FnExactPatternAt", spec := "fnExactPatternAt", inPlace := ["internal/bytealg.IndexByteString", "internal/bytealg.IndexString"], unfollowed := true, recurses := true, named := ["internal/bytealg.MaxLen"], plainKeys := false, apart := false, narrowed := true }
def FnExactPatternAtUptoSaid : Prop := fnExactPatternAtUptoRow.holds Try.pinned (OpenSpec.upto fnExactPatternAtSpec)

/-- 'laws.FnExactCountAccepted', WHERE WHAT IT READS IS OF BULK AT MOST 1048576: true; the input reads as it did. -/
def fnExactCountAcceptedUptoRow : OpenClaim := { program := "ytaffachjopjbgaa", sum := "fc65a5a7ad1c376a35498985f21b1deedc5a9f70b1d76f42d154955c1dc01ec0", func := "loop.example/g01133/laws.FnExactCountAccepted", spec := "fnExactCountAccepted", inPlace := ["internal/bytealg.IndexByteString", "internal/bytealg.IndexString"], unfollowed := true, recurses := true, named := ["internal/bytealg.MaxLen"], plainKeys := false, apart := false, narrowed := true }
def FnExactCountAcceptedUptoSaid : Prop := fnExactCountAcceptedUptoRow.holds Try.pinned (OpenSpec.upto fnExactCountAcceptedSpec)

/-- 'laws.FnExactCountPattern', WHERE WHAT IT READS IS OF BULK AT MOST 1048576: true; the input reads as it did. -/
def fnExactCountPatternUptoRow : OpenClaim := { program := "ytaffachjopjbgaa", sum := "fc65a5a7ad1c376a35498985f21b1deedc5a9f70b1d76f42d154955c1dc01ec0", func := "loop.example/g01133/laws.FnExactCountPattern", spec := "fnExactCountPattern", inPlace := ["internal/bytealg.IndexByteString", "internal/bytealg.IndexString"], unfollowed := true, recurses := true, named := ["internal/bytealg.MaxLen"], plainKeys := false, apart := false, narrowed := true }
def FnExactCountPatternUptoSaid : Prop := fnExactCountPatternUptoRow.holds Try.pinned (OpenSpec.upto fnExactCountPatternSpec)

/-- 'laws.FnExactNextPattern', WHERE WHAT IT READS IS OF BULK AT MOST 1048576: true; the input reads as it did. -/
def fnExactNextPatternUptoRow : OpenClaim := { program := "ytaffachjopjbgaa", sum := "fc65a5a7ad1c376a35498985f21b1deedc5a9f70b1d76f42d154955c1dc01ec0", func := "loop.example/g01133/laws.FnExactNextPattern", spec := "fnExactNextPattern", inPlace := ["internal/bytealg.IndexByteString", "internal/bytealg.IndexString"], unfollowed := true, recurses := true, named := ["internal/bytealg.MaxLen"], plainKeys := false, apart := false, narrowed := true }
def FnExactNextPatternUptoSaid : Prop := fnExactNextPatternUptoRow.holds Try.pinned (OpenSpec.upto fnExactNextPatternSpec)

/-- 'laws.FnExactVisitCounts', WHERE WHAT IT READS IS OF BULK AT MOST 1048576: true; the input reads as it did. -/
def fnExactVisitCountsUptoRow : OpenClaim := { program := "ytaffachjopjbgaa", sum := "fc65a5a7ad1c376a35498985f21b1deedc5a9f70b1d76f42d154955c1dc01ec0", func := "loop.example/g01133/laws.FnExactVisitCounts", spec := "fnExactVisitCounts", inPlace := ["internal/bytealg.IndexByteString", "internal/bytealg.IndexString"], unfollowed := true, recurses := true, named := ["internal/bytealg.MaxLen"], plainKeys := false, apart := false, narrowed := true }
def FnExactVisitCountsUptoSaid : Prop := fnExactVisitCountsUptoRow.holds Try.pinned (OpenSpec.upto fnExactVisitCountsSpec)

/-- 'laws.FnExactBothAuto', WHERE WHAT IT READS IS OF BULK AT MOST 1048576: true; the input reads as it did. -/
def fnExactBothAutoUptoRow : OpenClaim := { program := "ytaffachjopjbgaa", sum := "fc65a5a7ad1c376a35498985f21b1deedc5a9f70b1d76f42d154955c1dc01ec0", func := "loop.example/g01133/laws.FnExactBothAuto", spec := "fnExactBothAuto", unfollowed := true, recurses := true, plainKeys := false, apart := false, narrowed := true }
def FnExactBothAutoUptoSaid : Prop := fnExactBothAutoUptoRow.holds Try.pinned (OpenSpec.upto fnExactBothAutoSpec)

/-- 'laws.FnExactPatternAuto', WHERE WHAT IT READS IS OF BULK AT MOST 1048576: true; the input reads as it did. -/
def fnExactPatternAutoUptoRow : OpenClaim := { program := "ytaffachjopjbgaa", sum := "fc65a5a7ad1c376a35498985f21b1deedc5a9f70b1d76f42d154955c1dc01ec0", func := "loop.example/g01133/laws.FnExactPatternAuto", spec := "fnExactPatternAuto", plainKeys := false, apart := false, narrowed := true }
def FnExactPatternAutoUptoSaid : Prop := fnExactPatternAutoUptoRow.holds Try.pinned (OpenSpec.upto fnExactPatternAutoSpec)

/-- 'laws.FnExactCodedLength', WHERE WHAT IT READS IS OF BULK AT MOST 1048576: true; the input reads as it did. -/
def fnExactCodedLengthUptoRow : OpenClaim := { program := "ytaffachjopjbgaa", sum := "fc65a5a7ad1c376a35498985f21b1deedc5a9f70b1d76f42d154955c1dc01ec0", func := "loop.example/g01133/laws.FnExactCodedLength", spec := "fnExactCodedLength", inPlace := ["internal/bytealg.IndexByteString", "internal/bytealg.IndexString"], unfollowed := true, recurses := true, named := ["internal/bytealg.MaxLen"], plainKeys := false, apart := false, narrowed := true }
def FnExactCodedLengthUptoSaid : Prop := fnExactCodedLengthUptoRow.holds Try.pinned (OpenSpec.upto fnExactCodedLengthSpec)

/-- 'laws.FnExactPairCounts', WHERE WHAT IT READS IS OF BULK AT MOST 1048576: true; the input reads as it did. -/
def fnExactPairCountsUptoRow : OpenClaim := { program := "ytaffachjopjbgaa", sum := "fc65a5a7ad1c376a35498985f21b1deedc5a9f70b1d76f42d154955c1dc01ec0", func := "loop.example/g01133/laws.FnExactPairCounts", spec := "fnExactPairCounts", inPlace := ["internal/bytealg.IndexByteString", "internal/bytealg.IndexString"], unfollowed := true, recurses := true, named := ["internal/bytealg.MaxLen"], plainKeys := false, apart := false, narrowed := true }
def FnExactPairCountsUptoSaid : Prop := fnExactPairCountsUptoRow.holds Try.pinned (OpenSpec.upto fnExactPairCountsSpec)

/-- 'laws.FnExactRunCount', WHERE WHAT IT READS IS OF BULK AT MOST 1048576: true; the input reads as it did. -/
def fnExactRunCountUptoRow : OpenClaim := { program := "ytaffachjopjbgaa", sum := "fc65a5a7ad1c376a35498985f21b1deedc5a9f70b1d76f42d154955c1dc01ec0", func := "loop.example/g01133/laws.FnExactRunCount", spec := "fnExactRunCount", inPlace := ["internal/bytealg.IndexByteString", "internal/bytealg.IndexString"], unfollowed := true, recurses := true, named := ["internal/bytealg.MaxLen"], plainKeys := false, apart := false, narrowed := true }
def FnExactRunCountUptoSaid : Prop := fnExactRunCountUptoRow.holds Try.pinned (OpenSpec.upto fnExactRunCountSpec)

/-- 'laws.FnExactMapLetters', WHERE WHAT IT READS IS OF BULK AT MOST 1048576: true; the input reads as it did. -/
def fnExactMapLettersUptoRow : OpenClaim := { program := "ytaffachjopjbgaa", sum := "fc65a5a7ad1c376a35498985f21b1deedc5a9f70b1d76f42d154955c1dc01ec0", func := "loop.example/g01133/laws.FnExactMapLetters", spec := "fnExactMapLetters", inPlace := ["internal/bytealg.IndexByteString", "internal/bytealg.IndexString"], unfollowed := true, recurses := true, named := ["internal/bytealg.MaxLen"], plainKeys := false, apart := false, narrowed := true }
def FnExactMapLettersUptoSaid : Prop := fnExactMapLettersUptoRow.holds Try.pinned (OpenSpec.upto fnExactMapLettersSpec)

/-- 'laws.FnExactSparePower', WHERE WHAT IT READS IS OF BULK AT MOST 1048576: true; the input reads as it did. -/
def fnExactSparePowerUptoRow : OpenClaim := { program := "ytaffachjopjbgaa", sum := "fc65a5a7ad1c376a35498985f21b1deedc5a9f70b1d76f42d154955c1dc01ec0", func := "loop.example/g01133/laws.FnExactSparePower", spec := "fnExactSparePower", inPlace := ["internal/bytealg.IndexByteString", "internal/bytealg.IndexString"], unfollowed := true, recurses := true, named := ["internal/bytealg.MaxLen"], plainKeys := false, apart := false, narrowed := true }
def FnExactSparePowerUptoSaid : Prop := fnExactSparePowerUptoRow.holds Try.pinned (OpenSpec.upto fnExactSparePowerSpec)

/-- 'laws.FnExactPassEdit', WHERE WHAT IT READS IS OF BULK AT MOST 1048576: true; the input reads as it did. -/
def fnExactPassEditUptoRow : OpenClaim := { program := "ytaffachjopjbgaa", sum := "fc65a5a7ad1c376a35498985f21b1deedc5a9f70b1d76f42d154955c1dc01ec0", func := "loop.example/g01133/laws.FnExactPassEdit", spec := "fnExactPassEdit", unfollowed := true, recurses := true, plainKeys := false, apart := false, narrowed := true }
def FnExactPassEditUptoSaid : Prop := fnExactPassEditUptoRow.holds Try.pinned (OpenSpec.upto fnExactPassEditSpec)

end Rows
end Go.Proofs.Ytaffachjopjbgaa
