/-
  No cell of these rows narrows 'for every input' (looked for: loops, veiled, ifaces, maps, wideKeys, modest, calm, conditions, laid).
  DERIVED. THE GIVEN ROWS OF THIS SEAT. 10 by the template 'for every input the law returns true; each argument reads behind the call as it read before'; 0 by the template 'total and deterministic' (their statements: YtkkbanbhiojllaaTotals.lean).
  GIVEN WITH THE SEED: the statements are not yours to turn. If you find one false, say at which input.
  Laid BY PROGRAM, IN A SANDBOX (cutbox-rows.mjs): the forced cells as the released guide's own fill.sh prints them over the translation 55432087dd0cbc19… (all of the seat's roots in one cut). By AI agents, Wed Nov 11 2026. No macro, syntax, notation, axiom, sorry.
-/
import Derived.Test.YtkkbanbhiojllaaChecked
import GoSem.Claim
import GoSem.ClaimJoined
import GoSem.ClaimMapViews
import Derived.JoinedTies
import Derived.KernelRfl
namespace Go.Proofs.Ytkkbanbhiojllaa
/- THE CELL 'sum', in the pinned program and in every row, IS THE sha256 OF THE DUMP (.gsa) THAT YtkkbanbhiojllaaProg.lean LOADS. Nothing in Lean hashes anything: it is a label: what it is worth is what the hold of that sum in a sandbox is worth. -/
noncomputable def Try.pinned : Pinned := { name := "ytkkbanbhiojllaa", sum := "55432087dd0cbc19eb25ade1f585c50b1a87f46c71126b8f3d0708468f28ee0b", checked := Try.checked }
namespace Rows
def none {H : Type} : Left H := { results := [], args := [] }

/-- 'laws.FnExactClimbOf': WHATEVER THE INPUT: true; the input reads as it did. -/
def fnExactClimbOfSpec : ChangeSpec := { name := "fnExactClimbOf", fn := fun _ => fun
  | [d1, d2] => { results := [.lit (.bool true)], args := [d1, d2] }
  | _ => none }
def fnExactClimbOfRow : OpenClaim := { program := "ytkkbanbhiojllaa", sum := "55432087dd0cbc19eb25ade1f585c50b1a87f46c71126b8f3d0708468f28ee0b", func := "loop.example/g01133/laws.FnExactClimbOf", spec := "fnExactClimbOf", inPlace := ["internal/bytealg.IndexByteString", "internal/bytealg.IndexString"], unfollowed := true, recurses := true, named := ["internal/bytealg.MaxLen"], apart := false }
def FnExactClimbOfSaid : Prop := fnExactClimbOfRow.holds Try.pinned (OpenSpec.ofChange fnExactClimbOfSpec)

/-- ITS FALSE NEIGHBOUR: 'it returns false'. Refute it at one input. -/
def fnExactClimbOfWrong : ChangeSpec := { name := "fnExactClimbOf", fn := fun _ => fun
  | [d1, d2] => { results := [.lit (.bool false)], args := [d1, d2] }
  | _ => none }
def FnExactClimbOfWrongFalsely : Prop := fnExactClimbOfRow.holds Try.pinned (OpenSpec.ofChange fnExactClimbOfWrong)

/-- 'laws.FnExactIsBalanced': WHATEVER THE INPUT: true; the input reads as it did. -/
def fnExactIsBalancedSpec : ChangeSpec := { name := "fnExactIsBalanced", fn := fun _ => fun
  | [d1, d2, d3] => { results := [.lit (.bool true)], args := [d1, d2, d3] }
  | _ => none }
def fnExactIsBalancedRow : OpenClaim := { program := "ytkkbanbhiojllaa", sum := "55432087dd0cbc19eb25ade1f585c50b1a87f46c71126b8f3d0708468f28ee0b", func := "loop.example/g01133/laws.FnExactIsBalanced", spec := "fnExactIsBalanced", inPlace := ["internal/bytealg.IndexByteString", "internal/bytealg.IndexString"], unfollowed := true, recurses := true, named := ["internal/bytealg.MaxLen"], apart := false }
def FnExactIsBalancedSaid : Prop := fnExactIsBalancedRow.holds Try.pinned (OpenSpec.ofChange fnExactIsBalancedSpec)

/-- ITS FALSE NEIGHBOUR: 'it returns false'. Refute it at one input. -/
def fnExactIsBalancedWrong : ChangeSpec := { name := "fnExactIsBalanced", fn := fun _ => fun
  | [d1, d2, d3] => { results := [.lit (.bool false)], args := [d1, d2, d3] }
  | _ => none }
def FnExactIsBalancedWrongFalsely : Prop := fnExactIsBalancedRow.holds Try.pinned (OpenSpec.ofChange fnExactIsBalancedWrong)

/-- 'laws.FnExactFirstBelow': WHATEVER THE INPUT: true; the input reads as it did. -/
def fnExactFirstBelowSpec : ChangeSpec := { name := "fnExactFirstBelow", fn := fun _ => fun
  | [d1, d2, d3] => { results := [.lit (.bool true)], args := [d1, d2, d3] }
  | _ => none }
def fnExactFirstBelowRow : OpenClaim := { program := "ytkkbanbhiojllaa", sum := "55432087dd0cbc19eb25ade1f585c50b1a87f46c71126b8f3d0708468f28ee0b", func := "loop.example/g01133/laws.FnExactFirstBelow", spec := "fnExactFirstBelow", inPlace := ["internal/bytealg.IndexByteString", "internal/bytealg.IndexString"], unfollowed := true, recurses := true, named := ["internal/bytealg.MaxLen"], apart := false }
def FnExactFirstBelowSaid : Prop := fnExactFirstBelowRow.holds Try.pinned (OpenSpec.ofChange fnExactFirstBelowSpec)

/-- ITS FALSE NEIGHBOUR: 'it returns false'. Refute it at one input. -/
def fnExactFirstBelowWrong : ChangeSpec := { name := "fnExactFirstBelow", fn := fun _ => fun
  | [d1, d2, d3] => { results := [.lit (.bool false)], args := [d1, d2, d3] }
  | _ => none }
def FnExactFirstBelowWrongFalsely : Prop := fnExactFirstBelowRow.holds Try.pinned (OpenSpec.ofChange fnExactFirstBelowWrong)

/-- 'laws.FnExactClimbAt': WHATEVER THE INPUT: true; the input reads as it did. -/
def fnExactClimbAtSpec : ChangeSpec := { name := "fnExactClimbAt", fn := fun _ => fun
  | [d1, d2, d3] => { results := [.lit (.bool true)], args := [d1, d2, d3] }
  | _ => none }
def fnExactClimbAtRow : OpenClaim := { program := "ytkkbanbhiojllaa", sum := "55432087dd0cbc19eb25ade1f585c50b1a87f46c71126b8f3d0708468f28ee0b", func := "loop.example/g01133/laws.FnExactClimbAt", spec := "fnExactClimbAt", inPlace := ["internal/bytealg.IndexByteString", "internal/bytealg.IndexString"], unfollowed := true, recurses := true, named := ["internal/bytealg.MaxLen"], apart := false }
def FnExactClimbAtSaid : Prop := fnExactClimbAtRow.holds Try.pinned (OpenSpec.ofChange fnExactClimbAtSpec)

/-- ITS FALSE NEIGHBOUR: 'it returns false'. Refute it at one input. -/
def fnExactClimbAtWrong : ChangeSpec := { name := "fnExactClimbAt", fn := fun _ => fun
  | [d1, d2, d3] => { results := [.lit (.bool false)], args := [d1, d2, d3] }
  | _ => none }
def FnExactClimbAtWrongFalsely : Prop := fnExactClimbAtRow.holds Try.pinned (OpenSpec.ofChange fnExactClimbAtWrong)

/-- 'laws.FnExactLongestRuns': WHATEVER THE INPUT: true; the input reads as it did. -/
def fnExactLongestRunsSpec : ChangeSpec := { name := "fnExactLongestRuns", fn := fun _ => fun
  | [d] => { results := [.lit (.bool true)], args := [d] }
  | _ => none }
def fnExactLongestRunsRow : OpenClaim := { program := "ytkkbanbhiojllaa", sum := "55432087dd0cbc19eb25ade1f585c50b1a87f46c71126b8f3d0708468f28ee0b", func := "loop.example/g01133/laws.FnExactLongestRuns", spec := "fnExactLongestRuns", inPlace := ["internal/bytealg.IndexByteString", "internal/bytealg.IndexString"], unfollowed := true, recurses := true, named := ["internal/bytealg.MaxLen"], apart := false }
def FnExactLongestRunsSaid : Prop := fnExactLongestRunsRow.holds Try.pinned (OpenSpec.ofChange fnExactLongestRunsSpec)

/-- ITS FALSE NEIGHBOUR: 'it returns false'. Refute it at one input. -/
def fnExactLongestRunsWrong : ChangeSpec := { name := "fnExactLongestRuns", fn := fun _ => fun
  | [d] => { results := [.lit (.bool false)], args := [d] }
  | _ => none }
def FnExactLongestRunsWrongFalsely : Prop := fnExactLongestRunsRow.holds Try.pinned (OpenSpec.ofChange fnExactLongestRunsWrong)

/-- 'laws.FnExactRankOf': WHATEVER THE INPUT: true; the input reads as it did. -/
def fnExactRankOfSpec : ChangeSpec := { name := "fnExactRankOf", fn := fun _ => fun
  | [d1, d2, d3] => { results := [.lit (.bool true)], args := [d1, d2, d3] }
  | _ => none }
def fnExactRankOfRow : OpenClaim := { program := "ytkkbanbhiojllaa", sum := "55432087dd0cbc19eb25ade1f585c50b1a87f46c71126b8f3d0708468f28ee0b", func := "loop.example/g01133/laws.FnExactRankOf", spec := "fnExactRankOf", inPlace := ["internal/bytealg.IndexByteString", "internal/bytealg.IndexString"], unfollowed := true, recurses := true, named := ["internal/bytealg.MaxLen"], apart := false }
def FnExactRankOfSaid : Prop := fnExactRankOfRow.holds Try.pinned (OpenSpec.ofChange fnExactRankOfSpec)

/-- ITS FALSE NEIGHBOUR: 'it returns false'. Refute it at one input. -/
def fnExactRankOfWrong : ChangeSpec := { name := "fnExactRankOf", fn := fun _ => fun
  | [d1, d2, d3] => { results := [.lit (.bool false)], args := [d1, d2, d3] }
  | _ => none }
def FnExactRankOfWrongFalsely : Prop := fnExactRankOfRow.holds Try.pinned (OpenSpec.ofChange fnExactRankOfWrong)

/-- 'laws.FnExactSelectOf': WHATEVER THE INPUT: true; the input reads as it did. -/
def fnExactSelectOfSpec : ChangeSpec := { name := "fnExactSelectOf", fn := fun _ => fun
  | [d1, d2, d3] => { results := [.lit (.bool true)], args := [d1, d2, d3] }
  | _ => none }
def fnExactSelectOfRow : OpenClaim := { program := "ytkkbanbhiojllaa", sum := "55432087dd0cbc19eb25ade1f585c50b1a87f46c71126b8f3d0708468f28ee0b", func := "loop.example/g01133/laws.FnExactSelectOf", spec := "fnExactSelectOf", inPlace := ["internal/bytealg.IndexByteString", "internal/bytealg.IndexString"], unfollowed := true, recurses := true, named := ["internal/bytealg.MaxLen"], apart := false }
def FnExactSelectOfSaid : Prop := fnExactSelectOfRow.holds Try.pinned (OpenSpec.ofChange fnExactSelectOfSpec)

/-- ITS FALSE NEIGHBOUR: 'it returns false'. Refute it at one input. -/
def fnExactSelectOfWrong : ChangeSpec := { name := "fnExactSelectOf", fn := fun _ => fun
  | [d1, d2, d3] => { results := [.lit (.bool false)], args := [d1, d2, d3] }
  | _ => none }
def FnExactSelectOfWrongFalsely : Prop := fnExactSelectOfRow.holds Try.pinned (OpenSpec.ofChange fnExactSelectOfWrong)

/-- 'laws.FnExactEmbedFirst': WHATEVER THE INPUT: true; the input reads as it did. -/
def fnExactEmbedFirstSpec : ChangeSpec := { name := "fnExactEmbedFirst", fn := fun _ => fun
  | [d1, d2] => { results := [.lit (.bool true)], args := [d1, d2] }
  | _ => none }
def fnExactEmbedFirstRow : OpenClaim := { program := "ytkkbanbhiojllaa", sum := "55432087dd0cbc19eb25ade1f585c50b1a87f46c71126b8f3d0708468f28ee0b", func := "loop.example/g01133/laws.FnExactEmbedFirst", spec := "fnExactEmbedFirst", inPlace := ["internal/bytealg.IndexByteString", "internal/bytealg.IndexString"], unfollowed := true, recurses := true, named := ["internal/bytealg.MaxLen"], apart := false }
def FnExactEmbedFirstSaid : Prop := fnExactEmbedFirstRow.holds Try.pinned (OpenSpec.ofChange fnExactEmbedFirstSpec)

/-- ITS FALSE NEIGHBOUR: 'it returns false'. Refute it at one input. -/
def fnExactEmbedFirstWrong : ChangeSpec := { name := "fnExactEmbedFirst", fn := fun _ => fun
  | [d1, d2] => { results := [.lit (.bool false)], args := [d1, d2] }
  | _ => none }
def FnExactEmbedFirstWrongFalsely : Prop := fnExactEmbedFirstRow.holds Try.pinned (OpenSpec.ofChange fnExactEmbedFirstWrong)

/-- 'laws.FnExactEmbeddedStart': WHATEVER THE INPUT: true; the input reads as it did. -/
def fnExactEmbeddedStartSpec : ChangeSpec := { name := "fnExactEmbeddedStart", fn := fun _ => fun
  | [d1, d2] => { results := [.lit (.bool true)], args := [d1, d2] }
  | _ => none }
def fnExactEmbeddedStartRow : OpenClaim := { program := "ytkkbanbhiojllaa", sum := "55432087dd0cbc19eb25ade1f585c50b1a87f46c71126b8f3d0708468f28ee0b", func := "loop.example/g01133/laws.FnExactEmbeddedStart", spec := "fnExactEmbeddedStart", inPlace := ["internal/bytealg.IndexByteString", "internal/bytealg.IndexString"], unfollowed := true, recurses := true, named := ["internal/bytealg.MaxLen"], apart := false }
def FnExactEmbeddedStartSaid : Prop := fnExactEmbeddedStartRow.holds Try.pinned (OpenSpec.ofChange fnExactEmbeddedStartSpec)

/-- ITS FALSE NEIGHBOUR: 'it returns false'. Refute it at one input. -/
def fnExactEmbeddedStartWrong : ChangeSpec := { name := "fnExactEmbeddedStart", fn := fun _ => fun
  | [d1, d2] => { results := [.lit (.bool false)], args := [d1, d2] }
  | _ => none }
def FnExactEmbeddedStartWrongFalsely : Prop := fnExactEmbeddedStartRow.holds Try.pinned (OpenSpec.ofChange fnExactEmbeddedStartWrong)

/-- 'laws.FnExactSparePower': WHATEVER THE INPUT: true; the input reads as it did. -/
def fnExactSparePowerSpec : ChangeSpec := { name := "fnExactSparePower", fn := fun _ => fun
  | [d1, d2] => { results := [.lit (.bool true)], args := [d1, d2] }
  | _ => none }
def fnExactSparePowerRow : OpenClaim := { program := "ytkkbanbhiojllaa", sum := "55432087dd0cbc19eb25ade1f585c50b1a87f46c71126b8f3d0708468f28ee0b", func := "loop.example/g01133/laws.FnExactSparePower", spec := "fnExactSparePower", inPlace := ["internal/bytealg.IndexByteString", "internal/bytealg.IndexString"], unfollowed := true, recurses := true, named := ["internal/bytealg.MaxLen"], apart := false }
def FnExactSparePowerSaid : Prop := fnExactSparePowerRow.holds Try.pinned (OpenSpec.ofChange fnExactSparePowerSpec)

/-- ITS FALSE NEIGHBOUR: 'it returns false'. Refute it at one input. -/
def fnExactSparePowerWrong : ChangeSpec := { name := "fnExactSparePower", fn := fun _ => fun
  | [d1, d2] => { results := [.lit (.bool false)], args := [d1, d2] }
  | _ => none }
def FnExactSparePowerWrongFalsely : Prop := fnExactSparePowerRow.holds Try.pinned (OpenSpec.ofChange fnExactSparePowerWrong)

/- THE SECOND FORM. 'bulk': how many values and letters a reading holds, each counted each time it is reached (what is shared counts as often as it is met; a slice's spare places count too). A statement '..UptoSaid' is the law's where the arguments, and the package variables that the reading takes, are together of bulk at most 1048576: NARROWER than '..Said'. Prove '..Said' where nothing that the law and all that it calls make is longer than what came in: it says more and counts as full. Else prove '..UptoSaid'. A law counts once. -/
mutual
def uptoBulk {H : Type} : DataW H → Nat
  | .lit (.string bytes) => bytes.length + 1
  | .lit _ => 1
  | .nil => 1
  | .ptr d => uptoBulk d + 1
  | .slice elems spare => uptoBulkAll elems + uptoBulkAll spare + 1
  | .agg parts => uptoBulkAll parts + 1
  | .iface _ d => uptoBulk d + 1
  | .map entries => uptoBulkEntries entries + 1
  | .held _ => 1
def uptoBulkAll {H : Type} : List (DataW H) → Nat
  | [] => 0
  | d :: r => uptoBulk d + uptoBulkAll r
def uptoBulkEntries {H : Type} : List (Lit × DataW H) → Nat
  | [] => 0
  | x :: r => uptoBulkEntry x + uptoBulkEntries r
def uptoBulkEntry {H : Type} : Lit × DataW H → Nat
  | (.string bytes, d) => bytes.length + uptoBulk d + 1
  | (_, d) => uptoBulk d + 1
 end
def uptoSmall : (H : Type) → List (DataW H) → Bool := fun _ ds => decide (uptoBulkAll ds ≤ 1048576)
def OpenSpec.upto (s : _root_.Go.ChangeSpec) : _root_.Go.OpenSpec := { _root_.Go.OpenSpec.ofChange s with cond := some uptoSmall }

/-- 'laws.FnExactClimbOf', WHERE WHAT IT READS IS OF BULK AT MOST 1048576: true; the input reads as it did. -/
def fnExactClimbOfUptoRow : OpenClaim := { program := "ytkkbanbhiojllaa", sum := "55432087dd0cbc19eb25ade1f585c50b1a87f46c71126b8f3d0708468f28ee0b", func := "loop.example/g01133/laws.FnExactClimbOf", spec := "fnExactClimbOf", inPlace := ["internal/bytealg.IndexByteString", "internal/bytealg.IndexString"], unfollowed := true, recurses := true, named := ["internal/bytealg.MaxLen"], apart := false, narrowed := true }
def FnExactClimbOfUptoSaid : Prop := fnExactClimbOfUptoRow.holds Try.pinned (OpenSpec.upto fnExactClimbOfSpec)

/-- 'laws.FnExactIsBalanced', WHERE WHAT IT READS IS OF BULK AT MOST 1048576: true; the input reads as it did. -/
def fnExactIsBalancedUptoRow : OpenClaim := { program := "ytkkbanbhiojllaa", sum := "55432087dd0cbc19eb25ade1f585c50b1a87f46c71126b8f3d0708468f28ee0b", func := "loop.example/g01133/laws.FnExactIsBalanced", spec := "fnExactIsBalanced", inPlace := ["internal/bytealg.IndexByteString", "internal/bytealg.IndexString"], unfollowed := true, recurses := true, named := ["internal/bytealg.MaxLen"], apart := false, narrowed := true }
def FnExactIsBalancedUptoSaid : Prop := fnExactIsBalancedUptoRow.holds Try.pinned (OpenSpec.upto fnExactIsBalancedSpec)

/-- 'laws.FnExactFirstBelow', WHERE WHAT IT READS IS OF BULK AT MOST 1048576: true; the input reads as it did. -/
def fnExactFirstBelowUptoRow : OpenClaim := { program := "ytkkbanbhiojllaa", sum := "55432087dd0cbc19eb25ade1f585c50b1a87f46c71126b8f3d0708468f28ee0b", func := "loop.example/g01133/laws.FnExactFirstBelow", spec := "fnExactFirstBelow", inPlace := ["internal/bytealg.IndexByteString", "internal/bytealg.IndexString"], unfollowed := true, recurses := true, named := ["internal/bytealg.MaxLen"], apart := false, narrowed := true }
def FnExactFirstBelowUptoSaid : Prop := fnExactFirstBelowUptoRow.holds Try.pinned (OpenSpec.upto fnExactFirstBelowSpec)

/-- 'laws.FnExactClimbAt', WHERE WHAT IT READS IS OF BULK AT MOST 1048576: true; the input reads as it did. -/
def fnExactClimbAtUptoRow : OpenClaim := { program := "ytkkbanbhiojllaa", sum := "55432087dd0cbc19eb25ade1f585c50b1a87f46c71126b8f3d0708468f28ee0b", func := "loop.example/g01133/laws.FnExactClimbAt", spec := "fnExactClimbAt", inPlace := ["internal/bytealg.IndexByteString", "internal/bytealg.IndexString"], unfollowed := true, recurses := true, named := ["internal/bytealg.MaxLen"], apart := false, narrowed := true }
def FnExactClimbAtUptoSaid : Prop := fnExactClimbAtUptoRow.holds Try.pinned (OpenSpec.upto fnExactClimbAtSpec)

/-- 'laws.FnExactLongestRuns', WHERE WHAT IT READS IS OF BULK AT MOST 1048576: true; the input reads as it did. -/
def fnExactLongestRunsUptoRow : OpenClaim := { program := "ytkkbanbhiojllaa", sum := "55432087dd0cbc19eb25ade1f585c50b1a87f46c71126b8f3d0708468f28ee0b", func := "loop.example/g01133/laws.FnExactLongestRuns", spec := "fnExactLongestRuns", inPlace := ["internal/bytealg.IndexByteString", "internal/bytealg.IndexString"], unfollowed := true, recurses := true, named := ["internal/bytealg.MaxLen"], apart := false, narrowed := true }
def FnExactLongestRunsUptoSaid : Prop := fnExactLongestRunsUptoRow.holds Try.pinned (OpenSpec.upto fnExactLongestRunsSpec)

/-- 'laws.FnExactRankOf', WHERE WHAT IT READS IS OF BULK AT MOST 1048576: true; the input reads as it did. -/
def fnExactRankOfUptoRow : OpenClaim := { program := "ytkkbanbhiojllaa", sum := "55432087dd0cbc19eb25ade1f585c50b1a87f46c71126b8f3d0708468f28ee0b", func := "loop.example/g01133/laws.FnExactRankOf", spec := "fnExactRankOf", inPlace := ["internal/bytealg.IndexByteString", "internal/bytealg.IndexString"], unfollowed := true, recurses := true, named := ["internal/bytealg.MaxLen"], apart := false, narrowed := true }
def FnExactRankOfUptoSaid : Prop := fnExactRankOfUptoRow.holds Try.pinned (OpenSpec.upto fnExactRankOfSpec)

/-- 'laws.FnExactSelectOf', WHERE WHAT IT READS IS OF BULK AT MOST 1048576: true; the input reads as it did. -/
def fnExactSelectOfUptoRow : OpenClaim := { program := "ytkkbanbhiojllaa", sum := "55432087dd0cbc19eb25ade1f585c50b1a87f46c71126b8f3d0708468f28ee0b", func := "loop.example/g01133/laws.FnExactSelectOf", spec := "fnExactSelectOf", inPlace := ["internal/bytealg.IndexByteString", "internal/bytealg.IndexString"], unfollowed := true, recurses := true, named := ["internal/bytealg.MaxLen"], apart := false, narrowed := true }
def FnExactSelectOfUptoSaid : Prop := fnExactSelectOfUptoRow.holds Try.pinned (OpenSpec.upto fnExactSelectOfSpec)

/-- 'laws.FnExactEmbedFirst', WHERE WHAT IT READS IS OF BULK AT MOST 1048576: true; the input reads as it did. -/
def fnExactEmbedFirstUptoRow : OpenClaim := { program := "ytkkbanbhiojllaa", sum := "55432087dd0cbc19eb25ade1f585c50b1a87f46c71126b8f3d0708468f28ee0b", func := "loop.example/g01133/laws.FnExactEmbedFirst", spec := "fnExactEmbedFirst", inPlace := ["internal/bytealg.IndexByteString", "internal/bytealg.IndexString"], unfollowed := true, recurses := true, named := ["internal/bytealg.MaxLen"], apart := false, narrowed := true }
def FnExactEmbedFirstUptoSaid : Prop := fnExactEmbedFirstUptoRow.holds Try.pinned (OpenSpec.upto fnExactEmbedFirstSpec)

/-- 'laws.FnExactEmbeddedStart', WHERE WHAT IT READS IS OF BULK AT MOST 1048576: true; the input reads as it did. -/
def fnExactEmbeddedStartUptoRow : OpenClaim := { program := "ytkkbanbhiojllaa", sum := "55432087dd0cbc19eb25ade1f585c50b1a87f46c71126b8f3d0708468f28ee0b", func := "loop.example/g01133/laws.FnExactEmbeddedStart", spec := "fnExactEmbeddedStart", inPlace := ["internal/bytealg.IndexByteString", "internal/bytealg.IndexString"], unfollowed := true, recurses := true, named := ["internal/bytealg.MaxLen"], apart := false, narrowed := true }
def FnExactEmbeddedStartUptoSaid : Prop := fnExactEmbeddedStartUptoRow.holds Try.pinned (OpenSpec.upto fnExactEmbeddedStartSpec)

/-- 'laws.FnExactSparePower', WHERE WHAT IT READS IS OF BULK AT MOST 1048576: true; the input reads as it did. -/
def fnExactSparePowerUptoRow : OpenClaim := { program := "ytkkbanbhiojllaa", sum := "55432087dd0cbc19eb25ade1f585c50b1a87f46c71126b8f3d0708468f28ee0b", func := "loop.example/g01133/laws.FnExactSparePower", spec := "fnExactSparePower", inPlace := ["internal/bytealg.IndexByteString", "internal/bytealg.IndexString"], unfollowed := true, recurses := true, named := ["internal/bytealg.MaxLen"], apart := false, narrowed := true }
def FnExactSparePowerUptoSaid : Prop := fnExactSparePowerUptoRow.holds Try.pinned (OpenSpec.upto fnExactSparePowerSpec)

end Rows
end Go.Proofs.Ytkkbanbhiojllaa
